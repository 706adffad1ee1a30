/-
 Plain facts on texts as lists of numbers. No program is spoken of.
-/
import Derived.Test.YthfeoomfiafldaaGreatCdStrToVarMath
import Derived.Lib.Strings
namespace Go.Proofs.YthfeoomfiafldaaGreat
open Go.RowKit Go.PlainAid
def bsl (s:ByteArray):Nat→Nat→List Int
 |_,0=>[]
 |i,m+1=>bt s i::bsl s (i+1) m
theorem zmS (s:ByteArray) (i m:Nat):(bsl s i m).length=m:=by
 induction m generalizing i with
 |zero=>rfl
 |succ m j=>simp[bsl,j]
theorem zmT (s:ByteArray) (i:Nat) (h:i<s.data.toList.length):UInt8.ofNat (bt s i).toNat=s.data.toList[i]:=by
 have j:i<s.size:=by simpa using h
 rw[←get_bt s i j,Int.toNat_natCast,UInt8.ofNat_toNat]
 rfl
theorem zmU (s:ByteArray) (i m:Nat) (h:i+m≤s.size):(bsl s i m).map (fun n=>UInt8.ofNat n.toNat)=(s.data.toList.drop i).take m:=by
 induction m generalizing i with
 |zero=>simp[bsl]
 |succ m o=>
  have j:i<s.data.toList.length:=by rw[Array.length_toList];exact Nat.lt_of_lt_of_le (show i<i+(m+1) by omega) h
  rw[bsl,List.map_cons,o (i+1) (by omega),List.drop_eq_getElem_cons j,List.take_succ_cons,zmT s i j]
theorem zjq (s:ByteArray) (k:Nat) (h:k≤s.size):s.extract 0 k=strOfNums (bsl s 0 k):=by
 have e:(s.extract 0 k).data.toList=(strOfNums (bsl s 0 k)).data.toList:=by
  rw[Lib.extract_data,strOfNums_data,zmU s 0 k (by omega),Nat.sub_zero]
 have j:(s.extract 0 k).data=(strOfNums (bsl s 0 k)).data:=by
  rw[←Array.toArray_toList (xs:=(s.extract 0 k).data),e,Array.toArray_toList]
 have o: ∀a b:ByteArray,a.data=b.data→a=b:=by rintro⟨a⟩ ⟨b⟩ h;cases h;rfl
 exact o _ _ j
theorem zgo {a b:ByteArray} (h:a.data.toList=b.data.toList):a=b:=by
 obtain⟨⟨a⟩⟩:=a
 obtain⟨⟨b⟩⟩:=b
 simp only at h
 rw[h]
theorem zeF (a b:ByteArray):(a.toList==b.toList)=true↔a=b:=by
 rw[beq_iff_eq,Lib.toList_data,Lib.toList_data]
 exact⟨zgo,fun h=>by rw[h]⟩
theorem zmV (s:ByteArray):s=strOfNums (bsl s 0 s.size):=by
 rw[←zjq s s.size (Nat.le_refl _)]
 refine zgo ?_
 rw[Lib.extract_data,List.drop_zero,Nat.sub_zero,List.take_of_length_le]
 rw[Array.length_toList]
 exact Nat.le_refl _
theorem zdr (s:ByteArray) (k:Nat):bt s k=(s.data.toList.map (fun b=>(b.toNat:Int))).getD k 0:=by
 unfold bt
 by_cases h:k<s.size
 ·rw[dif_pos h]
  have j:k<s.data.toList.length:=by rw[Array.length_toList];exact h
  simp only[List.getD,List.getElem?_map,List.getElem?_eq_getElem j,Option.map_some,Option.getD_some]
  rfl
 ·rw[dif_neg h]
  have j:s.data.toList.length≤k:=by rw[Array.length_toList];exact Nat.le_of_not_lt h
  simp[List.getD,List.getElem?_eq_none j]
end Go.Proofs.YthfeoomfiafldaaGreat