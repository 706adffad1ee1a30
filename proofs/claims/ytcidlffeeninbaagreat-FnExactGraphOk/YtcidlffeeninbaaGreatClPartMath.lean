/-
 Where a part of a path ends,and what a row of parts is joined to: plain facts. No program is spoken of.
-/
import Derived.Test.YtcidlffeeninbaaGreatClTwoModToFileMath
import Derived.Lib.Join
import Derived.Lib.IndexLaws
namespace Go.Proofs.YtcidlffeeninbaaGreat
open Go.RowKit Go.PlainAid
def zgQ (s:ByteArray) (a e:Nat):Prop:=a≤e∧e≤s.size∧(∀j,a≤j→j<e→bt s j≠47)∧(e<s.size→bt s e=47)
theorem zvh {s:ByteArray} {a e:Nat} {xs:List ByteArray} (h:zW s a=(a,xs)) (z:zgQ s a e):zW s e=(a,xs):=by
 obtain⟨E,H,w,_⟩:=z
 have q: ∀d,a+d≤e→zW s (a+d)=(a,xs):=by
  intro d
  induction d with
  |zero=>intro _;exact h
  |succ d A=>
   intro D
   rw[show a+(d+1)=a+d+1 from by omega,zjM (by omega) (w (a+d) (by omega) (by omega))]
   exact A (by omega)
 have:=q (e-a) (by omega)
 rwa[show a+(e-a)=e from by omega] at this
theorem zmj {s:ByteArray} {a e:Nat} {xs:List ByteArray} (h:zW s a=(a,xs)) (q:zgQ s a e):zW s (e+1)=(e+1,upd (s.extract a e) xs):=by
 have w:=zvh h q
 rw[zjN (fun k=>k.2 (q.2.2.2 k.1)),w]
theorem zvi {s:ByteArray} (h:bt s 0=47):zW s 1=(1,[]):=by
 have q:zW s 0=(0,[]):=rfl
 have:=zmj q (e:=0) ⟨Nat.le_refl _,Nat.zero_le _,fun j _ w=>absurd w (by omega),fun _=>h⟩
 rw[this,zgu (by
  have e:s.extract 0 0={data:=#[]}:=zfM (by rw[Lib.extract_data];simp)
  rw[e,Lib.toList_data];rfl)]
theorem zvj (s:ByteArray) (k:Nat):s.data.toList[k]? =some 47↔k<s.size∧bt s k=47:=by
 by_cases q:k<s.size
 ·have w:k<s.data.toList.length:=by rw[Array.length_toList];exact q
  have z:bt s k=((s.data.toList[k]).toNat:Int):=by rw[zdu];simp[List.getD,List.getElem?_eq_getElem w]
  rw[List.getElem?_eq_getElem w,z]
  refine⟨fun h=>⟨q,by simp only[Option.some.injEq] at h;rw[h];rfl⟩,fun h=>?_⟩
  have A:=h.2
  have:(s.data.toList[k])=47:=by
   apply UInt8.toNat_inj.1
   show (s.data.toList[k]).toNat=47
   omega
  rw[this]
 ·have w:s.data.toList.length≤k:=by rw[Array.length_toList];exact Nat.le_of_not_lt q
  rw[List.getElem?_eq_none w]
  simp[q]
theorem ziy (s:ByteArray) (a k:Nat):(s.extract a s.size).data.toList[k]? =some 47↔a+k<s.size∧bt s (a+k)=47:=by
 rw[Lib.extract_data,←zvj]
 have h:(s.data.toList.drop a).length=s.size-a:=by rw[List.length_drop,Array.length_toList];rfl
 rw[List.take_of_length_le (by omega),List.getElem?_drop]
def zcG (s:ByteArray) (a:Nat):Nat:=if 0≤Lib.indexByte (s.extract a s.size).data.toList 47 then a+(Lib.indexByte (s.extract a s.size).data.toList 47).toNat else s.size
theorem zmk (s:ByteArray) (a:Nat) (J:a≤s.size):zgQ s a (zcG s a):=by
 have H:=Lib.indexByte_ge (s.extract a s.size).data.toList 47
 unfold zcG
 split
 ·rename_i h
  obtain⟨o,D⟩: ∃o:Nat,Lib.indexByte (s.extract a s.size).data.toList 47=o:=⟨_,(Int.toNat_of_nonneg h).symm⟩
  obtain⟨w,I⟩:=Lib.indexByte_some D
  rw[D,Int.toNat_natCast]
  have E:=(ziy s a o).1 w
  refine⟨by omega,by omega,fun j A q z=>?_,fun _=>E.2⟩
  have:=I (j-a) (by omega)
  apply this
  rw[ziy,show a+(j-a)=j from by omega]
  exact⟨by omega,z⟩
 ·rename_i h
  have w:Lib.indexByte (s.extract a s.size).data.toList 47= -1:=by omega
  refine⟨J,Nat.le_refl _,fun j A q z=>?_,fun h=>absurd h (Nat.lt_irrefl _)⟩
  apply Lib.indexByte_none w (j-a)
  rw[ziy,show a+(j-a)=j from by omega]
  exact⟨q,z⟩
theorem zvk {s:ByteArray} {a:Nat} {o:Int} (q:0≤o) (h:Lib.indexByte (s.extract a s.size).data.toList 47=o):(a:Int)+o=(zcG s a:Int):=by
 rw[zcG,h,if_pos q,Int.natCast_add,Int.toNat_of_nonneg q]
theorem zvl {s:ByteArray} {a:Nat} (h: ¬0≤Lib.indexByte (s.extract a s.size).data.toList 47):zcG s a=s.size:=by
 rw[zcG,if_neg h]
theorem zvm (l:List ByteArray) (k:Nat) (z:k≤l.length):(zcl l k).data.toList=Lib.joinTail [47] ((l.take k).map (·.data.toList)):=by
 induction k with
 |zero=>rfl
 |succ k q=>
  have h:k<l.length:=by omega
  have e:l.take (k+1)=l.take k++[l[k]]:=by rw[List.take_add_one,List.getElem?_eq_getElem h];rfl
  have w:l.getD k {data:=#[]}=l[k]:=by simp[List.getD,List.getElem?_eq_getElem h]
  rw[zcl,zfN,zfN,q (by omega),e,w,List.map_append,Lib.joinTail,Lib.joinTail,List.map_append,List.flatten_append,List.append_assoc]
  congr 1
  simp
theorem zml {s:ByteArray} (q:zaS s=true):({data:=#[47]}:ByteArray)++⟨(Lib.join ((parts s).map (·.data.toList)) [47]).toArray⟩=zaH s:=by
 apply zfM
 by_cases h:(parts s).length=0
 ·rw[zh7 q h,List.length_eq_zero_iff.1 h,zfN]
  rfl
 ·rw[zh8 q h,zvm _ _ (Nat.le_refl _),List.take_length,zfN]
  cases w:parts s with
  |nil=>rw[w] at h;exact absurd rfl h
  |cons x r=>
   show [47]++Lib.join ((x::r).map (·.data.toList)) [47]=_
   rw[List.map_cons,Lib.join_cons]
   simp[Lib.joinTail]
theorem zmm (s:ByteArray):(parts s).length≤s.size+1:=(zh2 s _).2
theorem zvn (s:ByteArray) (h:zaS s=true):(Lib.join ((parts s).map (·.data.toList)) [47]).length≤2000:=by
 have w:s.size≤40:=(zdD.1 h).2.1
 have e:=congrArg ByteArray.size (zml h)
 rw[ByteArray.size_append] at e
 have z:(⟨(Lib.join ((parts s).map (·.data.toList)) [47]).toArray⟩:ByteArray).size=(Lib.join ((parts s).map (·.data.toList)) [47]).length:=rfl
 rw[z] at e
 have E:(zaH s).size≤2000:=by
  by_cases q:(parts s).length=0
  ·rw[zh7 h q];decide
  ·rw[zh8 h q]
   have A:=zjQ s (parts s) (zjO s _) (parts s).length
   have D:(parts s).length*(s.size+1)≤41*41:=Nat.mul_le_mul (by have:=zmm s;omega) (by omega)
   omega
 omega
end Go.Proofs.YtcidlffeeninbaaGreat