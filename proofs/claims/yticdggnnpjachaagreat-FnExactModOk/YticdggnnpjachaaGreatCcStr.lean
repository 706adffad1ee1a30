/-
 Strings made of byte slices: what 'string(b)' tells where b is a row of the call's own; rows that are filled place by place; what strings are as lists of numbers. No program is spoken of.
-/
import Derived.Laws.BytesArg
import Derived.Test.YticdggnnpjachaaGreatCcAid
namespace Go.Proofs.YticdggnnpjachaaGreat
open Go.RowKit Go.PlainAid
def zci (w:World) (base:Nat) (e:TypeId) (v:Value) (n:Nat) (xs:List Int):Prop:=w.ownsRow base e 1 v n (xs.map (Value.int .u8))
theorem zg7 {P:Program} {w:World} {src dst e:TypeId} (I:P.underlying src=some (.slice e)) (H:P.underlying e=some (.int .u8)) (E:P.underlying dst=some .string)
  {j n:Nat} {v:Value} {xs:List Int} (h:zci w j e v n xs):(convert src dst v).run P w= .ok (.string (strOfNums xs)) w:=by
 obtain⟨z,O⟩:=h
 rw[List.length_map,Nat.mul_one] at z
 rcases O with ⟨rfl,rfl⟩|⟨g,o,D,rfl,K,J,L,M,A,N⟩
 ·obtain rfl:=List.length_eq_zero_iff.1 z
  exact run_convert_bytes_nil w src e I H 0 0 dst E
 ·refine run_convert_bytes_arg w src e I H g 0 n o xs z (fun i U=>?_) dst E
  have q:w.ownsRow j e 1 (.slice (some ⟨g,0,none⟩) n o) n (xs.map (Value.int .u8)):=⟨by simpa using z,.inr ⟨g,o,D,rfl,K,J,L,M,A,N⟩⟩
  have:=q.cellAt i (by omega)
  rw[Nat.zero_add,this]
  simp[List.getD,List.getElem?_eq_getElem (show i<xs.length by omega)]
theorem zg8 {P:Program} {src dst e:TypeId} (n:P.underlying src=some (.slice e)) (j:P.underlying e=some (.int .u8)) (h:P.underlying dst=some .string)
  (w:World) (x:Int):(convert src dst (.slice (some ⟨w.heap.size,0,none⟩) 1 1)).run P (w.alloc (.cells #[.int .u8 x] e))= .ok (.string (strOfNums [x])) (w.alloc (.cells #[.int .u8 x] e)):=by
 refine run_convert_bytes_arg _ src e n j w.heap.size 0 1 1 [x] rfl (fun i o=>?_) dst h
 obtain rfl:i=0:=by omega
 rw[World.cell?_alloc_new]
 rfl
theorem zj0 (xs h:List Int):strOfNums xs++strOfNums h=strOfNums (xs++h):=by
 unfold strOfNums
 rw[ByteArray.mk_append_mk,List.map_append]
theorem zeH (x:Int) (h:List Int):strOfNums [x]++strOfNums h=strOfNums (x::h):=zj0 [x] h
def zqP (L:List Int) (k:Nat):List Int:=L.take k++List.replicate (L.length-k) 0
def zcj (L:List Int) (k:Nat):List Int:=List.replicate (L.length-k) 0++L.drop (L.length-k)
theorem zg9 (L:List Int):zcj L 0=List.replicate L.length 0:=by simp[zcj]
theorem zgA (L:List Int) (k:Nat) (x:Int) (h:k<L.length) (n:L[L.length-1-k]? =some x):(zcj L k).set (L.length-1-k) x=zcj L (k+1):=by
 have q:List.replicate (L.length-k) (0:Int)=List.replicate (L.length-(k+1)) 0++[0]:=by
  rw[show L.length-k=(L.length-(k+1))+1 from by omega,List.replicate_succ']
 have o:L.drop (L.length-(k+1))=x::L.drop (L.length-k):=by
  have e:L.length-(k+1)=L.length-1-k:=by omega
  rw[e]
  have j:L.length-1-k<L.length:=by omega
  rw[List.drop_eq_getElem_cons j]
  rw[List.getElem?_eq_getElem j] at n
  simp only[Option.some.injEq] at n
  rw[n,show L.length-1-k+1=L.length-k from by omega]
 unfold zcj
 rw[q,o,List.append_assoc,List.set_append_right _ _ (by simp;omega),List.length_replicate,show L.length-1-k-(L.length-(k+1))=0 from by omega]
 rfl
theorem zf6 {w:World} {B g n o:Nat} {e:TypeId} {L:List Int} (h:zci w B e (.slice (some ⟨g,0,none⟩) n o) n L) (j:Nat) (x:Int):
  zci (w.setCell ⟨g,j,none⟩ (.int .u8 x)) B e (.slice (some ⟨g,0,none⟩) n o) n (L.set j x):=by
 unfold zci at h ⊢
 rw[List.map_set]
 exact (h.stored j (.int .u8 x)).1
theorem zf7 {w:World} {B g n o:Nat} {e:TypeId} {L:List Int} (h:zci w B e (.slice (some ⟨g,0,none⟩) n o) n L) (j:Nat) (z:j<n): ∃v,w.cell? ⟨g,j,none⟩=some v:=by
 unfold zci at h
 have q:=h.1
 rw[List.length_map,Nat.mul_one] at q
 rw[h.cellAt j (by omega)]
 simp[List.getElem?_eq_getElem (show j<L.length by omega)]
theorem zf8 {w:World} {B g n o:Nat} {e:TypeId} {L:List Int} (h:zci w B e (.slice (some ⟨g,0,none⟩) n o) n L) (j:Nat):w.frozen? ⟨g,j,none⟩=false:=World.ownsRow.frozenAt h j
def dl (n:Int):Nat→List Int
 |0=>[]
 |k+1=>(n/2^(8*k)%256)::dl n k
def zj1 (n m:Int):Bool:=inB m 1 7&&decide (0≤n)&&decide (n/2^(8*m.toNat)=0)
def fxL (n m:Int):List Int:=if zj1 n m then dl n m.toNat else []
end Go.Proofs.YticdggnnpjachaaGreat