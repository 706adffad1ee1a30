/-
  Strings made of byte slices: what 'string(b)' tells where b is a row of the call's own; rows that are filled place by place; what strings are as lists of numbers. No program is spoken of.
  Plain facts on numbers of seven bits a byte. No program is spoken of.
-/
import Derived.Laws.BytesArg
import Derived.Test.YticdggnnpjachaaGreatCbAid
namespace Go.Proofs.YticdggnnpjachaaGreat
open Go.RowKit Go.PlainAid
def zbj (w:World) (base:Nat) (e:TypeId) (v:Value) (n:Nat) (xs:List Int):Prop:=w.ownsRow base e 1 v n (xs.map (Value.int .u8))
theorem zfV {P:Program} {w:World} {src dst e:TypeId} (E:P.underlying src=some (.slice e)) (H:P.underlying e=some (.int .u8)) (I:P.underlying dst=some .string)
  {j n:Nat} {v:Value} {xs:List Int} (h:zbj w j e v n xs):(convert src dst v).run P w= .ok (.string (strOfNums xs)) w:=by
 obtain⟨z,K⟩:=h
 rw[List.length_map,Nat.mul_one] at z
 rcases K with ⟨rfl,rfl⟩|⟨g,o,A,rfl,O,M,J,L,D,N⟩
 ·obtain rfl:=List.length_eq_zero_iff.1 z
  exact run_convert_bytes_nil w src e E H 0 0 dst I
 ·refine run_convert_bytes_arg w src e E H g 0 n o xs z (fun i Q=>?_) dst I
  have q:w.ownsRow j e 1 (.slice (some ⟨g,0,none⟩) n o) n (xs.map (Value.int .u8)):=⟨by simpa using z,.inr ⟨g,o,A,rfl,O,M,J,L,D,N⟩⟩
  have:=q.cellAt i (by omega)
  rw[Nat.zero_add,this]
  simp[List.getD,List.getElem?_eq_getElem (show i<xs.length by omega)]
theorem zfW {P:Program} {src dst e:TypeId} (o:P.underlying src=some (.slice e)) (n:P.underlying e=some (.int .u8)) (j:P.underlying dst=some .string)
  (w:World) (x:Int):(convert src dst (.slice (some ⟨w.heap.size,0,none⟩) 1 1)).run P (w.alloc (.cells #[.int .u8 x] e))= .ok (.string (strOfNums [x])) (w.alloc (.cells #[.int .u8 x] e)):=by
 refine run_convert_bytes_arg _ src e o n w.heap.size 0 1 1 [x] rfl (fun i q=>?_) dst j
 obtain rfl:i=0:=by omega
 rw[World.cell?_alloc_new]
 rfl
theorem zkq (xs j:List Int):strOfNums xs++strOfNums j=strOfNums (xs++j):=by
 unfold strOfNums
 rw[ByteArray.mk_append_mk,List.map_append]
theorem zfi (x:Int) (j:List Int):strOfNums [x]++strOfNums j=strOfNums (x::j):=zkq [x] j
def zrD (L:List Int) (k:Nat):List Int:=L.take k++List.replicate (L.length-k) 0
def zcs (L:List Int) (k:Nat):List Int:=List.replicate (L.length-k) 0++L.drop (L.length-k)
theorem zhw (L:List Int):zcs L 0=List.replicate L.length 0:=by simp[zcs]
theorem zhx (L:List Int) (k:Nat) (x:Int) (h:k<L.length) (n:L[L.length-1-k]? =some x):(zcs L k).set (L.length-1-k) x=zcs L (k+1):=by
 have q:List.replicate (L.length-k) (0:Int)=List.replicate (L.length-(k+1)) 0++[0]:=by
  rw[show L.length-k=(L.length-(k+1))+1 from by omega,List.replicate_succ']
 have o:L.drop (L.length-(k+1))=x::L.drop (L.length-k):=by
  have e:L.length-(k+1)=L.length-1-k:=by omega
  rw[e]
  have j:L.length-1-k<L.length:=by omega
  rw[List.drop_eq_getElem_cons j]
  rw[List.getElem?_eq_getElem j] at n
  simp only[Option.some.injEq] at n
  rw[n,show L.length-1-k+1=L.length-k from by omega]
 unfold zcs
 rw[q,o,List.append_assoc,List.set_append_right _ _ (by simp;omega),List.length_replicate,show L.length-1-k-(L.length-(k+1))=0 from by omega]
 rfl
theorem zfX {w:World} {B g n o:Nat} {e:TypeId} {L:List Int} (h:zbj w B e (.slice (some ⟨g,0,none⟩) n o) n L) (j:Nat) (x:Int):
  zbj (w.setCell ⟨g,j,none⟩ (.int .u8 x)) B e (.slice (some ⟨g,0,none⟩) n o) n (L.set j x):=by
 unfold zbj at h ⊢
 rw[List.map_set]
 exact (h.stored j (.int .u8 x)).1
theorem zfY {w:World} {B g n o:Nat} {e:TypeId} {L:List Int} (h:zbj w B e (.slice (some ⟨g,0,none⟩) n o) n L) (j:Nat) (z:j<n): ∃v,w.cell? ⟨g,j,none⟩=some v:=by
 unfold zbj at h
 have q:=h.1
 rw[List.length_map,Nat.mul_one] at q
 rw[h.cellAt j (by omega)]
 simp[List.getElem?_eq_getElem (show j<L.length by omega)]
theorem zfZ {w:World} {B g n o:Nat} {e:TypeId} {L:List Int} (h:zbj w B e (.slice (some ⟨g,0,none⟩) n o) n L) (j:Nat):w.frozen? ⟨g,j,none⟩=false:=World.ownsRow.frozenAt h j
def dl (n:Int):Nat→List Int
 |0=>[]
 |k+1=>(n/2^(8*k)%256)::dl n k
def zkr (n m:Int):Bool:=inB m 1 7&&decide (0≤n)&&decide (n/2^(8*m.toNat)=0)
def fxL (n m:Int):List Int:=if zkr n m then dl n m.toNat else []
def vl:Nat→Int→List Int
 |0,q=>[q]
 |f+1,q=>if q<128 then [q] else (q%128+128)::vl f (q/128)
def zrE (n:Int) (k:Nat) (acc:List Int) (q:Int):Prop:=
 k≤6∧acc.length=k∧0≤q∧q≤n∧q*128^k≤n∧acc++vl (6-k) q=vl 6 n
def zks (n:Int):List Int:=if inB n 0 562949953421311 then vl 6 n else []
end Go.Proofs.YticdggnnpjachaaGreat
