/-
  Strings made of byte slices: what 'string(b)' tells where b is a row of the call's own; rows that are filled place by place; what strings are as lists of numbers. No program is spoken of.
  Plain facts on numbers of seven bits a byte. No program is spoken of.
-/
import Derived.Laws.BytesArg
import Derived.Test.YthfeoomfiafldaaGreatCdAid
namespace Go.Proofs.YthfeoomfiafldaaGreat
open Go.RowKit Go.PlainAid
def zb6 (w:World) (base:Nat) (e:TypeId) (v:Value) (n:Nat) (xs:List Int):Prop:=w.ownsRow base e 1 v n (xs.map (Value.int .u8))
theorem zhw {P:Program} {w:World} {src dst e:TypeId} (I:P.underlying src=some (.slice e)) (J:P.underlying e=some (.int .u8)) (hd:P.underlying dst=some .string)
  {j n:Nat} {v:Value} {xs:List Int} (h:zb6 w j e v n xs):(convert src dst v).run P w= .ok (.string (strOfNums xs)) w:=by
 obtain⟨D,N⟩:=h
 rw[List.length_map,Nat.mul_one] at D
 rcases N with ⟨rfl,rfl⟩|⟨g,o,H,rfl,Q,O,K,L,E,M⟩
 ·obtain rfl:=List.length_eq_zero_iff.1 D
  exact run_convert_bytes_nil w src e I J 0 0 dst hd
 ·refine run_convert_bytes_arg w src e I J g 0 n o xs D (fun i U=>?_) dst hd
  have z:w.ownsRow j e 1 (.slice (some ⟨g,0,none⟩) n o) n (xs.map (Value.int .u8)):=⟨by simpa using D,.inr ⟨g,o,H,rfl,Q,O,K,L,E,M⟩⟩
  have:=z.cellAt i (by omega)
  rw[Nat.zero_add,this]
  simp[List.getD,List.getElem?_eq_getElem (show i<xs.length by omega)]
theorem zhx {P:Program} {src dst e:TypeId} (j:P.underlying src=some (.slice e)) (o:P.underlying e=some (.int .u8)) (hd:P.underlying dst=some .string)
  (w:World) (x:Int):(convert src dst (.slice (some ⟨w.heap.size,0,none⟩) 1 1)).run P (w.alloc (.cells #[.int .u8 x] e))= .ok (.string (strOfNums [x])) (w.alloc (.cells #[.int .u8 x] e)):=by
 refine run_convert_bytes_arg _ src e j o w.heap.size 0 1 1 [x] rfl (fun i z=>?_) dst hd
 obtain rfl:i=0:=by omega
 rw[World.cell?_alloc_new]
 rfl
theorem zmP (xs j:List Int):strOfNums xs++strOfNums j=strOfNums (xs++j):=by
 unfold strOfNums
 rw[ByteArray.mk_append_mk,List.map_append]
theorem zgn (x:Int) (j:List Int):strOfNums [x]++strOfNums j=strOfNums (x::j):=zmP [x] j
def zv8 (L:List Int) (k:Nat):List Int:=L.take k++List.replicate (L.length-k) 0
def zcA (L:List Int) (k:Nat):List Int:=List.replicate (L.length-k) 0++L.drop (L.length-k)
theorem zjo (L:List Int):zcA L 0=List.replicate L.length 0:=by simp[zcA]
theorem zjp (L:List Int) (k:Nat) (x:Int) (h:k<L.length) (o:L[L.length-1-k]? =some x):(zcA L k).set (L.length-1-k) x=zcA L (k+1):=by
 have z:List.replicate (L.length-k) (0:Int)=List.replicate (L.length-(k+1)) 0++[0]:=by
  rw[show L.length-k=(L.length-(k+1))+1 from by omega,List.replicate_succ']
 have hd:L.drop (L.length-(k+1))=x::L.drop (L.length-k):=by
  have e:L.length-(k+1)=L.length-1-k:=by omega
  rw[e]
  have j:L.length-1-k<L.length:=by omega
  rw[List.drop_eq_getElem_cons j]
  rw[List.getElem?_eq_getElem j] at o
  simp only[Option.some.injEq] at o
  rw[o,show L.length-1-k+1=L.length-k from by omega]
 unfold zcA
 rw[z,hd,List.append_assoc,List.set_append_right _ _ (by simp;omega),List.length_replicate,show L.length-1-k-(L.length-(k+1))=0 from by omega]
 rfl
theorem zhy {w:World} {B g n o:Nat} {e:TypeId} {L:List Int} (h:zb6 w B e (.slice (some ⟨g,0,none⟩) n o) n L) (j:Nat) (x:Int):
  zb6 (w.setCell ⟨g,j,none⟩ (.int .u8 x)) B e (.slice (some ⟨g,0,none⟩) n o) n (L.set j x):=by
 unfold zb6 at h ⊢
 rw[List.map_set]
 exact (h.stored j (.int .u8 x)).1
theorem zhz {w:World} {B g n o:Nat} {e:TypeId} {L:List Int} (h:zb6 w B e (.slice (some ⟨g,0,none⟩) n o) n L) (j:Nat) (D:j<n): ∃v,w.cell? ⟨g,j,none⟩=some v:=by
 unfold zb6 at h
 have z:=h.1
 rw[List.length_map,Nat.mul_one] at z
 rw[h.cellAt j (by omega)]
 simp[List.getElem?_eq_getElem (show j<L.length by omega)]
theorem zh0 {w:World} {B g n o:Nat} {e:TypeId} {L:List Int} (h:zb6 w B e (.slice (some ⟨g,0,none⟩) n o) n L) (j:Nat):w.frozen? ⟨g,j,none⟩=false:=World.ownsRow.frozenAt h j
def dl (n:Int):Nat→List Int
 |0=>[]
 |k+1=>(n/2^(8*k)%256)::dl n k
def zmQ (n m:Int):Bool:=inB m 1 7&&decide (0≤n)&&decide (n/2^(8*m.toNat)=0)
def fxL (n m:Int):List Int:=if zmQ n m then dl n m.toNat else []
def vl:Nat→Int→List Int
 |0,q=>[q]
 |f+1,q=>if q<128 then [q] else (q%128+128)::vl f (q/128)
def zv9 (n:Int) (k:Nat) (acc:List Int) (q:Int):Prop:=
 k≤6∧acc.length=k∧0≤q∧q≤n∧q*128^k≤n∧acc++vl (6-k) q=vl 6 n
def zmR (n:Int):List Int:=if inB n 0 562949953421311 then vl 6 n else []
end Go.Proofs.YthfeoomfiafldaaGreat
