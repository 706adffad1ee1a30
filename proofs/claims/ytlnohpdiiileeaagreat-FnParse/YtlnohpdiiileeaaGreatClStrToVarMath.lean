/-
  Strings made of byte slices: what 'string(b)' tells where b is a row of the call's own; rows that are filled place by place; what strings are as lists of numbers. No program is spoken of.
  Plain facts on numbers of seven bits a byte. No program is spoken of.
-/
import Derived.WalkKit
import Derived.Laws.BytesArg
import Derived.Test.YtlnohpdiiileeaaGreatClAid
namespace Go.Proofs.YtlnohpdiiileeaaGreat
open Go.RowKit Go.PlainAid
/-- The value v owns a row of bytes: of the numbers xs. -/
def OwnB (w:World) (base:Nat) (e:TypeId) (v:Value) (n:Nat) (xs:List Int):Prop:=w.ownsRow base e 1 v n (xs.map (Value.int .u8))
theorem zlc {P:Program} {w:World} {src dst e:TypeId} (hs:P.underlying src=some (.slice e)) (he:P.underlying e=some (.int .u8)) (hd:P.underlying dst=some .string)
  {base n:Nat} {v:Value} {xs:List Int} (h:OwnB w base e v n xs):(convert src dst v).run P w= .ok (.string (strOfNums xs)) w:=by
 obtain⟨hl,hc⟩:=h
 rw[List.length_map,Nat.mul_one] at hl
 rcases hc with ⟨rfl,rfl⟩|⟨g,cap,cur,rfl,hb,hg,hn,hm,hcs,ht⟩
 ·obtain rfl:=List.length_eq_zero_iff.1 hl
  exact run_convert_bytes_nil w src e hs he 0 0 dst hd
 ·refine run_convert_bytes_arg w src e hs he g 0 n cap xs hl (fun i hi=>?_) dst hd
  have hown:w.ownsRow base e 1 (.slice (some ⟨g,0,none⟩) n cap) n (xs.map (Value.int .u8)):=⟨by simpa using hl,.inr ⟨g,cap,cur,rfl,hb,hg,hn,hm,hcs,ht⟩⟩
  have:=hown.cellAt i (by omega)
  rw[Nat.zero_add,this]
  simp[List.getD,List.getElem?_eq_getElem (show i<xs.length by omega)]
theorem zld {P:Program} {src dst e:TypeId} (hs:P.underlying src=some (.slice e)) (he:P.underlying e=some (.int .u8)) (hd:P.underlying dst=some .string)
  (w:World) (x:Int):(convert src dst (.slice (some ⟨w.heap.size,0,none⟩) 1 1)).run P (w.alloc (.cells #[.int .u8 x] e))= .ok (.string (strOfNums [x])) (w.alloc (.cells #[.int .u8 x] e)):=by
 refine run_convert_bytes_arg _ src e hs he w.heap.size 0 1 1 [x] rfl (fun i hi=>?_) dst hd
 obtain rfl:i=0:=by omega
 rw[World.cell?_alloc_new]
 rfl
theorem ztv (xs ys:List Int):strOfNums xs++strOfNums ys=strOfNums (xs++ys):=by
 unfold strOfNums
 rw[ByteArray.mk_append_mk,List.map_append]
theorem zix (x:Int) (ys:List Int):strOfNums [x]++strOfNums ys=strOfNums (x::ys):=ztv [x] ys
/-- The first k places hold what they shall hold, the others 0. -/
def zbxz (L:List Int) (k:Nat):List Int:=L.take k++List.replicate (L.length-k) 0
/-- The last k places hold what they shall hold, the others 0. -/
def zgs (L:List Int) (k:Nat):List Int:=List.replicate (L.length-k) 0++L.drop (L.length-k)
theorem zrf (L:List Int):zgs L 0=List.replicate L.length 0:=by simp[zgs]
theorem zrl (L:List Int) (k:Nat) (x:Int) (h:k<L.length) (hx:L[L.length-1-k]? =some x):(zgs L k).set (L.length-1-k) x=zgs L (k+1):=by
 have hr:List.replicate (L.length-k) (0:Int)=List.replicate (L.length-(k+1)) 0++[0]:=by
  rw[show L.length-k=(L.length-(k+1))+1 from by omega,List.replicate_succ']
 have hd:L.drop (L.length-(k+1))=x::L.drop (L.length-k):=by
  have e:L.length-(k+1)=L.length-1-k:=by omega
  rw[e]
  have hlt:L.length-1-k<L.length:=by omega
  rw[List.drop_eq_getElem_cons hlt]
  rw[List.getElem?_eq_getElem hlt] at hx
  simp only[Option.some.injEq] at hx
  rw[hx,show L.length-1-k+1=L.length-k from by omega]
 unfold zgs
 rw[hr,hd,List.append_assoc,List.set_append_right _ _ (by simp;omega),List.length_replicate,show L.length-1-k-(L.length-(k+1))=0 from by omega]
 rfl
theorem zww {w:World} {B g n cap:Nat} {e:TypeId} {L:List Int} (h:OwnB w B e (.slice (some ⟨g,0,none⟩) n cap) n L) (j:Nat) (x:Int):
  OwnB (w.setCell ⟨g,j,none⟩ (.int .u8 x)) B e (.slice (some ⟨g,0,none⟩) n cap) n (L.set j x):=by
 unfold OwnB at h ⊢
 rw[List.map_set]
 exact (h.stored j (.int .u8 x)).1
theorem ztw {w:World} {B g n cap:Nat} {e:TypeId} {L:List Int} (h:OwnB w B e (.slice (some ⟨g,0,none⟩) n cap) n L) (j:Nat) (hj:j<n): ∃v,w.cell? ⟨g,j,none⟩=some v:=by
 unfold OwnB at h
 have hl:=h.1
 rw[List.length_map,Nat.mul_one] at hl
 rw[h.cellAt j (by omega)]
 simp[List.getElem?_eq_getElem (show j<L.length by omega)]
theorem ztx {w:World} {B g n cap:Nat} {e:TypeId} {L:List Int} (h:OwnB w B e (.slice (some ⟨g,0,none⟩) n cap) n L) (j:Nat):w.frozen? ⟨g,j,none⟩=false:=World.ownsRow.frozenAt h j
/-- The lowest k bytes of n, the highest first. -/
def dl (n:Int):Nat→List Int
 |0=>[]
 |k+1=>(n/2^(8*k)%256)::dl n k
def fxOk (n m:Int):Bool:=inB m 1 7&&decide (0≤n)&&decide (n/2^(8*m.toNat)=0)
def fxL (n m:Int):List Int:=if fxOk n m then dl n m.toNat else []
/-- The bytes of a number, seven bits each, the lowest first; at most f + 1 of them. -/
def vl:Nat→Int→List Int
 |0,q=>[q]
 |f+1,q=>if q<128 then [q] else (q%128+128)::vl f (q/128)
/-- What stands behind k rounds: k bytes are written, q is left. -/
def zbyc (n:Int) (k:Nat) (acc:List Int) (q:Int):Prop:=
 k≤6∧acc.length=k∧0≤q∧q≤n∧q*128^k≤n∧acc++vl (6-k) q=vl 6 n
def varL (n:Int):List Int:=if inB n 0 562949953421311 then vl 6 n else []
end Go.Proofs.YtlnohpdiiileeaaGreat
