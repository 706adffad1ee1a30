/-
 A region that draws its order,by what holds of the operations that have come up so far. No program is spoken of.
-/
import Derived.Orders
namespace Go.Proofs.YtjdddblpfbmpaaaGreat
def zcp (D:Nat→Bool):Nat→Nat
 |0=>0
 |n+1=>zcp D n+if D n=true then 0 else 1
theorem zkG {D:Nat→Bool}: ∀{n:Nat},zcp D n=0→∀i,i<n→D i=true
 |0,_,i,hi=>absurd hi (Nat.not_lt_zero i)
 |n+1,h,i,hi=>by
  rw[zcp] at h
  by_cases j:D n=true
  ·by_cases e:i=n
   ·rw[e];exact j
   ·rw[if_pos j] at h;exact zkG (n:=n) (by omega) i (by omega)
  ·rw[if_neg j] at h
   omega
theorem zkH {D E:Nat→Bool}: ∀{n:Nat},(∀i,i<n→D i=E i)→zcp D n=zcp E n
 |0,_=>rfl
 |n+1,h=>by rw[zcp,zcp,zkH fun i j=>h i (by omega),h n (by omega)]
theorem zkI {D:Nat→Bool} {i:Nat} (h:D i=false): ∀{n:Nat},i<n→zcp (fun j=>D j||decide (j=i)) n+1=zcp D n
 |0,hi=>absurd hi (Nat.not_lt_zero i)
 |n+1,hi=>by
  rw[zcp,zcp]
  by_cases e:i=n
  ·subst e
   rw[zkH (E:=D) fun j q=>by simp[show ¬j=i from by omega],h]
   simp
  ·have:=zkI h (n:=n) (by omega)
   simp only[show ¬n=i from fun k=>e k.symm,decide_false,Bool.or_false]
   omega
theorem zkJ {D:Nat→Bool} (h: ∀i,D i=false): ∀n,zcp D n=n
 |0=>rfl
 |n+1=>by rw[zcp,zkJ h n,h];rfl
section
variable {P:Program} {ops:Array Oper} {Q:Exit→Act→World→Prop} {md:Region.Mode} {I:(Nat→Bool)→Act→World→Prop}
theorem zrq {j:Array Bool} (q: ∀(i:Nat) (o:Oper),ops[i]? =some o→∀e∈o.after,Region.binds md e=true→e.on<i) (N:j.size=ops.size) (h:Region.ready md ops j=[]) (i:Nat) (z:i<ops.size):j.getD i false=true:=by
 induction i using Nat.strongRecOn with
 |_ i M=>
  cases J:j.getD i false with
  |true=>rfl
  |false=>
   exfalso
   have L:i<j.size:=by omega
   have A:i∈Region.ready md ops j:=mem_ready.2 ⟨by rw[←J,Array.getD_eq_getD_getElem?,Array.getD_eq_getD_getElem?,Array.getElem?_eq_getElem L];rfl,ops[i],Array.getElem?_eq_getElem z,fun e H I=>M e.on (q i _ (Array.getElem?_eq_getElem z) e H I) (Nat.lt_trans (q i _ (Array.getElem?_eq_getElem z) e H I) z)⟩
   rw[h] at A
   cases A
theorem zkK (A: ∀(i:Nat) (o:Oper),ops[i]? =some o→∀e∈o.after,Region.binds md e=true→e.on<i)
  (J: ∀(D:Nat→Bool) (a:Act) (w:World) (i:Nat) (o:Oper),I D a w→ops[i]? =some o→D i=false→(∀e∈o.after,Region.binds md e=true→D e.on=true)→wpOp P ops Q i (fun X w'=>I (fun j=>D j||decide (j=i)) X w') a w)
  (H: ∀(D:Nat→Bool) (a:Act) (w:World),I D a w→(∀i,i<ops.size→D i=true)→Q .normal a w):
  ∀(z:Nat) (q:Array Bool) (a:Act) (w:World),q.size=ops.size→zcp (fun j=>q.getD j false) ops.size≤z→I (fun j=>q.getD j false) a w→wpAny P md ops Q z q a w
 |0,q,a,w,hs,hf,hI=>by
  have L:=zkG (Nat.le_zero.1 hf)
  refine⟨?_,H _ a w hI L⟩
  cases N:Region.ready md ops q with
  |nil=>rfl
  |cons i l=>
   exfalso
   obtain⟨V,o,U,_⟩:=mem_ready.1 (by rw[N];exact List.mem_cons_self:i∈Region.ready md ops q)
   have Y:=(Array.getElem?_eq_some_iff.1 U).1
   have M:=L i Y
   rw[Array.getD_eq_getD_getElem?,Array.getElem?_eq_getElem (by omega)] at V M
   exact absurd (V.symm.trans M) (by decide)
 |z+1,q,a,w,hs,hf,hI=>by
  refine⟨fun N=>H _ a w hI (zrq A hs N),fun i N=>?_⟩
  obtain⟨V,o,U,O⟩:=mem_ready.1 N
  have Y:=(Array.getElem?_eq_some_iff.1 U).1
  have M:q.getD i false=false:=by rw[←V,Array.getD_eq_getD_getElem?,Array.getD_eq_getD_getElem?,Array.getElem?_eq_getElem (by omega)];rfl
  have Z:(fun j=>(q.setIfInBounds i true).getD j false)=fun j=>q.getD j false||decide (j=i):=by
   funext j
   by_cases e:j=i
   ·subst e
    rw[Array.getD_eq_getD_getElem?,Array.getElem?_setIfInBounds_self_of_lt (by omega)]
    simp
   ·rw[getD_set_ne false (fun k=>e k.symm)]
    simp[e]
  refine wpOp_mono (fun X w' h=>?_) (J _ a w i o hI U M O)
  have h3:=zkI (D:=fun j=>q.getD j false) M Y
  exact zkK A J H z _ X w' (by rw[Array.size_setIfInBounds];exact hs) (by rw[Z];omega) (by rw[Z];exact h)
theorem zrr {J:Nat} {a:Act} {w:World} (L:P.follows .mixedOrders=true) (I:(Nat→Bool)→Act→World→Prop) (q: ∀(i:Nat) (o:Oper),ops[i]? =some o→∀e∈o.after,Region.binds .any e=true→e.on<i)
  (N:I (fun _=>false) a {w with drawn:=w.drawn+1})
  (z: ∀(D:Nat→Bool) (a:Act) (w:World) (i:Nat) (o:Oper),I D a w→ops[i]? =some o→D i=false→(∀e∈o.after,Region.binds .any e=true→D e.on=true)→wpOp P ops Q i (fun M w'=>I (fun j=>D j||decide (j=i)) M w') a w)
  (A: ∀(D:Nat→Bool) (a:Act) (w:World),I D a w→(∀i,i<ops.size→D i=true)→Q .normal a w):(Code.region J ops true).wp P Q a w:=by
 have H:(fun j=>(Array.replicate ops.size false).getD j false)=fun _=>false:=by
  funext j
  rw[Array.getD_eq_getD_getElem?,Array.getElem?_replicate]
  split<;>rfl
 refine wp_region_any L (zkK q z A ops.size _ a _ Array.size_replicate ?_ ?_)
 ·rw[H,zkJ fun _=>rfl]
  exact Nat.le_refl _
 ·rw[H]
  exact N
def zrs (ops:Array Oper):Bool:=(List.range ops.size).all fun i=>match ops[i]? with|none=>true|some o=>o.after.all fun e=> !Region.binds .any e||decide (e.on<i)
theorem zrt (h:zrs ops=true): ∀(i:Nat) (o:Oper),ops[i]? =some o→∀e∈o.after,Region.binds .any e=true→e.on<i:=by
 intro i o j e A H
 have z:=List.all_eq_true.1 h i (List.mem_range.2 (Array.getElem?_eq_some_iff.1 j).1)
 rw[j] at z
 have q:=Array.all_eq_true_iff_forall_mem.1 z e A
 rw[H] at q
 exact of_decide_eq_true q
theorem zbf {i:Nat} {o:Oper} {a:Act} {w:World} {K:Act→World→Prop} (z:ops[i]? =some o) (q:o.guard=none) (h:o.wp P a w K Q):wpOp P ops Q i K a w:=by
 unfold wpOp
 rw[z]
 have j:Region.wanted o (yielded ops a.tmps)=true:=by simp[Region.wanted,q]
 simp only[j,if_true]
 exact .inl h
end
end Go.Proofs.YtjdddblpfbmpaaaGreat