/-
 A region that draws its order,by what holds of the operations that have come up so far. No program is spoken of.
-/
import Derived.Orders
namespace Go.Proofs.YtjdddblpfbmpaaaGreat
def zch (D:Nat→Bool):Nat→Nat
 |0=>0
 |n+1=>zch D n+if D n=true then 0 else 1
theorem zid {D:Nat→Bool}: ∀{n:Nat},zch D n=0→∀i,i<n→D i=true
 |0,_,i,hi=>absurd hi (Nat.not_lt_zero i)
 |n+1,h,i,hi=>by
  rw[zch] at h
  by_cases j:D n=true
  ·by_cases e:i=n
   ·rw[e];exact j
   ·rw[if_pos j] at h;exact zid (n:=n) (by omega) i (by omega)
  ·rw[if_neg j] at h
   omega
theorem zie {D E:Nat→Bool}: ∀{n:Nat},(∀i,i<n→D i=E i)→zch D n=zch E n
 |0,_=>rfl
 |n+1,h=>by rw[zch,zch,zie fun i j=>h i (by omega),h n (by omega)]
theorem zif {D:Nat→Bool} {i:Nat} (h:D i=false): ∀{n:Nat},i<n→zch (fun j=>D j||decide (j=i)) n+1=zch D n
 |0,hi=>absurd hi (Nat.not_lt_zero i)
 |n+1,hi=>by
  rw[zch,zch]
  by_cases e:i=n
  ·subst e
   rw[zie (E:=D) fun j w=>by simp[show ¬j=i from by omega],h]
   simp
  ·have:=zif h (n:=n) (by omega)
   simp only[show ¬n=i from fun k=>e k.symm,decide_false,Bool.or_false]
   omega
theorem zig {D:Nat→Bool} (h: ∀i,D i=false): ∀n,zch D n=n
 |0=>rfl
 |n+1=>by rw[zch,zig h n,h];rfl
section
variable {P:Program} {ops:Array Oper} {Q:Exit→Act→World→Prop} {md:Region.Mode} {I:(Nat→Bool)→Act→World→Prop}
theorem zlG {j:Array Bool} (w: ∀(i:Nat) (o:Oper),ops[i]? =some o→∀e∈o.after,Region.binds md e=true→e.on<i) (N:j.size=ops.size) (h:Region.ready md ops j=[]) (i:Nat) (z:i<ops.size):j.getD i false=true:=by
 induction i using Nat.strongRecOn with
 |_ i M=>
  cases J:j.getD i false with
  |true=>rfl
  |false=>
   exfalso
   have L:i<j.size:=by omega
   have A:i∈Region.ready md ops j:=mem_ready.2 ⟨by rw[←J,Array.getD_eq_getD_getElem?,Array.getD_eq_getD_getElem?,Array.getElem?_eq_getElem L];rfl,ops[i],Array.getElem?_eq_getElem z,fun e H I=>M e.on (w i _ (Array.getElem?_eq_getElem z) e H I) (Nat.lt_trans (w i _ (Array.getElem?_eq_getElem z) e H I) z)⟩
   rw[h] at A
   cases A
theorem zih (H: ∀(i:Nat) (o:Oper),ops[i]? =some o→∀e∈o.after,Region.binds md e=true→e.on<i)
  (L: ∀(D:Nat→Bool) (a:Act) (w:World) (i:Nat) (o:Oper),I D a w→ops[i]? =some o→D i=false→(∀e∈o.after,Region.binds md e=true→D e.on=true)→wpOp P ops Q i (fun Y w'=>I (fun j=>D j||decide (j=i)) Y w') a w)
  (J: ∀(D:Nat→Bool) (a:Act) (w:World),I D a w→(∀i,i<ops.size→D i=true)→Q .normal a w):
  ∀(A:Nat) (z:Array Bool) (a:Act) (w:World),z.size=ops.size→zch (fun j=>z.getD j false) ops.size≤A→I (fun j=>z.getD j false) a w→wpAny P md ops Q A z a w
 |0,z,a,w,hs,hf,hI=>by
  have M:=zid (Nat.le_zero.1 hf)
  refine⟨?_,J _ a w hI M⟩
  cases O:Region.ready md ops z with
  |nil=>rfl
  |cons i l=>
   exfalso
   obtain⟨X,o,V,_⟩:=mem_ready.1 (by rw[O];exact List.mem_cons_self:i∈Region.ready md ops z)
   have Z:=(Array.getElem?_eq_some_iff.1 V).1
   have N:=M i Z
   rw[Array.getD_eq_getD_getElem?,Array.getElem?_eq_getElem (by omega)] at X N
   exact absurd (X.symm.trans N) (by decide)
 |A+1,z,a,w,hs,hf,hI=>by
  refine⟨fun O=>J _ a w hI (zlG H hs O),fun i O=>?_⟩
  obtain⟨X,o,V,U⟩:=mem_ready.1 O
  have Z:=(Array.getElem?_eq_some_iff.1 V).1
  have N:z.getD i false=false:=by rw[←X,Array.getD_eq_getD_getElem?,Array.getD_eq_getD_getElem?,Array.getElem?_eq_getElem (by omega)];rfl
  have hE:(fun j=>(z.setIfInBounds i true).getD j false)=fun j=>z.getD j false||decide (j=i):=by
   funext j
   by_cases e:j=i
   ·subst e
    rw[Array.getD_eq_getD_getElem?,Array.getElem?_setIfInBounds_self_of_lt (by omega)]
    simp
   ·rw[getD_set_ne false (fun k=>e k.symm)]
    simp[e]
  refine wpOp_mono (fun Y w' h=>?_) (L _ a w i o hI V N U)
  have h3:=zif (D:=fun j=>z.getD j false) N Z
  exact zih H L J A _ Y w' (by rw[Array.size_setIfInBounds];exact hs) (by rw[hE];omega) (by rw[hE];exact h)
theorem zgJ {J:Nat} {a:Act} {w:World} (L:P.follows .mixedOrders=true) (I:(Nat→Bool)→Act→World→Prop) (h: ∀(i:Nat) (o:Oper),ops[i]? =some o→∀e∈o.after,Region.binds .any e=true→e.on<i)
  (N:I (fun _=>false) a {w with drawn:=w.drawn+1})
  (z: ∀(D:Nat→Bool) (a:Act) (w:World) (i:Nat) (o:Oper),I D a w→ops[i]? =some o→D i=false→(∀e∈o.after,Region.binds .any e=true→D e.on=true)→wpOp P ops Q i (fun M w'=>I (fun j=>D j||decide (j=i)) M w') a w)
  (A: ∀(D:Nat→Bool) (a:Act) (w:World),I D a w→(∀i,i<ops.size→D i=true)→Q .normal a w):(Code.region J ops true).wp P Q a w:=by
 have H:(fun j=>(Array.replicate ops.size false).getD j false)=fun _=>false:=by
  funext j
  rw[Array.getD_eq_getD_getElem?,Array.getElem?_replicate]
  split<;>rfl
 refine wp_region_any L (zih h z A ops.size _ a _ Array.size_replicate ?_ ?_)
 ·rw[H,zig fun _=>rfl]
  exact Nat.le_refl _
 ·rw[H]
  exact N
def zlH (ops:Array Oper):Bool:=(List.range ops.size).all fun i=>match ops[i]? with|none=>true|some o=>o.after.all fun e=> !Region.binds .any e||decide (e.on<i)
theorem zgK (h:zlH ops=true): ∀(i:Nat) (o:Oper),ops[i]? =some o→∀e∈o.after,Region.binds .any e=true→e.on<i:=by
 intro i o j e A H
 have z:=List.all_eq_true.1 h i (List.mem_range.2 (Array.getElem?_eq_some_iff.1 j).1)
 rw[j] at z
 have w:=Array.all_eq_true_iff_forall_mem.1 z e A
 rw[H] at w
 exact of_decide_eq_true w
theorem zae {i:Nat} {o:Oper} {a:Act} {w:World} {K:Act→World→Prop} (A:ops[i]? =some o) (z:o.guard=none) (h:o.wp P a w K Q):wpOp P ops Q i K a w:=by
 unfold wpOp
 rw[A]
 have j:Region.wanted o (yielded ops a.tmps)=true:=by simp[Region.wanted,z]
 simp only[j,if_true]
 exact .inl h
end
end Go.Proofs.YtjdddblpfbmpaaaGreat