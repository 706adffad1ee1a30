/- Facts. -/
import Derived.Test.YtegdaafmaookjaaGreatP0
import Derived.Orders
namespace Go.Proofs.YtegdaafmaookjaaGreat
def zcD (D:Nat->Bool):Nat->Nat
 |0=>0
 |n+1=>zcD D n+if D n=true then 0 else 1
theorem zoE {D:Nat->Bool}: ∀{n:Nat},zcD D n=0->∀i,i<n->D i=true
 |0,_,i,hi=>absurd hi (Nat.not_lt_zero i)
 |n+1,h,i,hi=>by
  rw[zcD] at h;by_cases q:D n=true
  ·by_cases e:i=n
   ·rw[e];exact q
   ·rw[if_pos q] at h;exact zoE (n:=n) (by omega) i (by omega)
  ·rw[if_neg q] at h;omega
theorem zoF {D E:Nat->Bool}: ∀{n:Nat},(∀i,i<n->D i=E i)->zcD D n=zcD E n
 |0,_=>rfl
 |n+1,h=>by rw[zcD,zcD,zoF fun i q=>h i (by omega),h n (by omega)]
theorem zoG {D:Nat->Bool} {i:Nat} (h:D i=false): ∀{n:Nat},i<n->zcD (fun j=>D j||decide (j=i)) n+1=zcD D n
 |0,hi=>absurd hi (Nat.not_lt_zero i)
 |n+1,hi=>by
  rw[zcD,zcD];by_cases e:i=n
  ·subst e;rw[zoF (E:=D) fun j q=>by simp[show ¬j=i from by omega],h];simp
  ·have:=zoG h (n:=n) (by omega);simp only[show ¬n=i from fun k=>e k.symm,decide_false,Bool.or_false];omega
theorem zoH {D:Nat->Bool} (h: ∀i,D i=false): ∀n,zcD D n=n
 |0=>rfl
 |n+1=>by rw[zcD,zoH h n,h];rfl
section
variable {P:Program} {ops:Array Oper} {Q:Exit->Act->World->Prop} {md:Region.Mode} {I:(Nat->Bool)->Act->World->Prop}
theorem zzl {q:Array Bool} (w: ∀(i:Nat) (o:Oper),ops[i]? =some o->∀e∈o.after,Region.binds md e=true->e.on<i) (N:q.size=ops.size) (h:Region.ready md ops q=[]) (i:Nat) (A:i<ops.size):q.getD i false=true:=by
 induction i using Nat.strongRecOn with
 |_ i M=>
  cases K:q.getD i false with
  |true=>rfl
  |false=>
   exfalso;have L:i<q.size:=by omega
   have H:i∈Region.ready md ops q:=mem_ready.2 ⟨by rw[<-K,Array.getD_eq_getD_getElem?,Array.getD_eq_getD_getElem?,Array.getElem?_eq_getElem L];rfl,ops[i],Array.getElem?_eq_getElem A,fun e I J=>M e.on (w i _ (Array.getElem?_eq_getElem A) e I J) (Nat.lt_trans (w i _ (Array.getElem?_eq_getElem A) e I J) A)⟩;rw[h] at H;cases H
theorem zoI (H: ∀(i:Nat) (o:Oper),ops[i]? =some o->∀e∈o.after,Region.binds md e=true->e.on<i)
  (K: ∀(D:Nat->Bool) (a:Act) (w:World) (i:Nat) (o:Oper),I D a w->ops[i]? =some o->D i=false->(∀e∈o.after,Region.binds md e=true->D e.on=true)->wpOp P ops Q i (fun X w'=>I (fun j=>D j||decide (j=i)) X w') a w)
  (J: ∀(D:Nat->Bool) (a:Act) (w:World),I D a w->(∀i,i<ops.size->D i=true)->Q .normal a w):
  ∀(A:Nat) (q:Array Bool) (a:Act) (w:World),q.size=ops.size->zcD (fun j=>q.getD j false) ops.size<=A->I (fun j=>q.getD j false) a w->wpAny P md ops Q A q a w
 |0,q,a,w,hs,hf,hI=>by
  have L:=zoE (Nat.le_zero.1 hf);refine⟨?_,J _ a w hI L⟩;cases N:Region.ready md ops q with
  |nil=>rfl
  |cons i l=>
   exfalso;obtain⟨V,o,U,_⟩:=mem_ready.1 (by rw[N];exact List.mem_cons_self:i∈Region.ready md ops q);have Y:=(aLt U);have M:=L i Y;rw[Array.getD_eq_getD_getElem?,Array.getElem?_eq_getElem (by omega)] at V M;exact absurd (V.symm.trans M) (by decide)
 |A+1,q,a,w,hs,hf,hI=>by
  refine⟨fun N=>J _ a w hI (zzl H hs N),fun i N=>?_⟩;obtain⟨V,o,U,O⟩:=mem_ready.1 N;have Y:=(aLt U);have M:q.getD i false=false:=by rw[<-V,Array.getD_eq_getD_getElem?,Array.getD_eq_getD_getElem?,Array.getElem?_eq_getElem (by omega)];rfl
  have Z:(fun j=>(q.setIfInBounds i true).getD j false)=fun j=>q.getD j false||decide (j=i):=by
   funext j;by_cases e:j=i
   ·subst e;rw[Array.getD_eq_getD_getElem?,Array.getElem?_setIfInBounds_self_of_lt (by omega)];simp
   ·rw[getD_set_ne false (fun k=>e k.symm)];simp[e]
  refine wpOp_mono (fun X w' h=>?_) (K _ a w i o hI U M O);have h3:=zoG (D:=fun j=>q.getD j false) M Y;exact zoI H K J A _ X w' (by rw[Array.size_setIfInBounds];exact hs) (by rw[Z];omega) (by rw[Z];exact h)
theorem zzm {J:Nat} {a:Act} {w:World} (K:P.follows .mixedOrders=true) (I:(Nat->Bool)->Act->World->Prop) (h: ∀(i:Nat) (o:Oper),ops[i]? =some o->∀e∈o.after,Region.binds .any e=true->e.on<i)
  (M:I (fun _=>false) a {w with drawn:=w.drawn+1})
  (q: ∀(D:Nat->Bool) (a:Act) (w:World) (i:Nat) (o:Oper),I D a w->ops[i]? =some o->D i=false->(∀e∈o.after,Region.binds .any e=true->D e.on=true)->wpOp P ops Q i (fun L w'=>I (fun j=>D j||decide (j=i)) L w') a w)
  (A: ∀(D:Nat->Bool) (a:Act) (w:World),I D a w->(∀i,i<ops.size->D i=true)->Q .normal a w):(Code.region J ops true).wp P Q a w:=by
 have H:(fun j=>(Array.replicate ops.size false).getD j false)=fun _=>false:=by
  funext j;rw[Array.getD_eq_getD_getElem?,Array.getElem?_replicate]
  split<;>rfl
 refine wp_region_any K (zoI h q A ops.size _ a _ Array.size_replicate ?_ ?_)
 ·rw[H,zoH fun _=>rfl];exact Nat.le_refl _
 ·rw[H];exact M
def zzn (ops:Array Oper):Bool:=(List.range ops.size).all fun i=>match ops[i]? with|none=>true|some o=>o.after.all fun e=> !Region.binds .any e||decide (e.on<i)
theorem zzo (h:zzn ops=true): ∀(i:Nat) (o:Oper),ops[i]? =some o->∀e∈o.after,Region.binds .any e=true->e.on<i:=by
 intro i o q e H I;have A:=List.all_eq_true.1 h i (List.mem_range.2 (aLt q));rw[q] at A;have w:=Array.all_eq_true_iff_forall_mem.1 A e H;rw[I] at w;exact of_decide_eq_true w
theorem zcr {i:Nat} {o:Oper} {a:Act} {w:World} {K:Act->World->Prop} (H:ops[i]? =some o) (A:o.guard=none) (h:o.wp P a w K Q):wpOp P ops Q i K a w:=by
 unfold wpOp;rw[H];have q:Region.wanted o (yielded ops a.tmps)=true:=by simp[Region.wanted,A]
 simp only[q,if_true];exact .inl h
end
structure SlI (a0:Act) (s n:Nat) (V:Nat->Value) (D:Nat->Bool) (a:Act):Prop where
 sz:a.tmps.size=a0.tmps.size
 df:a.defers=a0.defers
 oth: ∀k,k<s∨s+n<=k->a.tmps[k]? =a0.tmps[k]?
 e: ∀i,i<n->D i=true->a.tmps[s+i]? =some (V i)
theorem SlI.start (q:Act) (s n:Nat) (V:Nat->Value):SlI q s n V (fun _=>false) q:=⟨rfl,rfl,fun _ _=>rfl,fun _ _ h=>(by cases h)⟩
theorem SlI.put {w a:Act} {s n:Nat} {V:Nat->Value} {D:Nat->Bool} (h:SlI w s n V D a) {i:Nat} (J:i<n) (I:s+n<=w.tmps.size):SlI w s n V (fun j=>D j||decide (j=i)) (a.put (some (s+i)) (V i)):=by
 refine⟨?_,h.df,fun k A=>?_,fun j H q=>?_⟩
 ·show (a.tmps.setIfInBounds _ _).size=_;rw[Array.size_setIfInBounds];exact h.sz
 ·show (a.tmps.setIfInBounds _ _)[k]? =_;rw[Array.getElem?_setIfInBounds_ne (by omega)];exact h.oth k A
 ·show (a.tmps.setIfInBounds _ _)[s+j]? =_;by_cases e:j=i
  ·subst e;rw[Array.getElem?_setIfInBounds_self_of_lt (by rw[h.sz];omega)]
  ·rw[Array.getElem?_setIfInBounds_ne (by omega)];have q:D j=true:=by simpa [e] using q
   exact h.e j H q
theorem SlI.anew {A a:Act} {s n:Nat} {V U:Nat->Value} {D:Nat->Bool} (h:SlI A s n V D a) (H: ∀i,i<n->D i=true->U i=V i):SlI A s n U D a:=⟨h.sz,h.df,h.oth,fun i w q=>by rw[H i w q];exact h.e i w q⟩
theorem SlI.all {q a:Act} {s n:Nat} {V:Nat->Value} {D:Nat->Bool} (h:SlI q s n V D a) (M: ∀i,i<n->D i=true) (hs:s+n<=q.tmps.size):a=(List.range n).foldl (fun b i=>b.put (some (s+i)) (V i)) q:=by
 have H: ∀k,k<=n->∀b:Act,b=(List.range k).foldl (fun b i=>b.put (some (s+i)) (V i)) q->b.tmps.size=q.tmps.size/\b.defers=q.defers/\(∀j,j<s∨s+k<=j->b.tmps[j]? =q.tmps[j]?)/\∀i,i<k->b.tmps[s+i]? =some (V i):=by
  intro k
  induction k with
  |zero=>rintro _ b rfl;exact⟨rfl,rfl,fun _ _=>rfl,fun i L=>absurd L (Nat.not_lt_zero i)⟩
  |succ k X=>
   rintro K b rfl;obtain⟨J,w,I,A⟩:=X (by omega) _ rfl;rw[List.range_succ,List.foldl_append,List.foldl_cons,List.foldl_nil];generalize (List.range k).foldl (fun b i=>b.put (some (s+i)) (V i)) q=b at J w I A;refine⟨?_,w,fun j hj=>?_,fun i L=>?_⟩
   ·show (b.tmps.setIfInBounds _ _).size=_;rw[Array.size_setIfInBounds];exact J
   ·show (b.tmps.setIfInBounds _ _)[j]? =_;rw[Array.getElem?_setIfInBounds_ne (by omega)];exact I j (by omega)
   ·show (b.tmps.setIfInBounds _ _)[s+i]? =_;by_cases e:i=k
    ·subst e;rw[Array.getElem?_setIfInBounds_self_of_lt (by omega)]
    ·rw[Array.getElem?_setIfInBounds_ne (by omega)];exact A i (by omega)
 obtain⟨J,w,I,A⟩:=H n (Nat.le_refl _) _ rfl;generalize (List.range n).foldl (fun b i=>b.put (some (s+i)) (V i)) q=b at J w I A;obtain⟨ta,O⟩:=a;obtain⟨N,Y⟩:=b;have U:O=Y:=h.df.trans w.symm;have Z:ta=N:=Array.ext_getElem? fun k=>by
  by_cases K:k<s∨s+n<=k
  ·exact (h.oth k K).trans (I k K).symm
  ·have:=h.e (k-s) (by omega) (M _ (by omega));have:=A (k-s) (by omega);rw[show s+(k-s)=k from by omega] at*
   simp_all
 rw[U,Z]
theorem zc1 {P:Program} {o:Oper} {a:Act} {w w':World} {v:Value} {K:Act->World->Prop} {Q:Exit->Act->World->Prop} (q:(execOp a.eval o).run P w= .ok (.value v) w') (h:K (a.put o.dst v) w'):o.wp P a w K Q:=by
 unfold Oper.wp;rw[q];exact h
theorem zzp {P:Program} {o:Oper} {a:Act} {w:World} {f:FuncId} {args:Array Value} {K:Act->World->Prop} {Q:Exit->Act->World->Prop} (A:(execOp a.eval o).run P w= .ok (.enter f args) w) (h:Calls P f args w fun e w'=>∃v,e= .returned v/\K (a.put o.dst v) w'):o.wp P a w K Q:=by
 unfold Oper.wp;rw[A];refine Calls.mono h ?_;rintro e w' ⟨v,rfl,q⟩;exact q
