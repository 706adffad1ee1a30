/- Facts and walks that the theorem stands on. -/
import Derived.Test.YtgcbmogmniahjaaGreatA1
import Derived.Orders
namespace Go.Proofs.YtgcbmogmniahjaaGreat
def zcy (D:Nat->Bool):Nat->Nat
 |0=>0
 |n+1=>zcy D n+if D n=true then 0 else 1
theorem znd {D:Nat->Bool}: ∀{n:Nat},zcy D n=0->∀i,i<n->D i=true
 |0,_,i,hi=>absurd hi (Nat.not_lt_zero i)
 |n+1,h,i,hi=>by
  rw[zcy] at h;by_cases q:D n=true
  ·by_cases e:i=n
   ·rw[e];exact q
   ·rw[if_pos q] at h;exact znd (n:=n) (by omega) i (by omega)
  ·rw[if_neg q] at h;omega
theorem zne {D E:Nat->Bool}: ∀{n:Nat},(∀i,i<n->D i=E i)->zcy D n=zcy E n
 |0,_=>rfl
 |n+1,h=>by rw[zcy,zcy,zne fun i q=>h i (by omega),h n (by omega)]
theorem znf {D:Nat->Bool} {i:Nat} (h:D i=false): ∀{n:Nat},i<n->zcy (fun j=>D j||decide (j=i)) n+1=zcy D n
 |0,hi=>absurd hi (Nat.not_lt_zero i)
 |n+1,hi=>by
  rw[zcy,zcy];by_cases e:i=n
  ·subst e;rw[zne (E:=D) fun j q=>by simp[show ¬j=i from by omega],h];simp
  ·have:=znf h (n:=n) (by omega);simp only[show ¬n=i from fun k=>e k.symm,decide_false,Bool.or_false];omega
theorem zng {D:Nat->Bool} (h: ∀i,D i=false): ∀n,zcy D n=n
 |0=>rfl
 |n+1=>by rw[zcy,zng h n,h];rfl
section
variable {P:Program} {ops:Array Oper} {Q:Exit->Act->World->Prop} {md:Region.Mode} {I:(Nat->Bool)->Act->World->Prop}
theorem zwJ {q:Array Bool} (w: ∀(i:Nat) (o:Oper),ops[i]? =some o->∀e∈o.after,Region.binds md e=true->e.on<i) (M:q.size=ops.size) (h:Region.ready md ops q=[]) (i:Nat) (z:i<ops.size):q.getD i false=true:=by
 induction i using Nat.strongRecOn with
 |_ i L=>
  cases J:q.getD i false with
  |true=>rfl
  |false=>
   exfalso;have K:i<q.size:=by omega
   have A:i∈Region.ready md ops q:=mem_ready.2 ⟨by rw[<-J,Array.getD_eq_getD_getElem?,Array.getD_eq_getD_getElem?,Array.getElem?_eq_getElem K];rfl,ops[i],Array.getElem?_eq_getElem z,fun e H I=>L e.on (w i _ (Array.getElem?_eq_getElem z) e H I) (Nat.lt_trans (w i _ (Array.getElem?_eq_getElem z) e H I) z)⟩;rw[h] at A;cases A
theorem znh (A: ∀(i:Nat) (o:Oper),ops[i]? =some o->∀e∈o.after,Region.binds md e=true->e.on<i)
  (J: ∀(D:Nat->Bool) (a:Act) (w:World) (i:Nat) (o:Oper),I D a w->ops[i]? =some o->D i=false->(∀e∈o.after,Region.binds md e=true->D e.on=true)->wpOp P ops Q i (fun V w'=>I (fun j=>D j||decide (j=i)) V w') a w)
  (H: ∀(D:Nat->Bool) (a:Act) (w:World),I D a w->(∀i,i<ops.size->D i=true)->Q .normal a w):
  ∀(z:Nat) (q:Array Bool) (a:Act) (w:World),q.size=ops.size->zcy (fun j=>q.getD j false) ops.size<=z->I (fun j=>q.getD j false) a w->wpAny P md ops Q z q a w
 |0,q,a,w,hs,hf,hI=>by
  have K:=znd (Nat.le_zero.1 hf);refine⟨?_,H _ a w hI K⟩;cases M:Region.ready md ops q with
  |nil=>rfl
  |cons i l=>
   exfalso;obtain⟨U,o,O,_⟩:=mem_ready.1 (by rw[M];exact List.mem_cons_self:i∈Region.ready md ops q);have X:=(aLt O);have L:=K i X;rw[Array.getD_eq_getD_getElem?,Array.getElem?_eq_getElem (by omega)] at U L;exact absurd (U.symm.trans L) (by decide)
 |z+1,q,a,w,hs,hf,hI=>by
  refine⟨fun M=>H _ a w hI (zwJ A hs M),fun i M=>?_⟩;obtain⟨U,o,O,N⟩:=mem_ready.1 M;have X:=(aLt O);have L:q.getD i false=false:=by rw[<-U,Array.getD_eq_getD_getElem?,Array.getD_eq_getD_getElem?,Array.getElem?_eq_getElem (by omega)];rfl
  have Y:(fun j=>(q.setIfInBounds i true).getD j false)=fun j=>q.getD j false||decide (j=i):=by
   funext j;by_cases e:j=i
   ·subst e;rw[Array.getD_eq_getD_getElem?,Array.getElem?_setIfInBounds_self_of_lt (by omega)];simp
   ·rw[getD_set_ne false (fun k=>e k.symm)];simp[e]
  refine wpOp_mono (fun V w' h=>?_) (J _ a w i o hI O L N);have Z:=znf (D:=fun j=>q.getD j false) L X;exact znh A J H z _ V w' (by rw[Array.size_setIfInBounds];exact hs) (by rw[Y];omega) (by rw[Y];exact h)
theorem zwK {H:Nat} {a:Act} {w:World} (J:P.follows .mixedOrders=true) (I:(Nat->Bool)->Act->World->Prop) (h: ∀(i:Nat) (o:Oper),ops[i]? =some o->∀e∈o.after,Region.binds .any e=true->e.on<i)
  (L:I (fun _=>false) a {w with drawn:=w.drawn+1})
  (q: ∀(D:Nat->Bool) (a:Act) (w:World) (i:Nat) (o:Oper),I D a w->ops[i]? =some o->D i=false->(∀e∈o.after,Region.binds .any e=true->D e.on=true)->wpOp P ops Q i (fun K w'=>I (fun j=>D j||decide (j=i)) K w') a w)
  (z: ∀(D:Nat->Bool) (a:Act) (w:World),I D a w->(∀i,i<ops.size->D i=true)->Q .normal a w):(Code.region H ops true).wp P Q a w:=by
 have A:(fun j=>(Array.replicate ops.size false).getD j false)=fun _=>false:=by
  funext j;rw[Array.getD_eq_getD_getElem?,Array.getElem?_replicate]
  split<;>rfl
 refine wp_region_any J (znh h q z ops.size _ a _ Array.size_replicate ?_ ?_)
 ·rw[A,zng fun _=>rfl];exact Nat.le_refl _
 ·rw[A];exact L
def zwL (ops:Array Oper):Bool:=(List.range ops.size).all fun i=>match ops[i]? with|none=>true|some o=>o.after.all fun e=> !Region.binds .any e||decide (e.on<i)
theorem zwM (h:zwL ops=true): ∀(i:Nat) (o:Oper),ops[i]? =some o->∀e∈o.after,Region.binds .any e=true->e.on<i:=by
 intro i o q e A H;have z:=List.all_eq_true.1 h i (List.mem_range.2 (aLt q));rw[q] at z;have w:=Array.all_eq_true_iff_forall_mem.1 z e A;rw[H] at w;exact of_decide_eq_true w
theorem zce {i:Nat} {o:Oper} {a:Act} {w:World} {K:Act->World->Prop} (A:ops[i]? =some o) (z:o.guard=none) (h:o.wp P a w K Q):wpOp P ops Q i K a w:=by
 unfold wpOp;rw[A];have q:Region.wanted o (yielded ops a.tmps)=true:=by simp[Region.wanted,z]
 simp only[q,if_true];exact .inl h
end
structure SlI (a0:Act) (s n:Nat) (V:Nat->Value) (D:Nat->Bool) (a:Act):Prop where
 sz:a.tmps.size=a0.tmps.size
 df:a.defers=a0.defers
 oth: ∀k,k<s∨s+n<=k->a.tmps[k]? =a0.tmps[k]?
 e: ∀i,i<n->D i=true->a.tmps[s+i]? =some (V i)
theorem SlI.start (q:Act) (s n:Nat) (V:Nat->Value):SlI q s n V (fun _=>false) q:=⟨rfl,rfl,fun _ _=>rfl,fun _ _ h=>(by cases h)⟩
theorem SlI.put {w a:Act} {s n:Nat} {V:Nat->Value} {D:Nat->Bool} (h:SlI w s n V D a) {i:Nat} (I:i<n) (H:s+n<=w.tmps.size):SlI w s n V (fun j=>D j||decide (j=i)) (a.put (some (s+i)) (V i)):=by
 refine⟨?_,h.df,fun k z=>?_,fun j A q=>?_⟩
 ·show (a.tmps.setIfInBounds _ _).size=_;rw[Array.size_setIfInBounds];exact h.sz
 ·show (a.tmps.setIfInBounds _ _)[k]? =_;rw[Array.getElem?_setIfInBounds_ne (by omega)];exact h.oth k z
 ·show (a.tmps.setIfInBounds _ _)[s+j]? =_;by_cases e:j=i
  ·subst e;rw[Array.getElem?_setIfInBounds_self_of_lt (by rw[h.sz];omega)]
  ·rw[Array.getElem?_setIfInBounds_ne (by omega)];have q:D j=true:=by simpa [e] using q
   exact h.e j A q
theorem SlI.anew {z a:Act} {s n:Nat} {V U:Nat->Value} {D:Nat->Bool} (h:SlI z s n V D a) (A: ∀i,i<n->D i=true->U i=V i):SlI z s n U D a:=⟨h.sz,h.df,h.oth,fun i w q=>by rw[A i w q];exact h.e i w q⟩
theorem SlI.all {q a:Act} {s n:Nat} {V:Nat->Value} {D:Nat->Bool} (h:SlI q s n V D a) (L: ∀i,i<n->D i=true) (hs:s+n<=q.tmps.size):a=(List.range n).foldl (fun b i=>b.put (some (s+i)) (V i)) q:=by
 have H: ∀k,k<=n->∀b:Act,b=(List.range k).foldl (fun b i=>b.put (some (s+i)) (V i)) q->b.tmps.size=q.tmps.size/\b.defers=q.defers/\(∀j,j<s∨s+k<=j->b.tmps[j]? =q.tmps[j]?)/\∀i,i<k->b.tmps[s+i]? =some (V i):=by
  intro k
  induction k with
  |zero=>rintro _ b rfl;exact⟨rfl,rfl,fun _ _=>rfl,fun i K=>absurd K (Nat.not_lt_zero i)⟩
  |succ k U=>
   rintro J b rfl;obtain⟨I,w,A,z⟩:=U (by omega) _ rfl;rw[List.range_succ,List.foldl_append,List.foldl_cons,List.foldl_nil];generalize (List.range k).foldl (fun b i=>b.put (some (s+i)) (V i)) q=b at I w A z;refine⟨?_,w,fun j hj=>?_,fun i K=>?_⟩
   ·show (b.tmps.setIfInBounds _ _).size=_;rw[Array.size_setIfInBounds];exact I
   ·show (b.tmps.setIfInBounds _ _)[j]? =_;rw[Array.getElem?_setIfInBounds_ne (by omega)];exact A j (by omega)
   ·show (b.tmps.setIfInBounds _ _)[s+i]? =_;by_cases e:i=k
    ·subst e;rw[Array.getElem?_setIfInBounds_self_of_lt (by omega)]
    ·rw[Array.getElem?_setIfInBounds_ne (by omega)];exact z i (by omega)
 obtain⟨I,w,A,z⟩:=H n (Nat.le_refl _) _ rfl;generalize (List.range n).foldl (fun b i=>b.put (some (s+i)) (V i)) q=b at I w A z;obtain⟨Z,N⟩:=a;obtain⟨M,X⟩:=b;have O:N=X:=h.df.trans w.symm;have Y:Z=M:=Array.ext_getElem? fun k=>by
  by_cases J:k<s∨s+n<=k
  ·exact (h.oth k J).trans (A k J).symm
  ·have:=h.e (k-s) (by omega) (L _ (by omega));have:=z (k-s) (by omega);rw[show s+(k-s)=k from by omega] at*
   simp_all
 rw[O,Y]
theorem zco {P:Program} {o:Oper} {a:Act} {w w':World} {v:Value} {K:Act->World->Prop} {Q:Exit->Act->World->Prop} (q:(execOp a.eval o).run P w= .ok (.value v) w') (h:K (a.put o.dst v) w'):o.wp P a w K Q:=by
 unfold Oper.wp;rw[q];exact h
theorem zwN {P:Program} {o:Oper} {a:Act} {w:World} {f:FuncId} {args:Array Value} {K:Act->World->Prop} {Q:Exit->Act->World->Prop} (z:(execOp a.eval o).run P w= .ok (.enter f args) w) (h:Calls P f args w fun e w'=>∃v,e= .returned v/\K (a.put o.dst v) w'):o.wp P a w K Q:=by
 unfold Oper.wp;rw[z];refine Calls.mono h ?_;rintro e w' ⟨v,rfl,q⟩;exact q
end Go.Proofs.YtgcbmogmniahjaaGreat
