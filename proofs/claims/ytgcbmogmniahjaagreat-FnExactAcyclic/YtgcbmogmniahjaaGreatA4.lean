/- Facts and walks that the theorem stands on. -/
import Derived.Maps.AppendAt
import Derived.Test.YtgcbmogmniahjaaGreatA1
namespace Go.Proofs.YtgcbmogmniahjaaGreat
open Go.RowKit Go.PlainAid
def imL (x:Im):List Value:=[.string x.spec,.string x.first,.string x.loc]
def epL (x:Ep):List Value:=[.int .i64 x.kind,.string x.name,.string x.loc,.string x.spec]
def smL (x:Sm):List Value:=[.int .i64 x.kind,.string x.name,.int .i64 x.expr]
def exL (x:Ex):List Value:=[.int .i64 x.kind,.int .i64 x.num,.string x.name,.string x.field,.int .i64 x.l,.int .i64 x.r]
structure Rw where
 a:Option Addr
 cap:Nat
structure Sv where
 rq:Rw
 im:Rw
 ep:Rw
 st:Rw
 ex:Rw
 la:Rw
def Rw.blk (r:Rw):Option Nat:=(Value.slice r.a 0 r.cap).ownBlock
def Sv.has (S:Sv) (k:Nat):Prop:=S.rq.blk=some k∨S.im.blk=some k∨S.ep.blk=some k∨S.st.blk=some k∨S.ex.blk=some k∨S.la.blk=some k
def OwnR (w:World) (base:Nat) (e:TypeId) (size:Nat) (r:Rw) (n:Nat) (xs:List Value):Prop:=w.ownsRow base e size (.slice r.a n r.cap) n xs
theorem zb5 (r:Rw) (n:Nat):(Value.slice r.a n r.cap).ownBlock=r.blk:=by
 unfold Rw.blk Value.ownBlock;cases r.a<;>rfl
structure Own (w:World) (base:Nat) (S:Sv) (q:PS):Prop where
 rq:OwnR w base 9 1 S.rq q.rq.length (q.rq.map .string)
 im:OwnR w base 95 3 S.im q.im.length (q.im.flatMap imL)
 ep:OwnR w base 97 4 S.ep q.ep.length (q.ep.flatMap epL)
 st:OwnR w base 102 3 S.st q.st.length (q.st.flatMap smL)
 ex:OwnR w base 100 6 S.ex q.ex.length (q.ex.flatMap exL)
 la:OwnR w base 97 4 S.la q.la.length (q.la.flatMap epL)
 apart: ∀k,S.ep.blk=some k->S.la.blk≠some k
theorem OwnR.typed {w:World} {base size n:Nat} {e:TypeId} {r:Rw} {xs:List Value} (h:OwnR w base e size r n xs) {k:Nat} (z:r.blk=some k):base<=k/\k<w.heap.size/\∃q,w.heap[k]? =some (.cells q e (0,0)):=by
 rcases h.2 with ⟨A,_⟩|⟨g,I,q,A,J,H,_⟩
 ·rw[<-zb5 r n,A] at z;simp[Value.ownBlock] at z
 ·rw[<-zb5 r n,A] at z;simp only[Value.ownBlock,Option.some.injEq] at z;subst z;exact⟨J,(aLt H),q,H⟩
theorem OwnR.ne {w:World} {J b2 U M Y n2:Nat} {I A:TypeId} {z H:Rw} {Z V:List Value} (N:OwnR w J I U z Y Z) (K:OwnR w b2 A M H n2 V) (X:I≠A) {k:Nat} (L:z.blk=some k):H.blk≠some k:=by
 intro h;obtain⟨_,_,c1,O⟩:=N.typed L;obtain⟨_,_,c2,q⟩:=K.typed h;rw[O] at q;simp only[Option.some.injEq,Obj.cells.injEq] at q;exact X q.2.1
theorem OwnR.keep {w w':World} {base size n:Nat} {e:TypeId} {r:Rw} {xs:List Value} (h:OwnR w base e size r n xs) (H: ∀k,r.blk=some k->w'.heap[k]? =w.heap[k]?):OwnR w' base e size r n xs:=by
 refine⟨h.1,?_⟩;rcases h.2 with q|⟨g,A,z,q,I,J,rest⟩
 ·exact .inl q
 ·refine .inr ⟨g,A,z,q,I,?_,rest⟩;rw[H g (by rw[<-zb5 r n,q];rfl)];exact J
theorem Own.keep {w w':World} {base:Nat} {S:Sv} {q:PS} (h:Own w base S q) (z: ∀k,S.has k->w'.heap[k]? =w.heap[k]?):Own w' base S q:=
 ⟨h.rq.keep fun k e=>z k (.inl e),h.im.keep fun k e=>z k (.inr (.inl e)),h.ep.keep fun k e=>z k (.inr (.inr (.inl e))),h.st.keep fun k e=>z k (.inr (.inr (.inr (.inl e)))),
  h.ex.keep fun k e=>z k (.inr (.inr (.inr (.inr (.inl e))))),h.la.keep fun k e=>z k (.inr (.inr (.inr (.inr (.inr e))))),h.apart⟩
theorem Own.has {w:World} {base:Nat} {S:Sv} {q:PS} (h:Own w base S q) {k:Nat} (z:S.has k):base<=k/\k<w.heap.size:=by
 rcases z with e|e|e|e|e|e
 ·exact⟨(h.rq.typed e).1,(h.rq.typed e).2.1⟩
 ·exact⟨(h.im.typed e).1,(h.im.typed e).2.1⟩
 ·exact⟨(h.ep.typed e).1,(h.ep.typed e).2.1⟩
 ·exact⟨(h.st.typed e).1,(h.st.typed e).2.1⟩
 ·exact⟨(h.ex.typed e).1,(h.ex.typed e).2.1⟩
 ·exact⟨(h.la.typed e).1,(h.la.typed e).2.1⟩
theorem Own.later {w w':World} {base:Nat} {S:Sv} {q:PS} (h:Own w base S q) (z:Below w.heap.size w w'):Own w' base S q:=h.keep fun k e=>z.block k (h.has e).2
theorem Own.other {w:World} {base:Nat} {S:Sv} {q:PS} (h:Own w base S q) {k:Nat} {I:Array Value} {e:TypeId} {z:Nat×Nat} (H:w.heap[k]? =some (.cells I e z)) (M:e≠9) (K:e≠95) (J:e≠97) (L:e≠102) (N:e≠100): ¬S.has k:=by
 rintro (g|g|g|g|g|g)
 ·obtain⟨_,_,c,A⟩:=h.rq.typed g;rw[H] at A;simp only[Option.some.injEq,Obj.cells.injEq] at A;exact M A.2.1
 ·obtain⟨_,_,c,A⟩:=h.im.typed g;rw[H] at A;simp only[Option.some.injEq,Obj.cells.injEq] at A;exact K A.2.1
 ·obtain⟨_,_,c,A⟩:=h.ep.typed g;rw[H] at A;simp only[Option.some.injEq,Obj.cells.injEq] at A;exact J A.2.1
 ·obtain⟨_,_,c,A⟩:=h.st.typed g;rw[H] at A;simp only[Option.some.injEq,Obj.cells.injEq] at A;exact L A.2.1
 ·obtain⟨_,_,c,A⟩:=h.ex.typed g;rw[H] at A;simp only[Option.some.injEq,Obj.cells.injEq] at A;exact N A.2.1
 ·obtain⟨_,_,c,A⟩:=h.la.typed g;rw[H] at A;simp only[Option.some.injEq,Obj.cells.injEq] at A;exact J A.2.1
structure Stp (S:Sv) (w:World) (S':Sv) (w':World):Prop where
 os:w'.os=w.os
 tape:w'.tape=w.tape
 output:w'.output=w.output
 size:w.heap.size<=w'.heap.size
 block: ∀k,k<w.heap.size->¬S.has k->w'.heap[k]? =w.heap[k]?
 sub: ∀k,S'.has k->S.has k∨w.heap.size<=k
theorem Stp.refl (S:Sv) (w:World):Stp S w S w:=⟨rfl,rfl,rfl,Nat.le_refl _,fun _ _ _=>rfl,fun _ h=>.inl h⟩
theorem Stp.trans {S H z:Sv} {w A I:World} (h:Stp S w H A) (k:Stp H A z I):Stp S w z I:=
 ⟨k.os.trans h.os,k.tape.trans h.tape,k.output.trans h.output,Nat.le_trans h.size k.size,
  fun i q J=>(k.block i (Nat.lt_of_lt_of_le q h.size) fun g=>(h.sub i g).elim J fun K=>by omega).trans (h.block i q J),
  fun i q=>(k.sub i q).elim (h.sub i) fun g=>.inr (Nat.le_trans h.size g)⟩
theorem Stp.below {S:Sv} {w w':World} (h:Below w.heap.size w w'):Stp S w S w':=⟨h.os,h.tape,h.output,h.size,fun k q _=>h.block k q,fun _ g=>.inl g⟩
theorem Stp.under {S z:Sv} {w w':World} {base:Nat} {q:PS} (h:Stp S w z w') (I:base<=w.heap.size) (A:Own w base S q):Below base w w':=
 ⟨h.os,h.tape,h.output,h.size,fun k H=>h.block k (by omega) fun g=>by have:=(A.has g).1;omega⟩
theorem Stp.grown {S q:Sv} {w w':World} {row:Option Nat} (h:w.grownBy w' row) (A: ∀k,row=some k->S.has k) (H: ∀k,q.has k->S.has k∨w.heap.size<=k):Stp S w q w':=
 ⟨h.os,h.tape,h.output,h.size,fun k z I=>h.block k z fun e=>I (A k e.symm),H⟩
structure Inv (C:Cx) (q:PS):Prop where
 pos:q.pos<=C.ts.length
 rq:q.rq.length<=40
 im:q.im.length<=40
 ep:q.ep.length+q.la.length<=40
 st:q.st.length<=80
 ex:q.ex.length<=300
structure Mem (C:Cx) (gt cap base:Nat) (S:Sv) (q:PS) (w:World):Prop where
 own:Own w base S q
 inv:Inv C q
 tok:OwnT w base 158 gt C.ts.length cap C.ts
 few:C.ts.length<=4000
 base:base<=w.heap.size
theorem Mem.later {C:Cx} {H z base:Nat} {S:Sv} {q:PS} {w w':World} (h:Mem C H z base S q w) (A:Below w.heap.size w w'):Mem C H z base S q w':=
 ⟨h.own.later A,h.inv,zc1 h.tok A,h.few,Nat.le_trans h.base A.size⟩
theorem Mem.alloc {C:Cx} {A z base:Nat} {S:Sv} {q:PS} {w:World} (h:Mem C A z base S q w) (o:Obj):Mem C A z base S q (w.alloc o):=h.later ((Below.refl _ _).alloc (Nat.le_refl _) _)
theorem Own.to {w:World} {base:Nat} {S:Sv} {q q':PS} (h:Own w base S q) (I:q'.rq=q.rq) (A:q'.im=q.im) (K:q'.ep=q.ep) (H:q'.st=q.st) (J:q'.ex=q.ex) (z:q'.la=q.la):Own w base S q':=
 ⟨by rw[I];exact h.rq,by rw[A];exact h.im,by rw[K];exact h.ep,by rw[H];exact h.st,by rw[J];exact h.ex,by rw[z];exact h.la,h.apart⟩
theorem Mem.adv {C:Cx} {A z base:Nat} {S:Sv} {q:PS} {w:World} (h:Mem C A z base S q w) (H:q.pos<C.ts.length):Mem C A z base S (adv q) w:=
 ⟨h.own.to rfl rfl rfl rfl rfl rfl,⟨H,h.inv.rq,h.inv.im,h.inv.ep,h.inv.st,h.inv.ex⟩,h.tok,h.few,h.base⟩
theorem OwnR.alloc {w:World} {base size n:Nat} {e:TypeId} {r:Rw} {xs:List Value} (h:OwnR w base e size r n xs) (o:Obj):OwnR (w.alloc o) base e size r n xs:=
 h.keep fun k q=>Below.heap_alloc w o k (h.typed q).2.1
theorem zgf {w:World} {base g n A:Nat} {e:TypeId} {I:List Tk} (h:OwnT w base e g n A I): ∃q,w.heap[g]? =some (.cells q e (0,0)):=by
 rcases h.1.2 with ⟨z,_⟩|⟨M,H,q,z,K,J,L,_⟩
 ·simp at z
 ·simp only[Value.slice.injEq,Option.some.injEq,Addr.mk.injEq,and_true,true_and] at z;obtain⟨rfl,rfl⟩:=z;exact⟨q,J⟩
theorem zbI {w w':World} {base g n z:Nat} {e:TypeId} {H:List Tk} (h:OwnT w base e g n z H) (K:w'.heap[g]? =w.heap[g]?):OwnT w' base e g n z H:=by
 refine⟨⟨h.1.1,?_⟩,h.2⟩;rcases h.1.2 with k|⟨N,J,A,I,q,M,L⟩
 ·exact .inl k
 ·simp only[Value.slice.injEq,Option.some.injEq,Addr.mk.injEq,and_true,true_and] at I;obtain⟨rfl,rfl⟩:=I;exact .inr ⟨g,z,A,rfl,q,K.trans M,L⟩
theorem Mem.gt_free {C:Cx} {A z base:Nat} {S:Sv} {q:PS} {w:World} (h:Mem C A z base S q w): ¬S.has A:=by
 obtain⟨H,I⟩:=zgf h.tok;exact h.own.other I (by decide) (by decide) (by decide) (by decide) (by decide)
structure Off (lo hi:Nat) (w w':World):Prop where
 os:w'.os=w.os
 tape:w'.tape=w.tape
 output:w'.output=w.output
 size:w.heap.size<=w'.heap.size
 block: ∀k,k<lo∨hi<=k/\k<w.heap.size->w'.heap[k]? =w.heap[k]?
theorem Off.refl (h q:Nat) (w:World):Off h q w w:=⟨rfl,rfl,rfl,Nat.le_refl _,fun _ _=>rfl⟩
theorem Off.set {q z:Nat} {w w':World} (h:Off q z w w') {b:Nat} (I:q<=b) (H:b<z) (i:Nat) (u:Value):Off q z w (w'.setCell ⟨b,i,none⟩ u):=
 ⟨h.os,h.tape,h.output,by show _<=(w'.heap.modify _ _).size;simp;exact h.size,fun k A=>(Below.heap_setCell w' ⟨b,i,none⟩ u k (by show k≠b;omega)).trans (h.block k A)⟩
theorem Off.below {A I:Nat} {w z H:World} (h:Off A I w z) (q:Below z.heap.size z H) (K:A<=w.heap.size):Off A I w H:=
 ⟨q.os.trans h.os,q.tape.trans h.tape,q.output.trans h.output,Nat.le_trans h.size q.size,fun k J=>(q.block k (by have:=h.size;omega)).trans (h.block k J)⟩
theorem Off.set12 {H J:Nat} {a w:World} (h:Off H J a w) {b:Nat} (z:H<=b) (q:b<J) (K U L V M Z O Y N X A I:Value):
  Off H J a ((((((((((((w.setCell ⟨b,0,none⟩ K).setCell ⟨b,1,none⟩ U).setCell ⟨b,2,none⟩ L).setCell ⟨b,3,none⟩ V).setCell ⟨b,4,none⟩ M).setCell ⟨b,5,none⟩ Z).setCell ⟨b,6,none⟩ O).setCell ⟨b,7,none⟩ Y).setCell ⟨b,8,none⟩ N).setCell ⟨b,9,none⟩ X).setCell ⟨b,10,none⟩ A).setCell ⟨b,11,none⟩ I):=
 (((((((((((h.set z q _ _).set z q _ _).set z q _ _).set z q _ _).set z q _ _).set z q _ _).set z q _ _).set z q _ _).set z q _ _).set z q _ _).set z q _ _).set z q _ _
theorem zbb {P:Program} (W:World) {M:Array Oper} {rest:List Oper} {o:Oper} {a:Act} {Q:Exit->Act->World->Prop} (O:o.guard=none) (s x:Operand) (t:TypeId)
  (ho:o.op= .call {callee:=.builtin .append,args:=#[s,x],argTypes:=#[t,t]})
  (base:Nat) (e:TypeId) (i:TypeInfo) (z:Value) (size q:Nat) (ht:P.underlying t=some (.slice e)) (hi:P.info? e=some i) (hz:i.zero=some z) (H:i.size=size) (V:i.bytes=q) (X:z.cells.size=size) (U:0<size) (L:q<=100)
  (r:Rw) (n:Nat) (xs:List Value) (hs:a.eval s= .slice r.a n r.cap) (J:OwnR W base e size r n xs)
  (N:Nat) (w:List Value) (hx:a.eval x= .slice (some ⟨N,0,none⟩) 1 1) (hg:W.heap[N]? =some (.cells w.toArray e (0,0))) (hl:w.length=size) (h1: ∀u∈w,u.oneCell'=true) (hn:n+1<=4000000) (I:base<=W.heap.size)
  (h: ∀K w',OwnR w' base e size K (n+1) (xs++w)->W.grownBy w' r.blk->(K.blk=r.blk∨K.blk=some W.heap.size)->wpList P M Q rest (a.put o.dst (.slice K.a (n+1) K.cap)) w'):
  wpList P M Q (o::rest) a W:=by
 refine wpList_append_own_at _ O s x t ho base e i z size q ht hi hz H V X U _ n _ hs J ⟨N,0,none⟩ 1 1 w hx (by omega) ?_ h1 ?_ ?_ I ?_
 ·intro j u hj;have:(⟨N,0,none⟩:Addr).add j=⟨N,j,none⟩:=by simp[Addr.add];exact fun h=>h.symm
  rw[this];simp[World.cell?,hg,hj]
 ·unfold maxLen;omega
 ·have:(n+1)*q<=4000000*100:=Nat.mul_le_mul hn L;omega
 ·intro v' w' Z k2 k3 k4;rcases Z.2 with ⟨hv,ab⟩|⟨g',A,aa,rfl,Y⟩
  ·omega
  ·refine h ⟨some ⟨g',0,none⟩,A⟩ w' Z ?_ ?_
   ·rw[<-zb5 r n];exact k2
   ·rw[<-zb5 r n,<-zb5 ⟨some ⟨g',0,none⟩,A⟩ (n+1)];exact k4
theorem Mem.grow_rq {C:Cx} {Y N base:Nat} {S:Sv} {q:PS} {w W w' K:World} (z:Mem C Y N base S q w) (L:Below w.heap.size w W) (U:W.grownBy w' S.rq.blk) {J:Rw} {x:BA} (hr:OwnR w' base 9 1 J (q.rq.length+1) (q.rq.map .string++[.string x])) (V:J.blk=S.rq.blk∨J.blk=some W.heap.size) (I:Off w.heap.size W.heap.size w' K) (hn:q.rq.length<40):
  Mem C Y N base {S with rq:=J} {q with rq:=q.rq++[x]} K/\Stp S w {S with rq:=J} K:=by
 have aa:=L.size;have M:=U.size;have A: ∀k,k<w.heap.size->S.rq.blk≠some k->K.heap[k]? =w.heap[k]?:=fun k H Z=>
  (I.block k (.inl H)).trans ((U.block k (by omega) fun e=>Z e.symm).trans (L.block k H))
 have X:OwnR K base 9 1 J (q.rq.length+1) (q.rq.map .string++[.string x]):=hr.keep fun k H=>I.block k (by
  rcases V with e|e
  ·rw[e] at H;exact .inl (z.own.rq.typed H).2.1
  ·rw[e] at H;obtain rfl:=Option.some.inj H
   exact .inr ⟨Nat.le_refl _,(hr.typed e).2.1⟩)
 have O:(q.rq++[x]).length=q.rq.length+1:=by simp
 refine⟨⟨⟨by show OwnR K base 9 1 J (q.rq++[x]).length _;rw[O];simpa using X,z.own.im.keep fun k H=>A k (z.own.im.typed H).2.1 (z.own.im.ne z.own.rq (by decide) H),z.own.ep.keep fun k H=>A k (z.own.ep.typed H).2.1 (z.own.ep.ne z.own.rq (by decide) H),z.own.st.keep fun k H=>A k (z.own.st.typed H).2.1 (z.own.st.ne z.own.rq (by decide) H),z.own.ex.keep fun k H=>A k (z.own.ex.typed H).2.1 (z.own.ex.ne z.own.rq (by decide) H),z.own.la.keep fun k H=>A k (z.own.la.typed H).2.1 (z.own.la.ne z.own.rq (by decide) H),z.own.apart⟩,⟨z.inv.pos,by simp;omega,z.inv.im,z.inv.ep,z.inv.st,z.inv.ex⟩,zbI z.tok (A Y (zau z.tok).1 fun e=>z.gt_free (.inl e)),z.few,Nat.le_trans z.base (by have:=I.size;omega)⟩,?_⟩;refine⟨I.os.trans (U.os.trans L.os),I.tape.trans (U.tape.trans L.tape),I.output.trans (U.output.trans L.output),Nat.le_trans (Nat.le_trans aa M) I.size,fun k H hn=>A k H fun e=>hn (.inl e),fun k H=>?_⟩;rcases H with h|h|h|h|h|h
 ·exact V.elim (fun e=>.inl (.inl (e.symm.trans h))) fun e=>.inr (by have:W.heap.size=k:=Option.some.inj (e.symm.trans h);omega)
 ·exact .inl (.inr (.inl h))
 ·exact .inl (.inr (.inr (.inl h)))
 ·exact .inl (.inr (.inr (.inr (.inl h))))
 ·exact .inl (.inr (.inr (.inr (.inr (.inl h)))))
 ·exact .inl (.inr (.inr (.inr (.inr (.inr h)))))
theorem Mem.grow_im {C:Cx} {Y N base:Nat} {S:Sv} {q:PS} {w W w' K:World} (z:Mem C Y N base S q w) (L:Below w.heap.size w W) (U:W.grownBy w' S.im.blk) {J:Rw} {x:Im} (hr:OwnR w' base 95 3 J (q.im.length+1) (q.im.flatMap imL++imL x)) (V:J.blk=S.im.blk∨J.blk=some W.heap.size) (I:Off w.heap.size W.heap.size w' K) (hn:q.im.length<40):
  Mem C Y N base {S with im:=J} {q with im:=q.im++[x]} K/\Stp S w {S with im:=J} K:=by
 have aa:=L.size;have M:=U.size;have A: ∀k,k<w.heap.size->S.im.blk≠some k->K.heap[k]? =w.heap[k]?:=fun k H Z=>
  (I.block k (.inl H)).trans ((U.block k (by omega) fun e=>Z e.symm).trans (L.block k H))
 have X:OwnR K base 95 3 J (q.im.length+1) (q.im.flatMap imL++imL x):=hr.keep fun k H=>I.block k (by
  rcases V with e|e
  ·rw[e] at H;exact .inl (z.own.im.typed H).2.1
  ·rw[e] at H;obtain rfl:=Option.some.inj H
   exact .inr ⟨Nat.le_refl _,(hr.typed e).2.1⟩)
 have O:(q.im++[x]).length=q.im.length+1:=by simp
 refine⟨⟨⟨z.own.rq.keep fun k H=>A k (z.own.rq.typed H).2.1 (z.own.rq.ne z.own.im (by decide) H),by show OwnR K base 95 3 J (q.im++[x]).length _;rw[O];simpa using X,z.own.ep.keep fun k H=>A k (z.own.ep.typed H).2.1 (z.own.ep.ne z.own.im (by decide) H),z.own.st.keep fun k H=>A k (z.own.st.typed H).2.1 (z.own.st.ne z.own.im (by decide) H),z.own.ex.keep fun k H=>A k (z.own.ex.typed H).2.1 (z.own.ex.ne z.own.im (by decide) H),z.own.la.keep fun k H=>A k (z.own.la.typed H).2.1 (z.own.la.ne z.own.im (by decide) H),z.own.apart⟩,⟨z.inv.pos,z.inv.rq,by simp;omega,z.inv.ep,z.inv.st,z.inv.ex⟩,zbI z.tok (A Y (zau z.tok).1 fun e=>z.gt_free (.inr (.inl e))),z.few,Nat.le_trans z.base (by have:=I.size;omega)⟩,?_⟩;refine⟨I.os.trans (U.os.trans L.os),I.tape.trans (U.tape.trans L.tape),I.output.trans (U.output.trans L.output),Nat.le_trans (Nat.le_trans aa M) I.size,fun k H hn=>A k H fun e=>hn (.inr (.inl e)),fun k H=>?_⟩;rcases H with h|h|h|h|h|h
 ·exact .inl (.inl h)
 ·exact V.elim (fun e=>.inl (.inr (.inl (e.symm.trans h)))) fun e=>.inr (by have:W.heap.size=k:=Option.some.inj (e.symm.trans h);omega)
 ·exact .inl (.inr (.inr (.inl h)))
 ·exact .inl (.inr (.inr (.inr (.inl h))))
 ·exact .inl (.inr (.inr (.inr (.inr (.inl h)))))
 ·exact .inl (.inr (.inr (.inr (.inr (.inr h)))))
theorem Mem.grow_ep {C:Cx} {gt O base:Nat} {S:Sv} {q:PS} {w W w' L:World} (z:Mem C gt O base S q w) (N:Below w.heap.size w W) (M:W.grownBy w' S.ep.blk) {J:Rw} {x:Ep} (hr:OwnR w' base 97 4 J (q.ep.length+1) (q.ep.flatMap epL++epL x)) (K:J.blk=S.ep.blk∨J.blk=some W.heap.size) (I:Off w.heap.size W.heap.size w' L) (hn:q.ep.length+q.la.length<40):
  Mem C gt O base {S with ep:=J} {q with ep:=q.ep++[x]} L/\Stp S w {S with ep:=J} L:=by
 have Z:=N.size;have X:=M.size;have A: ∀k,k<w.heap.size->S.ep.blk≠some k->L.heap[k]? =w.heap[k]?:=fun k H Y=>
  (I.block k (.inl H)).trans ((M.block k (by omega) fun e=>Y e.symm).trans (N.block k H))
 have V:OwnR L base 97 4 J (q.ep.length+1) (q.ep.flatMap epL++epL x):=hr.keep fun k H=>I.block k (by
  rcases K with e|e
  ·rw[e] at H;exact .inl (z.own.ep.typed H).2.1
  ·rw[e] at H;obtain rfl:=Option.some.inj H
   exact .inr ⟨Nat.le_refl _,(hr.typed e).2.1⟩)
 have U:(q.ep++[x]).length=q.ep.length+1:=by simp
 refine⟨⟨⟨z.own.rq.keep fun k H=>A k (z.own.rq.typed H).2.1 (z.own.rq.ne z.own.ep (by decide) H),z.own.im.keep fun k H=>A k (z.own.im.typed H).2.1 (z.own.im.ne z.own.ep (by decide) H),by show OwnR L base 97 4 J (q.ep++[x]).length _;rw[U];simpa using V,z.own.st.keep fun k H=>A k (z.own.st.typed H).2.1 (z.own.st.ne z.own.ep (by decide) H),z.own.ex.keep fun k H=>A k (z.own.ex.typed H).2.1 (z.own.ex.ne z.own.ep (by decide) H),z.own.la.keep fun k H=>A k (z.own.la.typed H).2.1 (fun e=>z.own.apart k e H),fun k H hl=>K.elim (fun e=>z.own.apart k (by rw[<-e];exact H) hl) fun e=>by have h1:=(z.own.la.typed hl).2.1;have h2:W.heap.size=k:=Option.some.inj (e.symm.trans H);omega⟩,⟨z.inv.pos,z.inv.rq,z.inv.im,by have:=z.inv.ep;simp;omega,z.inv.st,z.inv.ex⟩,zbI z.tok (A gt (zau z.tok).1 fun e=>z.gt_free (.inr (.inr (.inl e)))),z.few,Nat.le_trans z.base (by have:=I.size;omega)⟩,?_⟩;refine⟨I.os.trans (M.os.trans N.os),I.tape.trans (M.tape.trans N.tape),I.output.trans (M.output.trans N.output),Nat.le_trans (Nat.le_trans Z X) I.size,fun k H hn=>A k H fun e=>hn (.inr (.inr (.inl e))),fun k H=>?_⟩;rcases H with h|h|h|h|h|h
 ·exact .inl (.inl h)
 ·exact .inl (.inr (.inl h))
 ·exact K.elim (fun e=>.inl (.inr (.inr (.inl (e.symm.trans h))))) fun e=>.inr (by have:W.heap.size=k:=Option.some.inj (e.symm.trans h);omega)
 ·exact .inl (.inr (.inr (.inr (.inl h))))
 ·exact .inl (.inr (.inr (.inr (.inr (.inl h)))))
 ·exact .inl (.inr (.inr (.inr (.inr (.inr h)))))
theorem Mem.grow_st {C:Cx} {Y N base:Nat} {S:Sv} {q:PS} {w W w' K:World} (z:Mem C Y N base S q w) (L:Below w.heap.size w W) (U:W.grownBy w' S.st.blk) {J:Rw} {x:Sm} (hr:OwnR w' base 102 3 J (q.st.length+1) (q.st.flatMap smL++smL x)) (V:J.blk=S.st.blk∨J.blk=some W.heap.size) (I:Off w.heap.size W.heap.size w' K) (hn:q.st.length<80):
  Mem C Y N base {S with st:=J} {q with st:=q.st++[x]} K/\Stp S w {S with st:=J} K:=by
 have aa:=L.size;have M:=U.size;have A: ∀k,k<w.heap.size->S.st.blk≠some k->K.heap[k]? =w.heap[k]?:=fun k H Z=>
  (I.block k (.inl H)).trans ((U.block k (by omega) fun e=>Z e.symm).trans (L.block k H))
 have X:OwnR K base 102 3 J (q.st.length+1) (q.st.flatMap smL++smL x):=hr.keep fun k H=>I.block k (by
  rcases V with e|e
  ·rw[e] at H;exact .inl (z.own.st.typed H).2.1
  ·rw[e] at H;obtain rfl:=Option.some.inj H
   exact .inr ⟨Nat.le_refl _,(hr.typed e).2.1⟩)
 have O:(q.st++[x]).length=q.st.length+1:=by simp
 refine⟨⟨⟨z.own.rq.keep fun k H=>A k (z.own.rq.typed H).2.1 (z.own.rq.ne z.own.st (by decide) H),z.own.im.keep fun k H=>A k (z.own.im.typed H).2.1 (z.own.im.ne z.own.st (by decide) H),z.own.ep.keep fun k H=>A k (z.own.ep.typed H).2.1 (z.own.ep.ne z.own.st (by decide) H),by show OwnR K base 102 3 J (q.st++[x]).length _;rw[O];simpa using X,z.own.ex.keep fun k H=>A k (z.own.ex.typed H).2.1 (z.own.ex.ne z.own.st (by decide) H),z.own.la.keep fun k H=>A k (z.own.la.typed H).2.1 (z.own.la.ne z.own.st (by decide) H),z.own.apart⟩,⟨z.inv.pos,z.inv.rq,z.inv.im,z.inv.ep,by simp;omega,z.inv.ex⟩,zbI z.tok (A Y (zau z.tok).1 fun e=>z.gt_free (.inr (.inr (.inr (.inl e))))),z.few,Nat.le_trans z.base (by have:=I.size;omega)⟩,?_⟩;refine⟨I.os.trans (U.os.trans L.os),I.tape.trans (U.tape.trans L.tape),I.output.trans (U.output.trans L.output),Nat.le_trans (Nat.le_trans aa M) I.size,fun k H hn=>A k H fun e=>hn (.inr (.inr (.inr (.inl e)))),fun k H=>?_⟩;rcases H with h|h|h|h|h|h
 ·exact .inl (.inl h)
 ·exact .inl (.inr (.inl h))
 ·exact .inl (.inr (.inr (.inl h)))
 ·exact V.elim (fun e=>.inl (.inr (.inr (.inr (.inl (e.symm.trans h)))))) fun e=>.inr (by have:W.heap.size=k:=Option.some.inj (e.symm.trans h);omega)
 ·exact .inl (.inr (.inr (.inr (.inr (.inl h)))))
 ·exact .inl (.inr (.inr (.inr (.inr (.inr h)))))
theorem Mem.grow_ex {C:Cx} {Y N base:Nat} {S:Sv} {q:PS} {w W w' K:World} (z:Mem C Y N base S q w) (L:Below w.heap.size w W) (U:W.grownBy w' S.ex.blk) {J:Rw} {x:Ex} (hr:OwnR w' base 100 6 J (q.ex.length+1) (q.ex.flatMap exL++exL x)) (V:J.blk=S.ex.blk∨J.blk=some W.heap.size) (I:Off w.heap.size W.heap.size w' K) (hn:q.ex.length<300):
  Mem C Y N base {S with ex:=J} {q with ex:=q.ex++[x]} K/\Stp S w {S with ex:=J} K:=by
 have aa:=L.size;have M:=U.size;have A: ∀k,k<w.heap.size->S.ex.blk≠some k->K.heap[k]? =w.heap[k]?:=fun k H Z=>
  (I.block k (.inl H)).trans ((U.block k (by omega) fun e=>Z e.symm).trans (L.block k H))
 have X:OwnR K base 100 6 J (q.ex.length+1) (q.ex.flatMap exL++exL x):=hr.keep fun k H=>I.block k (by
  rcases V with e|e
  ·rw[e] at H;exact .inl (z.own.ex.typed H).2.1
  ·rw[e] at H;obtain rfl:=Option.some.inj H
   exact .inr ⟨Nat.le_refl _,(hr.typed e).2.1⟩)
 have O:(q.ex++[x]).length=q.ex.length+1:=by simp
 refine⟨⟨⟨z.own.rq.keep fun k H=>A k (z.own.rq.typed H).2.1 (z.own.rq.ne z.own.ex (by decide) H),z.own.im.keep fun k H=>A k (z.own.im.typed H).2.1 (z.own.im.ne z.own.ex (by decide) H),z.own.ep.keep fun k H=>A k (z.own.ep.typed H).2.1 (z.own.ep.ne z.own.ex (by decide) H),z.own.st.keep fun k H=>A k (z.own.st.typed H).2.1 (z.own.st.ne z.own.ex (by decide) H),by show OwnR K base 100 6 J (q.ex++[x]).length _;rw[O];simpa using X,z.own.la.keep fun k H=>A k (z.own.la.typed H).2.1 (z.own.la.ne z.own.ex (by decide) H),z.own.apart⟩,⟨z.inv.pos,z.inv.rq,z.inv.im,z.inv.ep,z.inv.st,by simp;omega⟩,zbI z.tok (A Y (zau z.tok).1 fun e=>z.gt_free (.inr (.inr (.inr (.inr (.inl e)))))),z.few,Nat.le_trans z.base (by have:=I.size;omega)⟩,?_⟩;refine⟨I.os.trans (U.os.trans L.os),I.tape.trans (U.tape.trans L.tape),I.output.trans (U.output.trans L.output),Nat.le_trans (Nat.le_trans aa M) I.size,fun k H hn=>A k H fun e=>hn (.inr (.inr (.inr (.inr (.inl e))))),fun k H=>?_⟩;rcases H with h|h|h|h|h|h
 ·exact .inl (.inl h)
 ·exact .inl (.inr (.inl h))
 ·exact .inl (.inr (.inr (.inl h)))
 ·exact .inl (.inr (.inr (.inr (.inl h))))
 ·exact V.elim (fun e=>.inl (.inr (.inr (.inr (.inr (.inl (e.symm.trans h))))))) fun e=>.inr (by have:W.heap.size=k:=Option.some.inj (e.symm.trans h);omega)
 ·exact .inl (.inr (.inr (.inr (.inr (.inr h)))))
theorem Mem.grow_la {C:Cx} {gt O base:Nat} {S:Sv} {q:PS} {w W w' L:World} (z:Mem C gt O base S q w) (N:Below w.heap.size w W) (M:W.grownBy w' S.la.blk) {J:Rw} {x:Ep} (hr:OwnR w' base 97 4 J (q.la.length+1) (q.la.flatMap epL++epL x)) (K:J.blk=S.la.blk∨J.blk=some W.heap.size) (I:Off w.heap.size W.heap.size w' L) (hn:q.ep.length+q.la.length<40):
  Mem C gt O base {S with la:=J} {q with la:=q.la++[x]} L/\Stp S w {S with la:=J} L:=by
 have Z:=N.size;have X:=M.size;have A: ∀k,k<w.heap.size->S.la.blk≠some k->L.heap[k]? =w.heap[k]?:=fun k H Y=>
  (I.block k (.inl H)).trans ((M.block k (by omega) fun e=>Y e.symm).trans (N.block k H))
 have V:OwnR L base 97 4 J (q.la.length+1) (q.la.flatMap epL++epL x):=hr.keep fun k H=>I.block k (by
  rcases K with e|e
  ·rw[e] at H;exact .inl (z.own.la.typed H).2.1
  ·rw[e] at H;obtain rfl:=Option.some.inj H
   exact .inr ⟨Nat.le_refl _,(hr.typed e).2.1⟩)
 have U:(q.la++[x]).length=q.la.length+1:=by simp
 refine⟨⟨⟨z.own.rq.keep fun k H=>A k (z.own.rq.typed H).2.1 (z.own.rq.ne z.own.la (by decide) H),z.own.im.keep fun k H=>A k (z.own.im.typed H).2.1 (z.own.im.ne z.own.la (by decide) H),z.own.ep.keep fun k H=>A k (z.own.ep.typed H).2.1 (fun e=>z.own.apart k H e),z.own.st.keep fun k H=>A k (z.own.st.typed H).2.1 (z.own.st.ne z.own.la (by decide) H),z.own.ex.keep fun k H=>A k (z.own.ex.typed H).2.1 (z.own.ex.ne z.own.la (by decide) H),by show OwnR L base 97 4 J (q.la++[x]).length _;rw[U];simpa using V,fun k H hl=>K.elim (fun e=>z.own.apart k H (by rw[<-e];exact hl)) fun e=>by have h1:=(z.own.ep.typed H).2.1;have h2:W.heap.size=k:=Option.some.inj (e.symm.trans hl);omega⟩,⟨z.inv.pos,z.inv.rq,z.inv.im,by have:=z.inv.ep;simp;omega,z.inv.st,z.inv.ex⟩,zbI z.tok (A gt (zau z.tok).1 fun e=>z.gt_free (.inr (.inr (.inr (.inr (.inr e)))))),z.few,Nat.le_trans z.base (by have:=I.size;omega)⟩,?_⟩;refine⟨I.os.trans (M.os.trans N.os),I.tape.trans (M.tape.trans N.tape),I.output.trans (M.output.trans N.output),Nat.le_trans (Nat.le_trans Z X) I.size,fun k H hn=>A k H fun e=>hn (.inr (.inr (.inr (.inr (.inr e))))),fun k H=>?_⟩;rcases H with h|h|h|h|h|h
 ·exact .inl (.inl h)
 ·exact .inl (.inr (.inl h))
 ·exact .inl (.inr (.inr (.inl h)))
 ·exact .inl (.inr (.inr (.inr (.inl h))))
 ·exact .inl (.inr (.inr (.inr (.inr (.inl h)))))
 ·exact K.elim (fun e=>.inl (.inr (.inr (.inr (.inr (.inr (e.symm.trans h))))))) fun e=>.inr (by have:W.heap.size=k:=Option.some.inj (e.symm.trans h);omega)
abbrev PRN:=Except Nat (PS×BA)
def zaT (y:PRN):PR:=bd y fun a=>.ok a.1
def withN (y:PRN) (F:PR->BA->PR):PRN:=bd y fun a=>bd (F (.ok a.1) a.2) fun q=>.ok (q,a.2)
def zcO (C:Cx) (q:PS):PRN:=withN (bd (zd C 1 zG q) (zm C false)) fun x n=>bd (bd (bd (bd x (zd C 4 cEq)) (pE C .sum 0)) (zd C 4 cSemi)) (zY C 1 n)
def fnP (C:Cx) (q:PS):PRN:=
 withN (bd (zd C 1 zV q) (zm C false)) fun x n=>bd (bd (bd (bd (bd (bd (bd (bd x (zd C 4 zp)) (zd C 4 za8)) (zd C 4 zN)) (zd C 1 ze9)) (pE C .sum 0)) (zd C 4 cSemi)) (zd C 4 zb1)) (zY C 2 n)
def asP (C:Cx) (exp:Bool) (a:PS×BA):PRN:=
 if isT C a.1.pos 1 sAs then zm C exp (adv a.1)
 else if (a.2.toList==[100,101,102,97,117,108,116])&& !exp then .error (zs C a.1.pos) else .ok a
abbrev PRL:=Except Nat (PS×List Ep)
def zd4 (C:Cx) (exp:Bool):Nat->PS->List Ep->PRL
 |0,_,_=>.error 0
 |f+1,q,acc=>bd (zm C true q) fun a=>bd (asP C exp a) fun b=>
  if isT C b.1.pos 4 zbF then zd4 C exp f (adv b.1) (acc++[⟨0,b.2,a.2,sNone⟩]) else bd (zd C 4 zb1 b.1) fun q'=>.ok (q',acc++[⟨0,b.2,a.2,sNone⟩])
def za4 (C:Cx) (exp:Bool) (q:PS) (acc:List Ep):PRL:=zd4 C exp (C.ts.length-q.pos+1) q acc
def zde (C:Cx) (exp:Bool) (q:PS):PRL:=bd (zd C 4 zN q) fun q'=>za4 C exp q' []
def zaH (l:List Ep):Bool:=l.any fun x=>x.loc.toList==[100,101,102,97,117,108,116]
theorem zft {C:Cx} {q:Bool} {a b:PS×BA} (h:asP C q a= .ok b):a.1.pos<=b.1.pos:=by
 unfold asP at h
 split at h
 ·obtain⟨rfl,_⟩:=zb2 h;show a.1.pos<=a.1.pos+1+1;omega
 ·split at h
  ·cases h
  ·cases h;exact Nat.le_refl _
theorem znD {C:Cx} {w:Bool} (f:Nat): ∀(g:Nat) (q:PS) (acc:List Ep),C.ts.length-q.pos<f->C.ts.length-q.pos<g->zd4 C w f q acc=zd4 C w g q acc:=by
 induction f with
 |zero=>intro g q acc h;omega
 |succ f A=>
  intro g q acc O M;obtain⟨g,rfl⟩: ∃K,g=K+1:=⟨g-1,by omega⟩;rw[zd4,zd4];refine zag fun a H=>zag fun b J=>?_
  split
  ·next L=>
   obtain⟨rfl,z⟩:=zb2 H;have I:=zft J;have N:=za9 L (by decide);have U:=zfn z;simp only[zz] at I;exact A g _ _ (by rw[zz];omega) (by rw[zz];omega)
  ·rfl
theorem zgg (C:Cx) (h:Bool) (q:PS) (acc:List Ep):za4 C h q acc=bd (zm C true q) fun a=>bd (asP C h a) fun b=>
  if isT C b.1.pos 4 zbF then za4 C h (adv b.1) (acc++[⟨0,b.2,a.2,sNone⟩]) else bd (zd C 4 zb1 b.1) fun q'=>.ok (q',acc++[⟨0,b.2,a.2,sNone⟩]):=by
 rw[za4,zd4];refine zag fun a z=>zag fun b H=>?_
 split
 ·next I=>
  obtain⟨rfl,w⟩:=zb2 z;have A:=zft H;have J:=za9 I (by decide);have K:=zfn w;simp only[zz] at A;exact znD _ _ _ _ (by rw[zz];omega) (by rw[zz];omega)
 ·rfl
def zZ {α:Type} (f:α->PS->PR):List α->PR->PR
 |[],x=>x
 |a::l,x=>zZ f l (bd x (f a))
def zcf (s:BA) (e:Ep):Im:=⟨s,e.loc,e.name⟩
def zaM (C:Cx) (x:PR):PRN:=bd (bd x (zd C 1 zW)) (zL C)
def zbi (C:Cx) (y:PRN):PRN:=bd y fun a=>bd (zd C 4 cSemi a.1) fun q=>.ok (q,a.2)
def zbc (C:Cx) (q:PS):PR:=
 bd (zd C 1 zam q) fun q=>
  if isT C q.pos 4 zN then bd (zde C false q) fun a=>bd (zbi C (zaM C (.ok a.1))) fun b=>zZ (fun e=>zan C (zcf b.2 e)) a.2 (.ok b.1)
  else if isT C q.pos 4 zy then bd (bd (bd (zd C 4 zy q) (zd C 1 sAs)) (zm C false)) fun a=>bd (zbi C (zaM C (.ok a.1))) fun b=>zan C ⟨b.2,zy,a.2⟩ b.1
  else if zH C q.pos false then bd (zm C false q) fun a=>bd (zbi C (zaM C (.ok a.1))) fun b=>zan C ⟨b.2,sDefault,a.2⟩ b.1
  else bd (zL C q) fun a=>zd C 4 cSemi a.1
def zD (e:Ep):Ep:=⟨1,e.name,e.loc,sNone⟩
def zav (s:BA) (e:Ep):Ep:=⟨2,e.name,e.loc,s⟩
def zao (C:Cx) (q:PS):PR:=
 bd (zd C 1 zal q) fun q=>
  if isT C q.pos 4 zN then bd (zde C true q) fun a=>
   if !zaH a.2&& !isT C a.1.pos 1 zW then bd (zd C 4 cSemi a.1) fun q=>zZ (fun e=>zq C (zD e)) a.2 (.ok q)
   else bd (zbi C (zaM C (.ok a.1))) fun b=>zZ (fun e=>zq C (zav b.2 e)) a.2 (.ok b.1)
  else if isT C q.pos 4 zy then bd (zbi C (zaM C (zd C 4 zy q))) fun b=>zq C ⟨3,sNone,sNone,b.2⟩ b.1
  else if isT C q.pos 1 sDefault then bd (bd (bd (bd (zd C 1 sDefault q) (pE C .sum 0)) (zd C 4 cSemi)) (zY C 1 zcp)) (zq C ⟨1,sDefault,zcp,sNone⟩)
  else if isT C q.pos 1 zG then bd (zcO C q) fun a=>zq C ⟨1,a.2,a.2,sNone⟩ a.1
  else if isT C q.pos 1 zV then bd (fnP C q) fun a=>zq C ⟨1,a.2,a.2,sNone⟩ a.1
  else .error (zs C q.pos)
def zB (C:Cx) (q:PS):PR:=
 if !C.scr&&isT C q.pos 1 zam then zbc C q
 else if !C.scr&&isT C q.pos 1 zal then zao C q
 else if isT C q.pos 1 zG then zaT (zcO C q)
 else if isT C q.pos 1 zV then zaT (fnP C q)
 else if isT C q.pos 1 zaz then bd (bd (bd (bd (bd (zd C 1 zaz q) (zd C 4 zp)) (pE C .sum 0)) (zd C 4 za8)) (zd C 4 cSemi)) (zY C 4 sNone)
 else if isT C q.pos 1 zaC then bd (bd (bd (zd C 1 zaC q) (pE C .sum 0)) (zd C 4 cSemi)) (zY C 5 sNone)
 else if C.scr&&isT C q.pos 1 zbT then bd (bd (bd (zd C 1 zbT q) (pE C .sum 0)) (zd C 4 cSemi)) (zY C 6 sNone)
 else bd (zm C false q) fun a=>bd (bd (bd (zd C 4 cEq a.1) (pE C .sum 0)) (zd C 4 cSemi)) (zY C 3 a.2)
theorem za5 {C:Cx} {k:Int} {s:BA} {q q':PS} (h:zd C k s q= .ok q'):q.pos+1=q'.pos:=by
 obtain⟨rfl,_⟩:=zbV h;rfl
theorem zeE {C:Cx} {o:Bool} {q:PS} {a:PS×BA} (h:zm C o q= .ok a):q.pos+1=a.1.pos:=by
 obtain⟨rfl,_⟩:=zb2 h;rfl
theorem zjr {C:Cx} {q:PS} {a:PS×BA} (h:zL C q= .ok a):q.pos+1=a.1.pos:=by
 unfold zL at h
 split at h
 ·split at h
  ·cases h;rfl
  ·split at h
   ·cases h
   ·cases h;rfl
 ·cases h
theorem zeF {C:Cx} {k:Int} {n:BA} {q q':PS} (h:zY C k n q= .ok q'):q.pos=q'.pos:=by
 unfold zY at h
 split at h
 ·cases h
 ·cases h;rfl
theorem zh0 {C:Cx} {y:Im} {q q':PS} (h:zan C y q= .ok q'):q.pos=q'.pos:=by
 unfold zan at h
 split at h
 ·cases h
 ·cases h;rfl
theorem zeG {C:Cx} {y:Ep} {q q':PS} (h:zq C y q= .ok q'):q.pos=q'.pos:=by
 unfold zq at h
 split at h
 ·cases h
 ·split at h
  ·cases h;rfl
  ·cases h;rfl
theorem zh1 {α:Type} {f:α->PS->PR} (w: ∀a q q',f a q= .ok q'->q.pos=q'.pos) (l:List α): ∀(x:PR) (q':PS),zZ f l x= .ok q'->∃q,x= .ok q/\q.pos=q'.pos:=by
 induction l with
 |nil=>intro x q' h;exact⟨q',h,rfl⟩
 |cons a l z=>
  intro x q' h;obtain⟨b,I,A⟩:=z _ _ h;obtain⟨c,J,H⟩:=zn I;exact⟨c,J,(w _ _ _ H).trans A⟩
theorem zjs {C:Cx} {z:Bool} (m:Nat): ∀(q:PS) (acc:List Ep) (a:PS×List Ep),C.ts.length-q.pos<m->za4 C z q acc= .ok a->q.pos<=a.1.pos:=by
 induction m with
 |zero=>intro q acc a h;omega
 |succ m I=>
  intro q acc a O h;rw[zgg] at h;obtain⟨b,K,J⟩:=zn h;obtain⟨c,M,w⟩:=zn J;have U:=zeE K;have V:=zft M
  split at w
  ·next N=>
   have H:=za9 N (by decide);have:=I _ _ _ (by rw[zz];omega) w;rw[zz] at this;omega
  ·obtain⟨d,L,A⟩:=zn w;have H:=za5 L;cases A;show q.pos<=d.pos;omega
theorem zfu {C:Cx} {x:PR} {b:PS×BA} (h:zbi C (zaM C x)= .ok b): ∃q,x= .ok q/\q.pos<=b.1.pos:=by
 obtain⟨a,I,A⟩:=zn h;obtain⟨c,L,H⟩:=zn A;obtain⟨d,K,w⟩:=zn I;obtain⟨e,J,z⟩:=zn K;have M:=za5 L;have O:=zjr w;have N:=za5 z;cases H;exact⟨e,J,by show e.pos<=c.pos;omega⟩
theorem znE {C:Cx} {q q':PS} (h:zbc C q= .ok q'):q.pos<q'.pos:=by
 obtain⟨q1,X,z⟩:=zn h;have Z:=za5 X
 split at z
 ·obtain⟨a,H,A⟩:=zn z;obtain⟨b,L,I⟩:=zn A;obtain⟨c,U,N⟩:=zn H;obtain⟨d,M,J⟩:=zfu L;obtain⟨f,w,K⟩:=zh1 (fun _ _ _ h=>zh0 h) _ _ _ I;have V:=za5 U;have O:=zjs _ _ _ _ (Nat.lt_succ_self _) N;cases M;cases w;omega
 ·split at z
  ·obtain⟨a,H,A⟩:=zn z;obtain⟨b,L,I⟩:=zn A;obtain⟨c,U,N⟩:=zn H;obtain⟨d,M,J⟩:=zn U;obtain⟨f,w,K⟩:=zfu L;have V:=zh0 I;have O:=zeE N;have e4:=za5 M;have Y:=za5 J;cases w;omega
  ·split at z
   ·obtain⟨a,H,A⟩:=zn z;obtain⟨b,L,I⟩:=zn A;obtain⟨f,w,K⟩:=zfu L;have V:=zh0 I;have O:=zeE H;cases w;omega
   ·obtain⟨a,H,A⟩:=zn z;have V:=zjr H;have O:=za5 A;omega
theorem zjt {y:PRN} {F:PR->BA->PR} {a:PS×BA} (h:withN y F= .ok a): ∃b,y= .ok b/\F (.ok b.1) b.2= .ok a.1:=by
 obtain⟨b,q,w⟩:=zn h;obtain⟨c,A,z⟩:=zn w;cases z;exact⟨b,q,A⟩
theorem zju {C:Cx} {q:PS} {a:PS×BA} (h:zcO C q= .ok a):q.pos<a.1.pos:=by
 obtain⟨b,K,I⟩:=zjt h;obtain⟨c,N,J⟩:=zn K;obtain⟨d,M,z⟩:=zn I;obtain⟨f,L,H⟩:=zn M;obtain⟨g,A,w⟩:=zn L;have U:=za5 N;have Z:=zeE J;have V:=za5 (show zd C 4 cEq b.1= .ok g from A);have Y:=zbh w;have O:=za5 H;have X:=zeF z;omega
theorem zjv {C:Cx} {q:PS} {a:PS×BA} (h:fnP C q= .ok a):q.pos<a.1.pos:=by
 obtain⟨b,U,N⟩:=zjt h;obtain⟨c,h3,O⟩:=zn U;obtain⟨d,X,h6⟩:=zn N;obtain⟨f,V,Z⟩:=zn X;obtain⟨g,h9,H⟩:=zn V;obtain⟨i,K,I⟩:=zn h9;obtain⟨j,w,z⟩:=zn K;obtain⟨k,J,L⟩:=zn w;obtain⟨l,A,M⟩:=zn J;have e1:=za5 h3;have e2:=zeE O;have e3:=za5 (show zd C 4 zp b.1= .ok l from A);have e4:=za5 M;have e5:=za5 L;have e6:=za5 z;have e7:=zbh I;have e8:=za5 H;have e9:=za5 Z;have Y:=zeF h6;omega
theorem znF {C:Cx} {q q':PS} (h:zao C q= .ok q'):q.pos<q'.pos:=by
 obtain⟨q1,X,w⟩:=zn h;have e1:=za5 X
 split at w
 ·obtain⟨a,J,z⟩:=zn w;obtain⟨c,U,V⟩:=zn J;have M:=za5 U;have N:=zjs _ _ _ _ (Nat.lt_succ_self _) V
  split at z
  ·obtain⟨b,H,K⟩:=zn z;obtain⟨f,I,O⟩:=zh1 (fun _ _ _ h=>zeG h) _ _ _ K;have Y:=za5 H;cases I;omega
  ·obtain⟨b,H,K⟩:=zn z;obtain⟨d,L,A⟩:=zfu H;obtain⟨f,I,O⟩:=zh1 (fun _ _ _ h=>zeG h) _ _ _ K;cases L;cases I;omega
 ·split at w
  ·obtain⟨b,H,K⟩:=zn w;obtain⟨d,L,A⟩:=zfu H;have M:=za5 L;have N:=zeG K;omega
  ·split at w
   ·obtain⟨a,J,z⟩:=zn w;obtain⟨b,H,K⟩:=zn J;obtain⟨c,U,V⟩:=zn H;obtain⟨d,L,A⟩:=zn U;have M:=za5 L;have N:=zbh A;have Y:=za5 V;have Z:=zeF K;have e6:=zeG z;omega
   ·split at w
    ·obtain⟨a,J,z⟩:=zn w;have M:=zju J;have N:=zeG z;omega
    ·split at w
     ·obtain⟨a,J,z⟩:=zn w;have M:=zjv J;have N:=zeG z;omega
     ·cases w
theorem zjw {C:Cx} {s:BA} {k:Int} {n:BA} {q q':PS} (h:bd (bd (bd (zd C 1 s q) (pE C .sum 0)) (zd C 4 cSemi)) (zY C k n)= .ok q'):q.pos<q'.pos:=by
 obtain⟨a,H,z⟩:=zn h;obtain⟨b,J,A⟩:=zn H;obtain⟨c,I,w⟩:=zn J;have K:=za5 I;have N:=zbh w;have L:=za5 A;have M:=zeF z;omega
theorem zgh {C:Cx} {q q':PS} (h:zB C q= .ok q'):q.pos<q'.pos:=by
 unfold zB at h
 split at h
 ·exact znE h
 ·split at h
  ·exact znF h
  ·split at h
   ·obtain⟨a,z,w⟩:=zn h;cases w;exact zju z
   ·split at h
    ·obtain⟨a,z,w⟩:=zn h;cases w;exact zjv z
    ·split at h
     ·obtain⟨a,z,w⟩:=zn h;obtain⟨b,M,J⟩:=zn z;obtain⟨c,L,A⟩:=zn M;obtain⟨d,K,H⟩:=zn L;obtain⟨e,O,I⟩:=zn K;have U:=za5 O;have Y:=za5 I;have V:=zbh H;have X:=za5 A;have N:=za5 J;have Z:=zeF w;omega
     ·split at h
      ·exact zjw h
      ·split at h
       ·exact zjw h
       ·obtain⟨a,z,w⟩:=zn h;obtain⟨b,M,J⟩:=zn w;obtain⟨c,L,A⟩:=zn M;obtain⟨d,K,H⟩:=zn L;have U:=zeE z;have Y:=za5 K;have V:=zbh H;have X:=za5 A;have N:=zeF J;omega
def zd5 (C:Cx):Nat->PS->PR
 |0,_=>.error 0
 |f+1,q=>if q.pos<C.ts.length then bd (zB C q) (zd5 C f) else .ok q
def za0 (C:Cx) (q:PS):PR:=zd5 C (C.ts.length-q.pos+1) q
theorem znG {C:Cx} (f:Nat): ∀(g:Nat) (q:PS),C.ts.length-q.pos<f->C.ts.length-q.pos<g->zd5 C f q=zd5 C g q:=by
 induction f with
 |zero=>intro g q h;omega
 |succ f w=>
  intro g q I H;obtain⟨g,rfl⟩: ∃A,g=A+1:=⟨g-1,by omega⟩;rw[zd5,zd5]
  split
  ·refine zag fun a z=>?_;have:=zgh z;exact w g a (by omega) (by omega)
  ·rfl
theorem zgi (C:Cx) (q:PS):za0 C q=if q.pos<C.ts.length then bd (zB C q) (za0 C) else .ok q:=by
 rw[za0,zd5]
 split
 ·refine zag fun a h=>?_;have:=zgh h;exact znG _ _ _ (by omega) (by omega)
 ·rfl
def zbX:PS:=⟨0,[],[],[],[],[],[]⟩
def zb6 (s:BA) (scr:Bool) (y:PR):Prop:=∃r,zak s scr r/\y=match r with
 | .error p=>.error p
 | .ok ts=>za0 ⟨ts,s.size,scr⟩ zbX
theorem zjx {s:BA} {h:Bool} {q w:PR} (I:zb6 s h q) (z:zb6 s h w):q=w:=by
 obtain⟨K,A,rfl⟩:=I;obtain⟨J,H,rfl⟩:=z;obtain rfl:=znw A H;rfl
theorem znH {s:BA} {A:Bool} {a n:Nat} {r:Except Nat (List Tk)} (h:Lx s A a n r): ∀w,r= .ok w->n<=4000->w.length+n<=4000:=by
 induction h using Lx.ind with
 |done=>intro w z H;cases z;simpa using H
 |bad _ _=>intro w z H;cases z
 | @tok a n e b t r h H J K z I=>
  intro w q _;cases r with
  |error p=>simp[Except.map] at q
  |ok l=>
   simp only[Except.map,Except.ok.injEq] at q;subst q;have:=I l rfl (by omega);simp only[List.length_cons];omega
theorem zjy {s:BA} {w:Bool} {q:List Tk} (h:zak s w (.ok q)):q.length<=4000:=by
 obtain⟨a,_,z⟩:=h;have:=znH z q rfl (by omega);omega
def R0:Rw:=⟨none,0⟩
def S0:Sv:=⟨R0,R0,R0,R0,R0,R0⟩
theorem zcP (w:World) (base size:Nat) (e:TypeId):OwnR w base e size R0 0 []:=World.ownsRow_nil w base e size
theorem znI (w:World) (base:Nat):Own w base S0 zbX:=
 ⟨zcP _ _ _ _,zcP _ _ _ _,zcP _ _ _ _,zcP _ _ _ _,zcP _ _ _ _,zcP _ _ _ _,fun k h=>by simp[S0,R0,Rw.blk,Value.ownBlock] at h⟩
theorem zjz {w:World} {base g q:Nat} {z:List Tk} {n:Nat} {A:Bool} (h:OwnT w base 158 g z.length q z) (H:z.length<=4000) (I:base<=w.heap.size):Mem ⟨z,n,A⟩ g q base S0 zbX w:=
 ⟨znI _ _,⟨Nat.zero_le _,Nat.zero_le _,Nat.zero_le _,Nat.zero_le _,Nat.zero_le _,Nat.zero_le _⟩,h,H,I⟩
structure OwnMod (w:World) (base:Nat) (S:Sv) (q:PS):Prop where
 rq:OwnR w base 9 1 S.rq q.rq.length (q.rq.map .string)
 im:OwnR w base 95 3 S.im q.im.length (q.im.flatMap imL)
 ep:OwnR w base 97 4 S.ep (q.ep++q.la).length ((q.ep++q.la).flatMap epL)
 st:OwnR w base 102 3 S.st q.st.length (q.st.flatMap smL)
 ex:OwnR w base 100 6 S.ex q.ex.length (q.ex.flatMap exL)
 inv:q.rq.length<=40/\q.im.length<=40/\q.ep.length+q.la.length<=40/\q.st.length<=80/\q.ex.length<=300
def zgj (S:Sv) (q:PS):Value:=.agg #[.slice S.rq.a q.rq.length S.rq.cap,.slice S.im.a q.im.length S.im.cap,.slice S.ep.a (q.ep++q.la).length S.ep.cap,.slice S.st.a q.st.length S.st.cap,.slice S.ex.a q.ex.length S.ex.cap]
def ParseOut (s:BA) (scr:Bool) (w:World) (e:Ending) (w':World):Prop:=
 ∃y,zb6 s scr y/\match y with
  | .ok q=>∃S,e= .returned (.tuple #[zgj S q,.int .i64 (-1)])/\OwnMod w' w.heap.size S q
  | .error p=>e= .returned (.tuple #[.agg #[.slice none 0 0,.slice none 0 0,.slice none 0 0,.slice none 0 0,.slice none 0 0],.int .i64 p])
theorem OwnR.low {w:World} {base q size n:Nat} {e:TypeId} {r:Rw} {xs:List Value} (h:OwnR w base e size r n xs) (J:q<=base):OwnR w q e size r n xs:=by
 refine⟨h.1,?_⟩;rcases h.2 with A|⟨g,H,z,A,I,rest⟩
 ·exact .inl A
 ·exact .inr ⟨g,H,z,A,Nat.le_trans J I,rest⟩
theorem OwnR.nil_or {w:World} {base size n:Nat} {e:TypeId} {r:Rw} {xs:List Value} (h:OwnR w base e size r n xs):(r.a=none/\r.cap=0/\n=0)∨∃g,r.a=some ⟨g,0,none⟩:=by
 rcases h.2 with ⟨q,H⟩|⟨g,A,z,q,_⟩
 ·simp only[Value.slice.injEq] at q;exact .inl ⟨q.1,q.2.2,H⟩
 ·simp only[Value.slice.injEq] at q;exact .inr ⟨g,q.1⟩
theorem znJ {P:Program} (W:World) {N:Array Oper} {rest:List Oper} {o:Oper} {a:Act} {Q:Exit->Act->World->Prop} (X:o.guard=none) (s x:Operand) (t:TypeId)
  (ho:o.op= .call {callee:=.builtin .append,args:=#[s,x],argTypes:=#[t,t]})
  (base:Nat) (e:TypeId) (i:TypeInfo) (z:Value) (size q:Nat) (ht:P.underlying t=some (.slice e)) (hi:P.info? e=some i) (hz:i.zero=some z) (H:i.size=size) (ab:i.bytes=q) (ac:z.cells.size=size) (aa:0<size) (M:q<=100)
  (r:Rw) (n:Nat) (xs:List Value) (hs:a.eval s= .slice r.a n r.cap) (K:OwnR W base e size r n xs)
  (O m c J:Nat) (w:List Value) (hx:a.eval x= .slice (some ⟨O,0,none⟩) m c) (Z:OwnR W J e size ⟨some ⟨O,0,none⟩,c⟩ m w) (h1: ∀u∈w,u.oneCell'=true) (hn:n+m<=4000000) (I:base<=W.heap.size)
  (h: ∀L w',OwnR w' base e size L (n+m) (xs++w)->W.grownBy w' r.blk->(L.blk=r.blk∨L.blk=some W.heap.size)->wpList P N Q rest (a.put o.dst (.slice L.a (n+m:Nat) L.cap)) w'):
  wpList P N Q (o::rest) a W:=by
 refine wpList_append_own_at _ X s x t ho base e i z size q ht hi hz H ab ac aa _ n _ hs K ⟨O,0,none⟩ m c w hx Z.1 ?_ h1 ?_ ?_ I ?_
 ·intro j u hj;have e1:(⟨O,0,none⟩:Addr).add j=⟨O,j,none⟩:=by simp[Addr.add];exact fun h=>h.symm
  have Y:j<w.length:=(List.getElem?_eq_some_iff.1 hj).1;rw[e1,World.ownsRow.cellAt Z j (by rw[<-Z.1];exact Y)];exact hj
 ·unfold maxLen;omega
 ·have:(n+m)*q<=4000000*100:=Nat.mul_le_mul hn M;omega
 ·intro v' w' V k2 k3 k4;rcases V.2 with ⟨hv,U⟩|⟨g',A,ae,rfl,ad⟩
  ·subst hv;have:=h ⟨none,0⟩ w' (by rw[U] at V ⊢;exact V) (by rw[<-zb5 r n];exact k2) (by rw[<-zb5 r n];exact k4);rw[U] at this;exact this
  ·refine h ⟨some ⟨g',0,none⟩,A⟩ w' V ?_ ?_
   ·rw[<-zb5 r n];exact k2
   ·rw[<-zb5 r n,<-zb5 ⟨some ⟨g',0,none⟩,A⟩ (n+m)];exact k4
theorem znK {P:Program} (W:World) {w:Array Oper} {rest:List Oper} {o:Oper} {a:Act} {Q:Exit->Act->World->Prop} (z:o.guard=none) (s x:Operand) (t:TypeId)
  (L:o.op= .call {callee:=.builtin .append,args:=#[s,x],argTypes:=#[t,t]})
  (e:TypeId) (i:TypeInfo) (H:P.underlying t=some (.slice e)) (I:P.info? e=some i) (base size n:Nat)
  (r:Rw) (xs:List Value) (U:a.eval s= .slice r.a n r.cap) (q:OwnR W base e size r n xs) (V:a.eval x= .slice none 0 0)
  (h:wpList P w Q rest (a.put o.dst (.slice r.a n r.cap)) W):wpList P w Q (o::rest) a W:=by
 have M:(Builtin.append_ #[t,t] o.type #[.slice r.a n r.cap,.slice none 0 0]).run P W= .ok (.slice r.a n r.cap) W:=by
  rcases q.2 with ⟨A,_⟩|⟨g,O,J,A,_,_,X,_⟩
  ·rw[A];simp[Builtin.append_,run_underlying H,sizeOf,typeInfo,I,Builtin.lenOf,Builtin.firstCells]
  ·rw[A];simp[Builtin.append_,run_underlying H,sizeOf,typeInfo,I,Builtin.lenOf,Builtin.firstCells,loadCells,X,storeCells]
 refine wpList_plain z fun K N=>?_;unfold Oper.wp execOp;simp only[L,resolve,invoke,builtin,Sem.run_bind,Sem.run_pure,Result.andThen_ok,List.map_toArray,List.map_cons,List.map_nil,U,V,M];exact N _ _ h
theorem zh2 (l:List Ep): ∀u∈l.flatMap epL,u.oneCell'=true:=by
 intro u h;rw[List.mem_flatMap] at h;obtain⟨x,_,q⟩:=h;simp[epL] at q;rcases q with rfl|rfl|rfl|rfl<;>rfl
theorem Mem.whole {C:Cx} {gt L base b B:Nat} {S:Sv} {q:PS} {W w' N:World} {I:Rw} (A:Mem C gt L base S q W) (X:W.grownBy w' S.ep.blk) (V:OwnR w' base 97 4 I (q.ep.length+q.la.length) (q.ep.flatMap epL++q.la.flatMap epL)) (K:I.blk=S.ep.blk∨I.blk=some W.heap.size) (hB:B<base) (hb:b<W.heap.size) (w: ¬S.has b)
  (U: ∀k,k≠B->k≠b->N.heap[k]? =w'.heap[k]?):OwnMod N B {S with ep:=I} q:=by
 have H:(q.ep++q.la).length=q.ep.length+q.la.length:=by simp
 have J: ∀(r:Rw) (e:TypeId) (z n:Nat) (O:List Value),OwnR W base e z r n O->e≠97->(∀k,r.blk=some k->S.has k)->OwnR N B e z r n O:=fun r e z n O h he Z=>
  ((h.keep fun k g=>(U k (by have:=(h.typed g).1;omega) (fun M=>w (by rw[<-M];exact Z k g))).trans (X.block k (h.typed g).2.1 fun Y=>(h.ne A.own.ep he g) Y.symm)).low (by omega))
 refine⟨J _ _ _ _ _ A.own.rq (by decide) fun k g=>.inl g,J _ _ _ _ _ A.own.im (by decide) fun k g=>.inr (.inl g),?_,J _ _ _ _ _ A.own.st (by decide) fun k g=>.inr (.inr (.inr (.inl g))),J _ _ _ _ _ A.own.ex (by decide) fun k g=>.inr (.inr (.inr (.inr (.inl g)))),A.inv.rq,A.inv.im,A.inv.ep,A.inv.st,A.inv.ex⟩;rw[H,List.flatMap_append];refine (V.keep fun k g=>U k (by have:=(V.typed g).1;omega) ?_).low (by omega);rcases K with e|e
 ·intro M;exact w (by rw[<-M];exact .inr (.inr (.inl (by rw[<-e];exact g))))
 ·have:W.heap.size=k:=Option.some.inj (e.symm.trans g);omega
theorem Mem.whole0 {C:Cx} {O J base b B:Nat} {S:Sv} {q:PS} {W K:World} (z:Mem C O J base S q W) (L:q.la=[]) (hB:B<base) (A: ¬S.has b)
  (U: ∀k,k≠B->k≠b->K.heap[k]? =W.heap[k]?):OwnMod K B S q:=by
 have H: ∀(r:Rw) (e:TypeId) (w n:Nat) (I:List Value),OwnR W base e w r n I->(∀k,r.blk=some k->S.has k)->OwnR K B e w r n I:=fun r e w n I h N=>
  ((h.keep fun k g=>U k (by have:=(h.typed g).1;omega) (fun M=>A (by rw[<-M];exact N k g))).low (by omega))
 refine⟨H _ _ _ _ _ z.own.rq fun k g=>.inl g,H _ _ _ _ _ z.own.im fun k g=>.inr (.inl g),?_,H _ _ _ _ _ z.own.st fun k g=>.inr (.inr (.inr (.inl g))),H _ _ _ _ _ z.own.ex fun k g=>.inr (.inr (.inr (.inr (.inl g)))),z.inv.rq,z.inv.im,z.inv.ep,z.inv.st,z.inv.ex⟩;rw[L,List.append_nil];exact H _ _ _ _ _ z.own.ep fun k g=>.inr (.inr (.inl g))
theorem zj {w:World} {b:Nat} {t:TypeId} {v0 v1 v2 v3 v4:Value} (h:w.heap[b]? =some (.cells #[v0,v1,v2,v3,v4] t (0,0))):
  w.cell? ⟨b,0,none⟩=some v0/\w.cell? ⟨b,1,none⟩=some v1/\w.cell? ⟨b,2,none⟩=some v2/\w.cell? ⟨b,3,none⟩=some v3/\w.cell? ⟨b,4,none⟩=some v4/\∀i,w.frozen? ⟨b,i,none⟩=false:=by
 refine⟨?_,?_,?_,?_,?_,fun i=>?_⟩<;>simp[World.cell?,World.frozen?,h]
theorem zac {w:World} {b i:Nat} {q:Array Value} {u:Value} {t:TypeId} (h:w.heap[b]? =some (.cells q t (0,0))):(w.setCell ⟨b,i,none⟩ u).heap[b]? =some (.cells (q.setIfInBounds i u) t (0,0)):=by
 simp only[World.setCell,Array.getElem?_modify];rw[if_pos trivial,h];rfl
theorem zd6 {w:World} {b:Nat} {v0 v1 v2 v3 v4 q A I H z:Value} {t:TypeId} (h:w.heap[b]? =some (.cells #[v0,v1,v2,v3,v4] t (0,0))):
  (((((w.setCell ⟨b,0,none⟩ q).setCell ⟨b,1,none⟩ A).setCell ⟨b,2,none⟩ I).setCell ⟨b,3,none⟩ H).setCell ⟨b,4,none⟩ z).heap[b]? =some (.cells #[q,A,I,H,z] t (0,0)):=by
 have e:=zac (i:=4) (u:=z) (zac (i:=3) (u:=H) (zac (i:=2) (u:=I) (zac (i:=1) (u:=A) (zac (i:=0) (u:=q) h))));rw[e];simp
theorem zdI {B:Nat} {a w:World} {b:Nat} (h:Below B a w) (q:B<=b) (z H J I A:Value):Below B a (((((w.setCell ⟨b,0,none⟩ z).setCell ⟨b,1,none⟩ H).setCell ⟨b,2,none⟩ J).setCell ⟨b,3,none⟩ I).setCell ⟨b,4,none⟩ A):=
 ((((h.setCell q _).setCell q _).setCell q _).setCell q _).setCell q _
end Go.Proofs.YtgcbmogmniahjaaGreat
