/- Facts and walks. -/
import Derived.Maps.AppendAt
import Derived.Test.YtgcbmogmniahjaaGreatK1
namespace Go.Proofs.YtgcbmogmniahjaaGreat
open Nat (le_refl le_trans zero_le)
open Go.RowKit Go.PlainAid
def imL (x:Im):List Value:=[.string x.spec,.string x.first,.string x.loc]
def epL (x:Ep):List Value:=[.int .i64 x.kind,.string x.name,.string x.loc,.string x.spec]
def smL (x:Sm):List Value:=[.int .i64 x.kind,.string x.name,.int .i64 x.expr]
def exL (x:Ex):List Value:=[.int .i64 x.kind,.int .i64 x.num,.string x.name,.string x.field,.int .i64 x.l,.int .i64 x.r]
structure Rw where
 a:Option Addr
 cap:Nat
structure Sv where
 rq:Rw
 im:Rw
 ep:Rw
 st:Rw
 ex:Rw
 la:Rw
def Rw.blk (r:Rw):Option Nat:=(Value.slice r.a 0 r.cap).ownBlock
def Sv.has (S:Sv) (k:Nat):Prop:=S.rq.blk=some k∨S.im.blk=some k∨S.ep.blk=some k∨S.st.blk=some k∨S.ex.blk=some k∨S.la.blk=some k
def OwnR (w:World) (base:Nat) (e:TypeId) (size:Nat) (r:Rw) (n:Nat) (xs:List Value):Prop:=w.ownsRow base e size (.slice r.a n r.cap) n xs
theorem zb9 (r:Rw) (n:Nat):(Value.slice r.a n r.cap).ownBlock=r.blk:=by
 unfold Rw.blk Value.ownBlock;cases r.a<;>rfl
structure Own (w:World) (base:Nat) (S:Sv) (q:PS):Prop where
 rq:OwnR w base 9 1 S.rq q.rq.length (q.rq.map .string)
 im:OwnR w base 95 3 S.im q.im.length (q.im.flatMap imL)
 ep:OwnR w base 97 4 S.ep q.ep.length (q.ep.flatMap epL)
 st:OwnR w base 102 3 S.st q.st.length (q.st.flatMap smL)
 ex:OwnR w base 100 6 S.ex q.ex.length (q.ex.flatMap exL)
 la:OwnR w base 97 4 S.la q.la.length (q.la.flatMap epL)
 apart: ∀k,S.ep.blk=some k->S.la.blk≠some k
theorem OwnR.typed {w:World} {base size n:Nat} {e:TypeId} {r:Rw} {xs:List Value} (h:OwnR w base e size r n xs) {k:Nat} (z:r.blk=some k):base<=k/\k<w.heap.size/\∃q,w.heap[k]? =some (.cells q e (0,0)):=by
 rcases h.2 with ⟨A,_⟩|⟨g,E,q,A,H,D,_⟩
 ·rw[<-zb9 r n,A] at z;simp[Value.ownBlock] at z
 ·rw[<-zb9 r n,A] at z;simp only[Value.ownBlock,Option.some.injEq] at z;subst z;exact⟨H,(aLt D),q,D⟩
theorem OwnR.ne {w:World} {H b2 N K V Y:Nat} {E A:TypeId} {z D:Rw} {X O:List Value} (L:OwnR w H E N z V X) (I:OwnR w b2 A K D Y O) (U:E≠A) {k:Nat} (J:z.blk=some k):D.blk≠some k:=by
 intro h;obtain⟨_,_,Z,M⟩:=L.typed J;obtain⟨_,_,c2,q⟩:=I.typed h;rw[M] at q;simp only[Option.some.injEq,Obj.cells.injEq] at q;exact U q.2.1
theorem OwnR.keep {w D:World} {base size n:Nat} {e:TypeId} {r:Rw} {xs:List Value} (h:OwnR w base e size r n xs) (E: ∀k,r.blk=some k->D.heap[k]? =w.heap[k]?):OwnR D base e size r n xs:=by
 refine⟨h.1,?_⟩;rcases h.2 with q|⟨g,A,z,q,H,I,rest⟩
 ·exact .inl q
 ·refine .inr ⟨g,A,z,q,H,?_,rest⟩;rw[E g (by rw[<-zb9 r n,q];rfl)];exact I
theorem Own.keep {w A:World} {base:Nat} {S:Sv} {q:PS} (h:Own w base S q) (z: ∀k,S.has k->A.heap[k]? =w.heap[k]?):Own A base S q:=
 ⟨h.rq.keep fun k e=>z k (.inl e),h.im.keep fun k e=>z k (.inr (.inl e)),h.ep.keep fun k e=>z k (.inr (.inr (.inl e))),h.st.keep fun k e=>z k (.inr (.inr (.inr (.inl e)))),
  h.ex.keep fun k e=>z k (.inr (.inr (.inr (.inr (.inl e))))),h.la.keep fun k e=>z k (.inr (.inr (.inr (.inr (.inr e))))),h.apart⟩
theorem Own.has {w:World} {base:Nat} {S:Sv} {q:PS} (h:Own w base S q) {k:Nat} (z:S.has k):base<=k/\k<w.heap.size:=by
 rcases z with e|e|e|e|e|e
 ·exact⟨(h.rq.typed e).1,(h.rq.typed e).2.1⟩
 ·exact⟨(h.im.typed e).1,(h.im.typed e).2.1⟩
 ·exact⟨(h.ep.typed e).1,(h.ep.typed e).2.1⟩
 ·exact⟨(h.st.typed e).1,(h.st.typed e).2.1⟩
 ·exact⟨(h.ex.typed e).1,(h.ex.typed e).2.1⟩
 ·exact⟨(h.la.typed e).1,(h.la.typed e).2.1⟩
theorem Own.later {w z:World} {base:Nat} {S:Sv} {q:PS} (h:Own w base S q) (A:Bw w z):Own z base S q:=h.keep fun k e=>A.block k (h.has e).2
theorem Own.other {w:World} {base:Nat} {S:Sv} {q:PS} (h:Own w base S q) {k:Nat} {E:Array Value} {e:TypeId} {z:Nat×Nat} (D:w.heap[k]? =some (.cells E e z)) (K:e≠9) (I:e≠95) (H:e≠97) (J:e≠102) (L:e≠100): ¬S.has k:=by
 rintro (g|g|g|g|g|g)
 ·obtain⟨_,_,c,A⟩:=h.rq.typed g;rw[D] at A;simp only[Option.some.injEq,Obj.cells.injEq] at A;exact K A.2.1
 ·obtain⟨_,_,c,A⟩:=h.im.typed g;rw[D] at A;simp only[Option.some.injEq,Obj.cells.injEq] at A;exact I A.2.1
 ·obtain⟨_,_,c,A⟩:=h.ep.typed g;rw[D] at A;simp only[Option.some.injEq,Obj.cells.injEq] at A;exact H A.2.1
 ·obtain⟨_,_,c,A⟩:=h.st.typed g;rw[D] at A;simp only[Option.some.injEq,Obj.cells.injEq] at A;exact J A.2.1
 ·obtain⟨_,_,c,A⟩:=h.ex.typed g;rw[D] at A;simp only[Option.some.injEq,Obj.cells.injEq] at A;exact L A.2.1
 ·obtain⟨_,_,c,A⟩:=h.la.typed g;rw[D] at A;simp only[Option.some.injEq,Obj.cells.injEq] at A;exact H A.2.1
structure Stp (S:Sv) (w:World) (S':Sv) (w':World):Prop where
 os:w'.os=w.os
 tape:w'.tape=w.tape
 output:w'.output=w.output
 size:w.heap.size<=w'.heap.size
 block: ∀k,k<w.heap.size->¬S.has k->w'.heap[k]? =w.heap[k]?
 sub: ∀k,S'.has k->S.has k∨w.heap.size<=k
theorem Stp.refl (S:Sv) (w:World):Stp S w S w:=⟨rfl,rfl,rfl,le_refl _,fun _ _ _=>rfl,fun _ h=>.inl h⟩
theorem Stp.trans {S D z:Sv} {w A E:World} (h:Stp S w D A) (k:Stp D A z E):Stp S w z E:=
 ⟨k.os.trans h.os,k.tape.trans h.tape,k.output.trans h.output,le_trans h.size k.size,
  fun i q H=>(k.block i (Nat.lt_of_lt_of_le q h.size) fun g=>(h.sub i g).elim H fun I=>by omega).trans (h.block i q H),
  fun i q=>(k.sub i q).elim (h.sub i) fun g=>.inr (le_trans h.size g)⟩
theorem Stp.below {S:Sv} {w q:World} (h:Bw w q):Stp S w S q:=⟨h.os,h.tape,h.output,h.size,fun k z _=>h.block k z,fun _ g=>.inl g⟩
theorem Stp.under {S A:Sv} {w z:World} {base:Nat} {q:PS} (h:Stp S w A z) (H:base<=w.heap.size) (D:Own w base S q):Below base w z:=
 ⟨h.os,h.tape,h.output,h.size,fun k E=>h.block k (by omega) fun g=>by have:=(D.has g).1;omega⟩
theorem Stp.grown {S q:Sv} {w z:World} {row:Option Nat} (h:w.grownBy z row) (D: ∀k,row=some k->S.has k) (E: ∀k,q.has k->S.has k∨w.heap.size<=k):Stp S w q z:=
 ⟨h.os,h.tape,h.output,h.size,fun k A H=>h.block k A fun e=>H (D k e.symm),E⟩
structure Inv (C:Cx) (q:PS):Prop where
 pos:q.pos<=C.ts.length
 rq:q.rq.length<=40
 im:q.im.length<=40
 ep:q.ep.length+q.la.length<=40
 st:q.st.length<=80
 ex:q.ex.length<=300
structure Mem (C:Cx) (gt cap base:Nat) (S:Sv) (q:PS) (w:World):Prop where
 own:Own w base S q
 inv:Inv C q
 tok:OwnT w base 158 gt C.ts.length cap C.ts
 few:C.ts.length<=4000
 base:base<=w.heap.size
theorem Mem.later {C:Cx} {E z base:Nat} {S:Sv} {q:PS} {w D:World} (h:Mem C E z base S q w) (A:Bw w D):Mem C E z base S q D:=
 ⟨h.own.later A,h.inv,zc3 h.tok A,h.few,le_trans h.base A.size⟩
theorem Mem.alloc {C:Cx} {A z base:Nat} {S:Sv} {q:PS} {w:World} (h:Mem C A z base S q w) (o:Obj):Mem C A z base S q (w.alloc o):=h.later (bA0)
theorem Own.to {w:World} {base:Nat} {S:Sv} {q q':PS} (h:Own w base S q) (E:q'.rq=q.rq) (A:q'.im=q.im) (I:q'.ep=q.ep) (D:q'.st=q.st) (H:q'.ex=q.ex) (z:q'.la=q.la):Own w base S q':=
 ⟨by rw[E];exact h.rq,by rw[A];exact h.im,by rw[I];exact h.ep,by rw[D];exact h.st,by rw[H];exact h.ex,by rw[z];exact h.la,h.apart⟩
theorem Mem.adv {C:Cx} {A z base:Nat} {S:Sv} {q:PS} {w:World} (h:Mem C A z base S q w) (D:q.pos<C.ts.length):Mem C A z base S (adv q) w:=
 ⟨h.own.to rfl rfl rfl rfl rfl rfl,⟨D,h.inv.rq,h.inv.im,h.inv.ep,h.inv.st,h.inv.ex⟩,h.tok,h.few,h.base⟩
theorem OwnR.alloc {w:World} {base size n:Nat} {e:TypeId} {r:Rw} {xs:List Value} (h:OwnR w base e size r n xs) (o:Obj):OwnR (w.alloc o) base e size r n xs:=
 h.keep fun k q=>Below.heap_alloc w o k (h.typed q).2.1
theorem zgo {w:World} {base g n A:Nat} {e:TypeId} {E:List Tk} (h:OwnT w base e g n A E): ∃q,w.heap[g]? =some (.cells q e (0,0)):=by
 rcases h.1.2 with ⟨z,_⟩|⟨K,D,q,z,I,H,J,_⟩
 ·simp at z
 ·simp only[Value.slice.injEq,Option.some.injEq,Addr.mk.injEq,and_true,true_and] at z;obtain⟨rfl,rfl⟩:=z;exact⟨q,H⟩
theorem zbM {w D:World} {base g n z:Nat} {e:TypeId} {E:List Tk} (h:OwnT w base e g n z E) (J:D.heap[g]? =w.heap[g]?):OwnT D base e g n z E:=by
 refine⟨⟨h.1.1,?_⟩,h.2⟩;rcases h.1.2 with k|⟨M,I,A,H,q,L,K⟩
 ·exact .inl k
 ·simp only[Value.slice.injEq,Option.some.injEq,Addr.mk.injEq,and_true,true_and] at H;obtain⟨rfl,rfl⟩:=H;exact .inr ⟨g,z,A,rfl,q,J.trans L,K⟩
theorem Mem.gt_free {C:Cx} {A z base:Nat} {S:Sv} {q:PS} {w:World} (h:Mem C A z base S q w): ¬S.has A:=by
 obtain⟨D,E⟩:=zgo h.tok;exact h.own.other E (by decide) (by decide) (by decide) (by decide) (by decide)
structure Off (lo hi:Nat) (w w':World):Prop where
 os:w'.os=w.os
 tape:w'.tape=w.tape
 output:w'.output=w.output
 size:w.heap.size<=w'.heap.size
 block: ∀k,k<lo∨hi<=k/\k<w.heap.size->w'.heap[k]? =w.heap[k]?
theorem Off.refl (h q:Nat) (w:World):Off h q w w:=⟨rfl,rfl,rfl,le_refl _,fun _ _=>rfl⟩
theorem Off.set {z A:Nat} {w q:World} (h:Off z A w q) {b:Nat} (H:z<=b) (E:b<A) (i:Nat) (u:Value):Off z A w (q.setCell ⟨b,i,none⟩ u):=
 ⟨h.os,h.tape,h.output,by show _<=(q.heap.modify _ _).size;simp;exact h.size,fun k D=>(Below.heap_setCell q ⟨b,i,none⟩ u k (by show k≠b;omega)).trans (h.block k D)⟩
theorem Off.below {A E:Nat} {w z D:World} (h:Off A E w z) (q:Bw z D) (I:A<=w.heap.size):Off A E w D:=
 ⟨q.os.trans h.os,q.tape.trans h.tape,q.output.trans h.output,le_trans h.size q.size,fun k H=>(q.block k (by have:=h.size;omega)).trans (h.block k H)⟩
theorem Off.set12 {D H:Nat} {a w:World} (h:Off D H a w) {b:Nat} (z:D<=b) (q:b<H) (I N J O K X M V L U A E:Value):
  Off D H a ((((((((((((w.setCell ⟨b,0,none⟩ I).setCell ⟨b,1,none⟩ N).setCell ⟨b,2,none⟩ J).setCell ⟨b,3,none⟩ O).setCell ⟨b,4,none⟩ K).setCell ⟨b,5,none⟩ X).setCell ⟨b,6,none⟩ M).setCell ⟨b,7,none⟩ V).setCell ⟨b,8,none⟩ L).setCell ⟨b,9,none⟩ U).setCell ⟨b,10,none⟩ A).setCell ⟨b,11,none⟩ E):=
 (((((((((((h.set z q _ _).set z q _ _).set z q _ _).set z q _ _).set z q _ _).set z q _ _).set z q _ _).set z q _ _).set z q _ _).set z q _ _).set z q _ _).set z q _ _
theorem zbd {P:Program} (W:World) {L:Array Oper} {rest:List Oper} {o:Oper} {a:Act} {Q:Exit->Act->World->Prop} (N:o.guard=none) (s x:Operand) (t:TypeId)
  (ho:o.op= .call {callee:=.builtin .append,args:=#[s,x],argTypes:=#[t,t]})
  (base:Nat) (e:TypeId) (i:TypeInfo) (z:Value) (size q:Nat) (ht:P.underlying t=some (.slice e)) (hi:P.info? e=some i) (hz:i.zero=some z) (D:i.size=size) (U:i.bytes=q) (V:z.cells.size=size) (O:0<size) (K:q<=100)
  (r:Rw) (n:Nat) (xs:List Value) (hs:a.eval s= .slice r.a n r.cap) (H:OwnR W base e size r n xs)
  (M:Nat) (w:List Value) (hx:a.eval x= .slice (some ⟨M,0,none⟩) 1 1) (hg:W.heap[M]? =some (.cells w.toArray e (0,0))) (hl:w.length=size) (h1: ∀u∈w,u.oneCell'=true) (hn:n+1<=4000000) (E:base<=W.heap.size)
  (h: ∀I J,OwnR J base e size I (n+1) (xs++w)->W.grownBy J r.blk->(I.blk=r.blk∨I.blk=some W.heap.size)->wpList P L Q rest (a.put o.dst (.slice I.a (n+1) I.cap)) J):
  wpList P L Q (o::rest) a W:=by
 refine wpList_append_own_at _ N s x t ho base e i z size q ht hi hz D U V O _ n _ hs H ⟨M,0,none⟩ 1 1 w hx (by omega) ?_ h1 ?_ ?_ E ?_
 ·intro j u hj;have:(⟨M,0,none⟩:Addr).add j=⟨M,j,none⟩:=by simp[Addr.add];exact fun h=>h.symm
  rw[this];simp[World.cell?,hg,hj]
 ·unfold maxLen;omega
 ·have:(n+1)*q<=4000000*100:=Nat.mul_le_mul hn K;omega
 ·intro v' J Y k2 k3 k4;rcases Y.2 with ⟨hv,ab⟩|⟨Z,A,aa,rfl,X⟩
  ·omega
  ·refine h ⟨some ⟨Z,0,none⟩,A⟩ J Y ?_ ?_
   ·rw[<-zb9 r n];exact k2
   ·rw[<-zb9 r n,<-zb9 ⟨some ⟨Z,0,none⟩,A⟩ (n+1)];exact k4
theorem Mem.grow_rq {C:Cx} {Z M base:Nat} {S:Sv} {q:PS} {w W V I:World} (z:Mem C Z M base S q w) (L:Bw w W) (J:W.grownBy V S.rq.blk) {H:Rw} {x:BA} (hr:OwnR V base 9 1 H (q.rq.length+1) (q.rq.map .string++[.string x])) (K:H.blk=S.rq.blk∨H.blk=some W.heap.size) (E:Off w.heap.size W.heap.size V I) (hn:q.rq.length<40):
  Mem C Z M base {S with rq:=H} {q with rq:=q.rq++[x]} I/\Stp S w {S with rq:=H} I:=by
 have Y:=L.size;have U:=J.size;have A: ∀k,k<w.heap.size->S.rq.blk≠some k->I.heap[k]? =w.heap[k]?:=fun k D X=>
  (E.block k (.inl D)).trans ((J.block k (by omega) fun e=>X e.symm).trans (L.block k D))
 have O:OwnR I base 9 1 H (q.rq.length+1) (q.rq.map .string++[.string x]):=hr.keep fun k D=>E.block k (by
  rcases K with e|e
  ·rw[e] at D;exact .inl (z.own.rq.typed D).2.1
  ·rw[e] at D;obtain rfl:=Option.some.inj D
   exact .inr ⟨le_refl _,(hr.typed e).2.1⟩)
 have N:(q.rq++[x]).length=q.rq.length+1:=by simp
 refine⟨⟨⟨by show OwnR I base 9 1 H (q.rq++[x]).length _;rw[N];simpa using O,z.own.im.keep fun k D=>A k (z.own.im.typed D).2.1 (z.own.im.ne z.own.rq (by decide) D),z.own.ep.keep fun k D=>A k (z.own.ep.typed D).2.1 (z.own.ep.ne z.own.rq (by decide) D),z.own.st.keep fun k D=>A k (z.own.st.typed D).2.1 (z.own.st.ne z.own.rq (by decide) D),z.own.ex.keep fun k D=>A k (z.own.ex.typed D).2.1 (z.own.ex.ne z.own.rq (by decide) D),z.own.la.keep fun k D=>A k (z.own.la.typed D).2.1 (z.own.la.ne z.own.rq (by decide) D),z.own.apart⟩,⟨z.inv.pos,by simp;omega,z.inv.im,z.inv.ep,z.inv.st,z.inv.ex⟩,zbM z.tok (A Z (zaw z.tok).1 fun e=>z.gt_free (.inl e)),z.few,le_trans z.base (by have:=E.size;omega)⟩,?_⟩;refine⟨E.os.trans (J.os.trans L.os),E.tape.trans (J.tape.trans L.tape),E.output.trans (J.output.trans L.output),le_trans (le_trans Y U) E.size,fun k D hn=>A k D fun e=>hn (.inl e),fun k D=>?_⟩;rcases D with h|h|h|h|h|h
 ·exact K.elim (fun e=>.inl (.inl (e.symm.trans h))) fun e=>.inr (by have:W.heap.size=k:=Option.some.inj (e.symm.trans h);omega)
 ·exact .inl (.inr (.inl h))
 ·exact .inl (.inr (.inr (.inl h)))
 ·exact .inl (.inr (.inr (.inr (.inl h))))
 ·exact .inl (.inr (.inr (.inr (.inr (.inl h)))))
 ·exact .inl (.inr (.inr (.inr (.inr (.inr h)))))
theorem Mem.grow_im {C:Cx} {Z M base:Nat} {S:Sv} {q:PS} {w W V I:World} (z:Mem C Z M base S q w) (L:Bw w W) (J:W.grownBy V S.im.blk) {H:Rw} {x:Im} (hr:OwnR V base 95 3 H (q.im.length+1) (q.im.flatMap imL++imL x)) (K:H.blk=S.im.blk∨H.blk=some W.heap.size) (E:Off w.heap.size W.heap.size V I) (hn:q.im.length<40):
  Mem C Z M base {S with im:=H} {q with im:=q.im++[x]} I/\Stp S w {S with im:=H} I:=by
 have Y:=L.size;have U:=J.size;have A: ∀k,k<w.heap.size->S.im.blk≠some k->I.heap[k]? =w.heap[k]?:=fun k D X=>
  (E.block k (.inl D)).trans ((J.block k (by omega) fun e=>X e.symm).trans (L.block k D))
 have O:OwnR I base 95 3 H (q.im.length+1) (q.im.flatMap imL++imL x):=hr.keep fun k D=>E.block k (by
  rcases K with e|e
  ·rw[e] at D;exact .inl (z.own.im.typed D).2.1
  ·rw[e] at D;obtain rfl:=Option.some.inj D
   exact .inr ⟨le_refl _,(hr.typed e).2.1⟩)
 have N:(q.im++[x]).length=q.im.length+1:=by simp
 refine⟨⟨⟨z.own.rq.keep fun k D=>A k (z.own.rq.typed D).2.1 (z.own.rq.ne z.own.im (by decide) D),by show OwnR I base 95 3 H (q.im++[x]).length _;rw[N];simpa using O,z.own.ep.keep fun k D=>A k (z.own.ep.typed D).2.1 (z.own.ep.ne z.own.im (by decide) D),z.own.st.keep fun k D=>A k (z.own.st.typed D).2.1 (z.own.st.ne z.own.im (by decide) D),z.own.ex.keep fun k D=>A k (z.own.ex.typed D).2.1 (z.own.ex.ne z.own.im (by decide) D),z.own.la.keep fun k D=>A k (z.own.la.typed D).2.1 (z.own.la.ne z.own.im (by decide) D),z.own.apart⟩,⟨z.inv.pos,z.inv.rq,by simp;omega,z.inv.ep,z.inv.st,z.inv.ex⟩,zbM z.tok (A Z (zaw z.tok).1 fun e=>z.gt_free (.inr (.inl e))),z.few,le_trans z.base (by have:=E.size;omega)⟩,?_⟩;refine⟨E.os.trans (J.os.trans L.os),E.tape.trans (J.tape.trans L.tape),E.output.trans (J.output.trans L.output),le_trans (le_trans Y U) E.size,fun k D hn=>A k D fun e=>hn (.inr (.inl e)),fun k D=>?_⟩;rcases D with h|h|h|h|h|h
 ·exact .inl (.inl h)
 ·exact K.elim (fun e=>.inl (.inr (.inl (e.symm.trans h)))) fun e=>.inr (by have:W.heap.size=k:=Option.some.inj (e.symm.trans h);omega)
 ·exact .inl (.inr (.inr (.inl h)))
 ·exact .inl (.inr (.inr (.inr (.inl h))))
 ·exact .inl (.inr (.inr (.inr (.inr (.inl h)))))
 ·exact .inl (.inr (.inr (.inr (.inr (.inr h)))))
theorem Mem.grow_ep {C:Cx} {Z M base:Nat} {S:Sv} {q:PS} {w W V J:World} (z:Mem C Z M base S q w) (L:Bw w W) (K:W.grownBy V S.ep.blk) {H:Rw} {x:Ep} (hr:OwnR V base 97 4 H (q.ep.length+1) (q.ep.flatMap epL++epL x)) (I:H.blk=S.ep.blk∨H.blk=some W.heap.size) (E:Off w.heap.size W.heap.size V J) (hn:q.ep.length+q.la.length<40):
  Mem C Z M base {S with ep:=H} {q with ep:=q.ep++[x]} J/\Stp S w {S with ep:=H} J:=by
 have Y:=L.size;have U:=K.size;have A: ∀k,k<w.heap.size->S.ep.blk≠some k->J.heap[k]? =w.heap[k]?:=fun k D X=>
  (E.block k (.inl D)).trans ((K.block k (by omega) fun e=>X e.symm).trans (L.block k D))
 have O:OwnR J base 97 4 H (q.ep.length+1) (q.ep.flatMap epL++epL x):=hr.keep fun k D=>E.block k (by
  rcases I with e|e
  ·rw[e] at D;exact .inl (z.own.ep.typed D).2.1
  ·rw[e] at D;obtain rfl:=Option.some.inj D
   exact .inr ⟨le_refl _,(hr.typed e).2.1⟩)
 have N:(q.ep++[x]).length=q.ep.length+1:=by simp
 refine⟨⟨⟨z.own.rq.keep fun k D=>A k (z.own.rq.typed D).2.1 (z.own.rq.ne z.own.ep (by decide) D),z.own.im.keep fun k D=>A k (z.own.im.typed D).2.1 (z.own.im.ne z.own.ep (by decide) D),by show OwnR J base 97 4 H (q.ep++[x]).length _;rw[N];simpa using O,z.own.st.keep fun k D=>A k (z.own.st.typed D).2.1 (z.own.st.ne z.own.ep (by decide) D),z.own.ex.keep fun k D=>A k (z.own.ex.typed D).2.1 (z.own.ex.ne z.own.ep (by decide) D),z.own.la.keep fun k D=>A k (z.own.la.typed D).2.1 (fun e=>z.own.apart k e D),fun k D hl=>I.elim (fun e=>z.own.apart k (by rw[<-e];exact D) hl) fun e=>by have h1:=(z.own.la.typed hl).2.1;have h2:W.heap.size=k:=Option.some.inj (e.symm.trans D);omega⟩,⟨z.inv.pos,z.inv.rq,z.inv.im,by have:=z.inv.ep;simp;omega,z.inv.st,z.inv.ex⟩,zbM z.tok (A Z (zaw z.tok).1 fun e=>z.gt_free (.inr (.inr (.inl e)))),z.few,le_trans z.base (by have:=E.size;omega)⟩,?_⟩;refine⟨E.os.trans (K.os.trans L.os),E.tape.trans (K.tape.trans L.tape),E.output.trans (K.output.trans L.output),le_trans (le_trans Y U) E.size,fun k D hn=>A k D fun e=>hn (.inr (.inr (.inl e))),fun k D=>?_⟩;rcases D with h|h|h|h|h|h
 ·exact .inl (.inl h)
 ·exact .inl (.inr (.inl h))
 ·exact I.elim (fun e=>.inl (.inr (.inr (.inl (e.symm.trans h))))) fun e=>.inr (by have:W.heap.size=k:=Option.some.inj (e.symm.trans h);omega)
 ·exact .inl (.inr (.inr (.inr (.inl h))))
 ·exact .inl (.inr (.inr (.inr (.inr (.inl h)))))
 ·exact .inl (.inr (.inr (.inr (.inr (.inr h)))))
theorem Mem.grow_st {C:Cx} {Z M base:Nat} {S:Sv} {q:PS} {w W V I:World} (z:Mem C Z M base S q w) (L:Bw w W) (J:W.grownBy V S.st.blk) {H:Rw} {x:Sm} (hr:OwnR V base 102 3 H (q.st.length+1) (q.st.flatMap smL++smL x)) (K:H.blk=S.st.blk∨H.blk=some W.heap.size) (E:Off w.heap.size W.heap.size V I) (hn:q.st.length<80):
  Mem C Z M base {S with st:=H} {q with st:=q.st++[x]} I/\Stp S w {S with st:=H} I:=by
 have Y:=L.size;have U:=J.size;have A: ∀k,k<w.heap.size->S.st.blk≠some k->I.heap[k]? =w.heap[k]?:=fun k D X=>
  (E.block k (.inl D)).trans ((J.block k (by omega) fun e=>X e.symm).trans (L.block k D))
 have O:OwnR I base 102 3 H (q.st.length+1) (q.st.flatMap smL++smL x):=hr.keep fun k D=>E.block k (by
  rcases K with e|e
  ·rw[e] at D;exact .inl (z.own.st.typed D).2.1
  ·rw[e] at D;obtain rfl:=Option.some.inj D
   exact .inr ⟨le_refl _,(hr.typed e).2.1⟩)
 have N:(q.st++[x]).length=q.st.length+1:=by simp
 refine⟨⟨⟨z.own.rq.keep fun k D=>A k (z.own.rq.typed D).2.1 (z.own.rq.ne z.own.st (by decide) D),z.own.im.keep fun k D=>A k (z.own.im.typed D).2.1 (z.own.im.ne z.own.st (by decide) D),z.own.ep.keep fun k D=>A k (z.own.ep.typed D).2.1 (z.own.ep.ne z.own.st (by decide) D),by show OwnR I base 102 3 H (q.st++[x]).length _;rw[N];simpa using O,z.own.ex.keep fun k D=>A k (z.own.ex.typed D).2.1 (z.own.ex.ne z.own.st (by decide) D),z.own.la.keep fun k D=>A k (z.own.la.typed D).2.1 (z.own.la.ne z.own.st (by decide) D),z.own.apart⟩,⟨z.inv.pos,z.inv.rq,z.inv.im,z.inv.ep,by simp;omega,z.inv.ex⟩,zbM z.tok (A Z (zaw z.tok).1 fun e=>z.gt_free (.inr (.inr (.inr (.inl e))))),z.few,le_trans z.base (by have:=E.size;omega)⟩,?_⟩;refine⟨E.os.trans (J.os.trans L.os),E.tape.trans (J.tape.trans L.tape),E.output.trans (J.output.trans L.output),le_trans (le_trans Y U) E.size,fun k D hn=>A k D fun e=>hn (.inr (.inr (.inr (.inl e)))),fun k D=>?_⟩;rcases D with h|h|h|h|h|h
 ·exact .inl (.inl h)
 ·exact .inl (.inr (.inl h))
 ·exact .inl (.inr (.inr (.inl h)))
 ·exact K.elim (fun e=>.inl (.inr (.inr (.inr (.inl (e.symm.trans h)))))) fun e=>.inr (by have:W.heap.size=k:=Option.some.inj (e.symm.trans h);omega)
 ·exact .inl (.inr (.inr (.inr (.inr (.inl h)))))
 ·exact .inl (.inr (.inr (.inr (.inr (.inr h)))))
theorem Mem.grow_ex {C:Cx} {Z M base:Nat} {S:Sv} {q:PS} {w W V I:World} (z:Mem C Z M base S q w) (L:Bw w W) (J:W.grownBy V S.ex.blk) {H:Rw} {x:Ex} (hr:OwnR V base 100 6 H (q.ex.length+1) (q.ex.flatMap exL++exL x)) (K:H.blk=S.ex.blk∨H.blk=some W.heap.size) (E:Off w.heap.size W.heap.size V I) (hn:q.ex.length<300):
  Mem C Z M base {S with ex:=H} {q with ex:=q.ex++[x]} I/\Stp S w {S with ex:=H} I:=by
 have Y:=L.size;have U:=J.size;have A: ∀k,k<w.heap.size->S.ex.blk≠some k->I.heap[k]? =w.heap[k]?:=fun k D X=>
  (E.block k (.inl D)).trans ((J.block k (by omega) fun e=>X e.symm).trans (L.block k D))
 have O:OwnR I base 100 6 H (q.ex.length+1) (q.ex.flatMap exL++exL x):=hr.keep fun k D=>E.block k (by
  rcases K with e|e
  ·rw[e] at D;exact .inl (z.own.ex.typed D).2.1
  ·rw[e] at D;obtain rfl:=Option.some.inj D
   exact .inr ⟨le_refl _,(hr.typed e).2.1⟩)
 have N:(q.ex++[x]).length=q.ex.length+1:=by simp
 refine⟨⟨⟨z.own.rq.keep fun k D=>A k (z.own.rq.typed D).2.1 (z.own.rq.ne z.own.ex (by decide) D),z.own.im.keep fun k D=>A k (z.own.im.typed D).2.1 (z.own.im.ne z.own.ex (by decide) D),z.own.ep.keep fun k D=>A k (z.own.ep.typed D).2.1 (z.own.ep.ne z.own.ex (by decide) D),z.own.st.keep fun k D=>A k (z.own.st.typed D).2.1 (z.own.st.ne z.own.ex (by decide) D),by show OwnR I base 100 6 H (q.ex++[x]).length _;rw[N];simpa using O,z.own.la.keep fun k D=>A k (z.own.la.typed D).2.1 (z.own.la.ne z.own.ex (by decide) D),z.own.apart⟩,⟨z.inv.pos,z.inv.rq,z.inv.im,z.inv.ep,z.inv.st,by simp;omega⟩,zbM z.tok (A Z (zaw z.tok).1 fun e=>z.gt_free (.inr (.inr (.inr (.inr (.inl e)))))),z.few,le_trans z.base (by have:=E.size;omega)⟩,?_⟩;refine⟨E.os.trans (J.os.trans L.os),E.tape.trans (J.tape.trans L.tape),E.output.trans (J.output.trans L.output),le_trans (le_trans Y U) E.size,fun k D hn=>A k D fun e=>hn (.inr (.inr (.inr (.inr (.inl e))))),fun k D=>?_⟩;rcases D with h|h|h|h|h|h
 ·exact .inl (.inl h)
 ·exact .inl (.inr (.inl h))
 ·exact .inl (.inr (.inr (.inl h)))
 ·exact .inl (.inr (.inr (.inr (.inl h))))
 ·exact K.elim (fun e=>.inl (.inr (.inr (.inr (.inr (.inl (e.symm.trans h))))))) fun e=>.inr (by have:W.heap.size=k:=Option.some.inj (e.symm.trans h);omega)
 ·exact .inl (.inr (.inr (.inr (.inr (.inr h)))))
theorem Mem.grow_la {C:Cx} {Z M base:Nat} {S:Sv} {q:PS} {w W V J:World} (z:Mem C Z M base S q w) (L:Bw w W) (K:W.grownBy V S.la.blk) {H:Rw} {x:Ep} (hr:OwnR V base 97 4 H (q.la.length+1) (q.la.flatMap epL++epL x)) (I:H.blk=S.la.blk∨H.blk=some W.heap.size) (E:Off w.heap.size W.heap.size V J) (hn:q.ep.length+q.la.length<40):
  Mem C Z M base {S with la:=H} {q with la:=q.la++[x]} J/\Stp S w {S with la:=H} J:=by
 have Y:=L.size;have U:=K.size;have A: ∀k,k<w.heap.size->S.la.blk≠some k->J.heap[k]? =w.heap[k]?:=fun k D X=>
  (E.block k (.inl D)).trans ((K.block k (by omega) fun e=>X e.symm).trans (L.block k D))
 have O:OwnR J base 97 4 H (q.la.length+1) (q.la.flatMap epL++epL x):=hr.keep fun k D=>E.block k (by
  rcases I with e|e
  ·rw[e] at D;exact .inl (z.own.la.typed D).2.1
  ·rw[e] at D;obtain rfl:=Option.some.inj D
   exact .inr ⟨le_refl _,(hr.typed e).2.1⟩)
 have N:(q.la++[x]).length=q.la.length+1:=by simp
 refine⟨⟨⟨z.own.rq.keep fun k D=>A k (z.own.rq.typed D).2.1 (z.own.rq.ne z.own.la (by decide) D),z.own.im.keep fun k D=>A k (z.own.im.typed D).2.1 (z.own.im.ne z.own.la (by decide) D),z.own.ep.keep fun k D=>A k (z.own.ep.typed D).2.1 (fun e=>z.own.apart k D e),z.own.st.keep fun k D=>A k (z.own.st.typed D).2.1 (z.own.st.ne z.own.la (by decide) D),z.own.ex.keep fun k D=>A k (z.own.ex.typed D).2.1 (z.own.ex.ne z.own.la (by decide) D),by show OwnR J base 97 4 H (q.la++[x]).length _;rw[N];simpa using O,fun k D hl=>I.elim (fun e=>z.own.apart k D (by rw[<-e];exact hl)) fun e=>by have h1:=(z.own.ep.typed D).2.1;have h2:W.heap.size=k:=Option.some.inj (e.symm.trans hl);omega⟩,⟨z.inv.pos,z.inv.rq,z.inv.im,by have:=z.inv.ep;simp;omega,z.inv.st,z.inv.ex⟩,zbM z.tok (A Z (zaw z.tok).1 fun e=>z.gt_free (.inr (.inr (.inr (.inr (.inr e)))))),z.few,le_trans z.base (by have:=E.size;omega)⟩,?_⟩;refine⟨E.os.trans (K.os.trans L.os),E.tape.trans (K.tape.trans L.tape),E.output.trans (K.output.trans L.output),le_trans (le_trans Y U) E.size,fun k D hn=>A k D fun e=>hn (.inr (.inr (.inr (.inr (.inr e))))),fun k D=>?_⟩;rcases D with h|h|h|h|h|h
 ·exact .inl (.inl h)
 ·exact .inl (.inr (.inl h))
 ·exact .inl (.inr (.inr (.inl h)))
 ·exact .inl (.inr (.inr (.inr (.inl h))))
 ·exact .inl (.inr (.inr (.inr (.inr (.inl h)))))
 ·exact I.elim (fun e=>.inl (.inr (.inr (.inr (.inr (.inr (e.symm.trans h))))))) fun e=>.inr (by have:W.heap.size=k:=Option.some.inj (e.symm.trans h);omega)
abbrev PRN:=Except Nat (PS×BA)
def zaV (y:PRN):PR:=bd y fun a=>.ok a.1
def withN (y:PRN) (F:PR->BA->PR):PRN:=bd y fun a=>bd (F (.ok a.1) a.2) fun q=>.ok (q,a.2)
def zcT (C:Cx) (q:PS):PRN:=withN (bd (zd C 1 zH q) (zm C false)) fun x n=>bd (bd (bd (bd x (zd C 4 cEq)) (pE C .sum 0)) (zd C 4 cSemi)) (zaa C 1 n)
def fnP (C:Cx) (q:PS):PRN:=
 withN (bd (zd C 1 zW q) (zm C false)) fun x n=>bd (bd (bd (bd (bd (bd (bd (bd x (zd C 4 zp)) (zd C 4 zaA)) (zd C 4 zO)) (zd C 1 zeJ)) (pE C .sum 0)) (zd C 4 cSemi)) (zd C 4 zb5)) (zaa C 2 n)
def asP (C:Cx) (exp:Bool) (a:PS×BA):PRN:=
 if isT C a.1.pos 1 sAs then zm C exp (adv a.1)
 else if (a.2.toList==[100,101,102,97,117,108,116])&& !exp then .error (zt C a.1.pos) else .ok a
abbrev PRL:=Except Nat (PS×List Ep)
def zdB (C:Cx) (exp:Bool):Nat->PS->List Ep->PRL
 |0,_,_=>.error 0
 |f+1,q,acc=>bd (zm C true q) fun a=>bd (asP C exp a) fun b=>
  if isT C b.1.pos 4 zbJ then zdB C exp f (adv b.1) (acc++[⟨0,b.2,a.2,sNone⟩]) else bd (zd C 4 zb5 b.1) fun q'=>.ok (q',acc++[⟨0,b.2,a.2,sNone⟩])
def za7 (C:Cx) (exp:Bool) (q:PS) (acc:List Ep):PRL:=zdB C exp (C.ts.length-q.pos+1) q acc
def zdm (C:Cx) (exp:Bool) (q:PS):PRL:=bd (zd C 4 zO q) fun q'=>za7 C exp q' []
def zaI (l:List Ep):Bool:=l.any fun x=>x.loc.toList==[100,101,102,97,117,108,116]
variable (w:World) (g:Nat) {C:Cx} {W:Bool} {z:Int} {s:BA} {q p:PS} {S:PR} {b c d:Nat} {n:List Tk} {V:World} {k:TypeId} {m:Rw} {x:List Value} {t:Array Oper} {h:List Oper} {A:Oper} {B:Act} {T:Sv}
theorem zf3 {a b:PS×BA} (h:asP C W a= .ok b):a.1.pos<=b.1.pos:=by
 unfold asP at h
 split at h
 ·obtain⟨rfl,_⟩:=zb6 h;show a.1.pos<=a.1.pos+1+1;omega
 ·split at h
  ·cases h
  ·cases h;exact le_refl _
theorem znZ: ∀(F:Nat) (q:PS) (acc:List Ep),C.ts.length-q.pos<g->C.ts.length-q.pos<F->zdB C W g q acc=zdB C W F q acc:=by
 induction g with
 |zero=>intro F q acc h;omega
 |succ g A=>
  intro F q acc M K;obtain⟨F,rfl⟩: ∃I,F=I+1:=⟨F-1,by omega⟩;rw[zdB,zdB];refine zah fun a D=>zah fun b H=>?_
  split
  ·next J=>
   obtain⟨rfl,z⟩:=zb6 D;have E:=zf3 H;have L:=zaB J (by decide);have N:=zfx z;simp only[zA] at E;exact A F _ _ (by rw[zA];omega) (by rw[zA];omega)
  ·rfl
theorem zgp (C:Cx) (h:Bool) (q:PS) (acc:List Ep):za7 C h q acc=bd (zm C true q) fun a=>bd (asP C h a) fun b=>
  if isT C b.1.pos 4 zbJ then za7 C h (adv b.1) (acc++[⟨0,b.2,a.2,sNone⟩]) else bd (zd C 4 zb5 b.1) fun q'=>.ok (q',acc++[⟨0,b.2,a.2,sNone⟩]):=by
 rw[za7,zdB];refine zah fun a z=>zah fun b D=>?_
 split
 ·next E=>
  obtain⟨rfl,w⟩:=zb6 z;have A:=zf3 D;have H:=zaB E (by decide);have I:=zfx w;simp only[zA] at A;exact znZ _ _ _ _ (by rw[zA];omega) (by rw[zA];omega)
 ·rfl
def zab {α:Type} (f:α->PS->PR):List α->PR->PR
 |[],x=>x
 |a::l,x=>zab f l (bd x (f a))
def zcj (s:BA) (e:Ep):Im:=⟨s,e.loc,e.name⟩
def zaN (C:Cx) (x:PR):PRN:=bd (bd x (zd C 1 zX)) (zM C)
def zbl (C:Cx) (y:PRN):PRN:=bd y fun a=>bd (zd C 4 cSemi a.1) fun q=>.ok (q,a.2)
def zbe (C:Cx) (q:PS):PR:=
 bd (zd C 1 zao q) fun q=>
  if isT C q.pos 4 zO then bd (zdm C false q) fun a=>bd (zbl C (zaN C (.ok a.1))) fun b=>zab (fun e=>zap C (zcj b.2 e)) a.2 (.ok b.1)
  else if isT C q.pos 4 zz then bd (bd (bd (zd C 4 zz q) (zd C 1 sAs)) (zm C false)) fun a=>bd (zbl C (zaN C (.ok a.1))) fun b=>zap C ⟨b.2,zz,a.2⟩ b.1
  else if zJ C q.pos false then bd (zm C false q) fun a=>bd (zbl C (zaN C (.ok a.1))) fun b=>zap C ⟨b.2,sDefault,a.2⟩ b.1
  else bd (zM C q) fun a=>zd C 4 cSemi a.1
def zF (e:Ep):Ep:=⟨1,e.name,e.loc,sNone⟩
def zax (s:BA) (e:Ep):Ep:=⟨2,e.name,e.loc,s⟩
def zaq (C:Cx) (q:PS):PR:=
 bd (zd C 1 zan q) fun q=>
  if isT C q.pos 4 zO then bd (zdm C true q) fun a=>
   if !zaI a.2&& !isT C a.1.pos 1 zX then bd (zd C 4 cSemi a.1) fun q=>zab (fun e=>zq C (zF e)) a.2 (.ok q)
   else bd (zbl C (zaN C (.ok a.1))) fun b=>zab (fun e=>zq C (zax b.2 e)) a.2 (.ok b.1)
  else if isT C q.pos 4 zz then bd (zbl C (zaN C (zd C 4 zz q))) fun b=>zq C ⟨3,sNone,sNone,b.2⟩ b.1
  else if isT C q.pos 1 sDefault then bd (bd (bd (bd (zd C 1 sDefault q) (pE C .sum 0)) (zd C 4 cSemi)) (zaa C 1 zcs)) (zq C ⟨1,sDefault,zcs,sNone⟩)
  else if isT C q.pos 1 zH then bd (zcT C q) fun a=>zq C ⟨1,a.2,a.2,sNone⟩ a.1
  else if isT C q.pos 1 zW then bd (fnP C q) fun a=>zq C ⟨1,a.2,a.2,sNone⟩ a.1
  else .error (zt C q.pos)
def zC (C:Cx) (q:PS):PR:=
 if !C.scr&&isT C q.pos 1 zao then zbe C q
 else if !C.scr&&isT C q.pos 1 zan then zaq C q
 else if isT C q.pos 1 zH then zaV (zcT C q)
 else if isT C q.pos 1 zW then zaV (fnP C q)
 else if isT C q.pos 1 za1 then bd (bd (bd (bd (bd (zd C 1 za1 q) (zd C 4 zp)) (pE C .sum 0)) (zd C 4 zaA)) (zd C 4 cSemi)) (zaa C 4 sNone)
 else if isT C q.pos 1 zaD then bd (bd (bd (zd C 1 zaD q) (pE C .sum 0)) (zd C 4 cSemi)) (zaa C 5 sNone)
 else if C.scr&&isT C q.pos 1 zbZ then bd (bd (bd (zd C 1 zbZ q) (pE C .sum 0)) (zd C 4 cSemi)) (zaa C 6 sNone)
 else bd (zm C false q) fun a=>bd (bd (bd (zd C 4 cEq a.1) (pE C .sum 0)) (zd C 4 cSemi)) (zaa C 3 a.2)
theorem za8 (h:zd C z s q= .ok p):q.pos+1=p.pos:=by
 obtain⟨rfl,_⟩:=zcb h;rfl
theorem zeO {a:PS×BA} (h:zm C W q= .ok a):q.pos+1=a.1.pos:=by
 obtain⟨rfl,_⟩:=zb6 h;rfl
theorem zj6 {a:PS×BA} (h:zM C q= .ok a):q.pos+1=a.1.pos:=by
 unfold zM at h
 split at h
 ·split at h
  ·cases h;rfl
  ·split at h
   ·cases h
   ·cases h;rfl
 ·cases h
theorem zeP (h:zaa C z s q= .ok p):q.pos=p.pos:=by
 unfold zaa at h
 split at h
 ·cases h
 ·cases h;rfl
theorem zhA {y:Im} (h:zap C y q= .ok p):q.pos=p.pos:=by
 unfold zap at h
 split at h
 ·cases h
 ·cases h;rfl
theorem zeQ {y:Ep} (h:zq C y q= .ok p):q.pos=p.pos:=by
 unfold zq at h
 split at h
 ·cases h
 ·split at h
  ·cases h;rfl
  ·cases h;rfl
theorem zhB {α:Type} {f:α->PS->PR} (w: ∀a q q',f a q= .ok q'->q.pos=q'.pos) (l:List α): ∀(x:PR) (q':PS),zab f l x= .ok q'->∃q,x= .ok q/\q.pos=q'.pos:=by
 induction l with
 |nil=>intro x q' h;exact⟨q',h,rfl⟩
 |cons a l z=>
  intro x q' h;obtain⟨b,E,A⟩:=z _ _ h;obtain⟨c,H,D⟩:=zo E;exact⟨c,H,(w _ _ _ D).trans A⟩
theorem zj7: ∀(q:PS) (acc:List Ep) (a:PS×List Ep),C.ts.length-q.pos<g->za7 C W q acc= .ok a->q.pos<=a.1.pos:=by
 induction g with
 |zero=>intro q acc a h;omega
 |succ g E=>
  intro q acc a M h;rw[zgp] at h;obtain⟨b,I,H⟩:=zo h;obtain⟨c,K,w⟩:=zo H;have N:=zeO I;have O:=zf3 K
  split at w
  ·next L=>
   have D:=zaB L (by decide);have:=E _ _ _ (by rw[zA];omega) w;rw[zA] at this;omega
  ·obtain⟨d,J,A⟩:=zo w;have D:=za8 J;cases A;show q.pos<=d.pos;omega
theorem zf4 {b:PS×BA} (h:zbl C (zaN C S)= .ok b): ∃q,S= .ok q/\q.pos<=b.1.pos:=by
 obtain⟨a,E,A⟩:=zo h;obtain⟨c,J,D⟩:=zo A;obtain⟨d,I,w⟩:=zo E;obtain⟨e,H,z⟩:=zo I;have K:=za8 J;have M:=zj6 w;have L:=za8 z;cases D;exact⟨e,H,by show e.pos<=c.pos;omega⟩
theorem zoa (h:zbe C q= .ok p):q.pos<p.pos:=by
 obtain⟨Z,U,z⟩:=zo h;have X:=za8 U
 split at z
 ·obtain⟨a,D,A⟩:=zo z;obtain⟨b,J,E⟩:=zo A;obtain⟨c,N,L⟩:=zo D;obtain⟨d,K,H⟩:=zf4 J;obtain⟨f,w,I⟩:=zhB (fun _ _ _ h=>zhA h) _ _ _ E;have O:=za8 N;have M:=zj7 _ _ _ _ (Nat.lt_succ_self _) L;cases K;cases w;omega
 ·split at z
  ·obtain⟨a,D,A⟩:=zo z;obtain⟨b,J,E⟩:=zo A;obtain⟨c,N,L⟩:=zo D;obtain⟨d,K,H⟩:=zo N;obtain⟨f,w,I⟩:=zf4 J;have O:=zhA E;have M:=zeO L;have Y:=za8 K;have V:=za8 H;cases w;omega
  ·split at z
   ·obtain⟨a,D,A⟩:=zo z;obtain⟨b,J,E⟩:=zo A;obtain⟨f,w,I⟩:=zf4 J;have O:=zhA E;have M:=zeO D;cases w;omega
   ·obtain⟨a,D,A⟩:=zo z;have O:=zj6 D;have M:=za8 A;omega
theorem zj8 {y:PRN} {F:PR->BA->PR} {a:PS×BA} (h:withN y F= .ok a): ∃b,y= .ok b/\F (.ok b.1) b.2= .ok a.1:=by
 obtain⟨b,q,w⟩:=zo h;obtain⟨c,A,z⟩:=zo w;cases z;exact⟨b,q,A⟩
theorem zj9 {a:PS×BA} (h:zcT C q= .ok a):q.pos<a.1.pos:=by
 obtain⟨b,I,E⟩:=zj8 h;obtain⟨c,L,H⟩:=zo I;obtain⟨d,K,z⟩:=zo E;obtain⟨f,J,D⟩:=zo K;obtain⟨g,A,w⟩:=zo J;have N:=za8 L;have X:=zeO H;have O:=za8 (show zd C 4 cEq b.1= .ok g from A);have V:=zbk w;have M:=za8 D;have U:=zeP z;omega
theorem zjA {a:PS×BA} (h:fnP C q= .ok a):q.pos<a.1.pos:=by
 obtain⟨b,N,L⟩:=zj8 h;obtain⟨c,Y,M⟩:=zo N;obtain⟨d,U,Z⟩:=zo L;obtain⟨f,O,X⟩:=zo U;obtain⟨g,h9,D⟩:=zo O;obtain⟨i,I,E⟩:=zo h9;obtain⟨j,w,z⟩:=zo I;obtain⟨k,H,J⟩:=zo w;obtain⟨l,A,K⟩:=zo H;have e1:=za8 Y;have e2:=zeO M;have e3:=za8 (show zd C 4 zp b.1= .ok l from A);have e4:=za8 K;have e5:=za8 J;have e6:=za8 z;have e7:=zbk E;have e8:=za8 D;have e9:=za8 X;have V:=zeP Z;omega
theorem zob (h:zaq C q= .ok p):q.pos<p.pos:=by
 obtain⟨Z,U,w⟩:=zo h;have e1:=za8 U
 split at w
 ·obtain⟨a,H,z⟩:=zo w;obtain⟨c,N,O⟩:=zo H;have K:=za8 N;have L:=zj7 _ _ _ _ (Nat.lt_succ_self _) O
  split at z
  ·obtain⟨b,D,I⟩:=zo z;obtain⟨f,E,M⟩:=zhB (fun _ _ _ h=>zeQ h) _ _ _ I;have V:=za8 D;cases E;omega
  ·obtain⟨b,D,I⟩:=zo z;obtain⟨d,J,A⟩:=zf4 D;obtain⟨f,E,M⟩:=zhB (fun _ _ _ h=>zeQ h) _ _ _ I;cases J;cases E;omega
 ·split at w
  ·obtain⟨b,D,I⟩:=zo w;obtain⟨d,J,A⟩:=zf4 D;have K:=za8 J;have L:=zeQ I;omega
  ·split at w
   ·obtain⟨a,H,z⟩:=zo w;obtain⟨b,D,I⟩:=zo H;obtain⟨c,N,O⟩:=zo D;obtain⟨d,J,A⟩:=zo N;have K:=za8 J;have L:=zbk A;have V:=za8 O;have X:=zeP I;have Y:=zeQ z;omega
   ·split at w
    ·obtain⟨a,H,z⟩:=zo w;have K:=zj9 H;have L:=zeQ z;omega
    ·split at w
     ·obtain⟨a,H,z⟩:=zo w;have K:=zjA H;have L:=zeQ z;omega
     ·cases w
theorem zjB {n:BA} (h:bd (bd (bd (zd C 1 s q) (pE C .sum 0)) (zd C 4 cSemi)) (zaa C z n)= .ok p):q.pos<p.pos:=by
 obtain⟨a,D,F⟩:=zo h;obtain⟨b,H,A⟩:=zo D;obtain⟨c,E,w⟩:=zo H;have I:=za8 E;have L:=zbk w;have J:=za8 A;have K:=zeP F;omega
theorem zgq (h:zC C q= .ok p):q.pos<p.pos:=by
 unfold zC at h
 split at h
 ·exact zoa h
 ·split at h
  ·exact zob h
  ·split at h
   ·obtain⟨a,z,w⟩:=zo h;cases w;exact zj9 z
   ·split at h
    ·obtain⟨a,z,w⟩:=zo h;cases w;exact zjA z
    ·split at h
     ·obtain⟨a,z,w⟩:=zo h;obtain⟨b,K,H⟩:=zo z;obtain⟨c,J,A⟩:=zo K;obtain⟨d,I,D⟩:=zo J;obtain⟨e,M,E⟩:=zo I;have N:=za8 M;have V:=za8 E;have O:=zbk D;have U:=za8 A;have L:=za8 H;have X:=zeP w;omega
     ·split at h
      ·exact zjB h
      ·split at h
       ·exact zjB h
       ·obtain⟨a,z,w⟩:=zo h;obtain⟨b,K,H⟩:=zo w;obtain⟨c,J,A⟩:=zo K;obtain⟨d,I,D⟩:=zo J;have N:=zeO z;have V:=za8 I;have O:=zbk D;have U:=za8 A;have L:=zeP H;omega
def zdC (C:Cx):Nat->PS->PR
 |0,_=>.error 0
 |f+1,q=>if q.pos<C.ts.length then bd (zC C q) (zdC C f) else .ok q
def za2 (C:Cx) (q:PS):PR:=zdC C (C.ts.length-q.pos+1) q
theorem zoc: ∀(F:Nat) (q:PS),C.ts.length-q.pos<g->C.ts.length-q.pos<F->zdC C g q=zdC C F q:=by
 induction g with
 |zero=>intro F q h;omega
 |succ g w=>
  intro F q E D;obtain⟨F,rfl⟩: ∃A,F=A+1:=⟨F-1,by omega⟩;rw[zdC,zdC]
  split
  ·refine zah fun a z=>?_;have:=zgq z;exact w F a (by omega) (by omega)
  ·rfl
theorem zgr (C:Cx) (q:PS):za2 C q=if q.pos<C.ts.length then bd (zC C q) (za2 C) else .ok q:=by
 rw[za2,zdC]
 split
 ·refine zah fun a h=>?_;have:=zgq h;exact zoc _ _ _ (by omega) (by omega)
 ·rfl
def zcd:PS:=⟨0,[],[],[],[],[],[]⟩
def zbA (s:BA) (scr:Bool) (y:PR):Prop:=∃r,zam s scr r/\y=match r with
 | .error p=>.error p
 | .ok ts=>za2 ⟨ts,s.size,scr⟩ zcd
theorem zjC {w:PR} (E:zbA s W S) (z:zbA s W w):S=w:=by
 obtain⟨I,A,rfl⟩:=E;obtain⟨H,D,rfl⟩:=z;obtain rfl:=znI A D;rfl
theorem zod {r:Except Nat (List Tk)} (h:Lx s W b c r): ∀w,r= .ok w->c<=4000->w.length+c<=4000:=by
 induction h using Lx.ind with
 |done=>intro w z D;cases z;simpa using D
 |bad _ _=>intro w z D;cases z
 | @tok b c e F t r h D H I z E=>
  intro w q _;cases r with
  |error p=>simp[Except.map] at q
  |ok l=>
   simp only[Except.map,Except.ok.injEq] at q;subst q;have:=E l rfl (by omega);simp only[List.length_cons];omega
theorem zjD (h:zam s W (.ok n)):n.length<=4000:=by
 obtain⟨a,_,z⟩:=h;have:=zod z n rfl (by omega);omega
def R0:Rw:=⟨none,0⟩
def S0:Sv:=⟨R0,R0,R0,R0,R0,R0⟩
theorem zcU (size:Nat) (e:TypeId):OwnR w g e size R0 0 []:=World.ownsRow_nil w g e size
theorem zoe:Own w g S0 zcd:=
 ⟨zcU _ _ _ _,zcU _ _ _ _,zcU _ _ _ _,zcU _ _ _ _,zcU _ _ _ _,zcU _ _ _ _,fun k h=>by simp[S0,R0,Rw.blk,Value.ownBlock] at h⟩
theorem zjE {F:Nat} (h:OwnT V b 158 c n.length d n) (D:n.length<=4000) (E:b<=V.heap.size):Mem ⟨n,F,W⟩ c d b S0 zcd V:=
 ⟨zoe _ _,⟨zero_le _,zero_le _,zero_le _,zero_le _,zero_le _,zero_le _⟩,h,D,E⟩
structure OwnMod (w:World) (base:Nat) (S:Sv) (q:PS):Prop where
 rq:OwnR w base 9 1 S.rq q.rq.length (q.rq.map .string)
 im:OwnR w base 95 3 S.im q.im.length (q.im.flatMap imL)
 ep:OwnR w base 97 4 S.ep (q.ep++q.la).length ((q.ep++q.la).flatMap epL)
 st:OwnR w base 102 3 S.st q.st.length (q.st.flatMap smL)
 ex:OwnR w base 100 6 S.ex q.ex.length (q.ex.flatMap exL)
 inv:q.rq.length<=40/\q.im.length<=40/\q.ep.length+q.la.length<=40/\q.st.length<=80/\q.ex.length<=300
def zgs (S:Sv) (q:PS):Value:=.agg #[.slice S.rq.a q.rq.length S.rq.cap,.slice S.im.a q.im.length S.im.cap,.slice S.ep.a (q.ep++q.la).length S.ep.cap,.slice S.st.a q.st.length S.st.cap,.slice S.ex.a q.ex.length S.ex.cap]
def ParseOut (s:BA) (scr:Bool) (w:World) (e:Ending) (w':World):Prop:=
 ∃y,zbA s scr y/\match y with
  | .ok q=>∃S,e= .returned (.tuple #[zgs S q,.int .i64 (-1)])/\OwnMod w' w.heap.size S q
  | .error p=>e= .returned (.tuple #[.agg #[.slice none 0 0,.slice none 0 0,.slice none 0 0,.slice none 0 0,.slice none 0 0],.int .i64 p])
theorem OwnR.low {n:Nat} (h:OwnR V b k d m n x) (H:c<=b):OwnR V c k d m n x:=by
 refine⟨h.1,?_⟩;rcases h.2 with A|⟨g,D,z,A,E,rest⟩
 ·exact .inl A
 ·exact .inr ⟨g,D,z,A,le_trans H E,rest⟩
theorem OwnR.nil_or (h:OwnR V b k c m d x):(m.a=none/\m.cap=0/\d=0)∨∃g,m.a=some ⟨g,0,none⟩:=by
 rcases h.2 with ⟨q,D⟩|⟨g,A,z,q,_⟩
 ·simp only[Value.slice.injEq] at q;exact .inl ⟨q.1,q.2.2,D⟩
 ·simp only[Value.slice.injEq] at q;exact .inr ⟨g,q.1⟩
theorem zof {P:Program} {Q:Exit->Act->World->Prop} (V:A.guard=none) (s x:Operand) (G:TypeId) (ho:A.op= .call {callee:=.builtin .append,args:=#[s,x],argTypes:=#[G,G]}) (base:Nat) (e:TypeId) (i:TypeInfo) (z:Value) (size q:Nat) (ht:P.underlying G=some (.slice e)) (hi:P.info? e=some i) (hz:i.zero=some z) (D:i.size=size) (aa:i.bytes=q) (ab:z.cells.size=size) (Z:0<size) (L:q<=100) (r:Rw) (n:Nat) (xs:List Value) (hs:B.eval s= .slice r.a n r.cap) (J:OwnR w base e size r n xs) (N m c H:Nat) (F:List Value) (hx:B.eval x= .slice (some ⟨N,0,none⟩) m c) (Y:OwnR w H e size ⟨some ⟨N,0,none⟩,c⟩ m F) (h1: ∀u∈F,u.oneCell'=true) (hn:n+m<=4000000) (E:base<=w.heap.size) (R: ∀K I,OwnR I base e size K (n+m) (xs++F)->w.grownBy I r.blk->(K.blk=r.blk∨K.blk=some w.heap.size)->wpList P t Q h (B.put A.dst (.slice K.a (n+m:Nat) K.cap)) I):
  wpList P t Q (A::h) B w:=by
 refine wpList_append_own_at _ V s x G ho base e i z size q ht hi hz D aa ab Z _ n _ hs J ⟨N,0,none⟩ m c F hx Y.1 ?_ h1 ?_ ?_ E ?_
 ·intro j u hj;have e1:(⟨N,0,none⟩:Addr).add j=⟨N,j,none⟩:=by simp[Addr.add];exact fun R=>R.symm
  have X:j<F.length:=(List.getElem?_eq_some_iff.1 hj).1;rw[e1,World.ownsRow.cellAt Y j (by rw[<-Y.1];exact X)];exact hj
 ·unfold maxLen;omega
 ·have:(n+m)*q<=4000000*100:=Nat.mul_le_mul hn L;omega
 ·intro v' I U k2 k3 k4;rcases U.2 with ⟨hv,O⟩|⟨g',f,ad,rfl,ac⟩
  ·subst hv;have:=R ⟨none,0⟩ I (by rw[O] at U ⊢;exact U) (by rw[<-zb9 r n];exact k2) (by rw[<-zb9 r n];exact k4);rw[O] at this;exact this
  ·refine R ⟨some ⟨g',0,none⟩,f⟩ I U ?_ ?_
   ·rw[<-zb9 r n];exact k2
   ·rw[<-zb9 r n,<-zb9 ⟨some ⟨g',0,none⟩,f⟩ (n+m)];exact k4
theorem zog {P:Program} {F:Array Oper} {Q:Exit->Act->World->Prop} (z:A.guard=none) (s x:Operand) (t:TypeId) (I:A.op= .call {callee:=.builtin .append,args:=#[s,x],argTypes:=#[t,t]}) (e:TypeId) (i:TypeInfo) (D:P.underlying t=some (.slice e)) (E:P.info? e=some i) (base size n:Nat) (r:Rw) (xs:List Value) (N:B.eval s= .slice r.a n r.cap) (q:OwnR w base e size r n xs) (O:B.eval x= .slice none 0 0) (G:wpList P F Q h (B.put A.dst (.slice r.a n r.cap)) w):wpList P F Q (A::h) B w:=by
 have J:(Builtin.append_ #[t,t] A.type #[.slice r.a n r.cap,.slice none 0 0]).run P w= .ok (.slice r.a n r.cap) w:=by
  rcases q.2 with ⟨R,_⟩|⟨g,M,H,R,_,_,U,_⟩
  ·rw[R];simp[Builtin.append_,run_underlying D,sizeOf,typeInfo,E,Builtin.lenOf,Builtin.firstCells]
  ·rw[R];simp[Builtin.append_,run_underlying D,sizeOf,typeInfo,E,Builtin.lenOf,Builtin.firstCells,loadCells,U,storeCells]
 refine wpList_plain z fun K L=>?_;unfold Oper.wp execOp;simp only[I,resolve,invoke,builtin,Sem.run_bind,Sem.run_pure,Result.andThen_ok,List.map_toArray,List.map_cons,List.map_nil,N,O,J];exact L _ _ G
theorem zhC (l:List Ep): ∀u∈l.flatMap epL,u.oneCell'=true:=by
 intro u h;rw[List.mem_flatMap] at h;obtain⟨x,_,q⟩:=h;simp[epL] at q;rcases q with rfl|rfl|rfl|rfl<;>rfl
theorem Mem.whole {F B:Nat} {I M:World} (A:Mem C b c d T q V) (G:V.grownBy I T.ep.blk) (U:OwnR I d 97 4 m (q.ep.length+q.la.length) (q.ep.flatMap epL++q.la.flatMap epL)) (J:m.blk=T.ep.blk∨m.blk=some V.heap.size) (hB:B<d) (hb:F<V.heap.size) (w: ¬T.has F) (O: ∀k,k≠B->k≠F->M.heap[k]? =I.heap[k]?):OwnMod M B {T with ep:=m} q:=by
 have D:(q.ep++q.la).length=q.ep.length+q.la.length:=by simp
 have H: ∀(r:Rw) (e:TypeId) (z n:Nat) (N:List Value),OwnR V d e z r n N->e≠97->(∀k,r.blk=some k->T.has k)->OwnR M B e z r n N:=fun r e z n N h he Y=>
  ((h.keep fun k g=>(O k (by have:=(h.typed g).1;omega) (fun L=>w (by rw[<-L];exact Y k g))).trans (G.block k (h.typed g).2.1 fun X=>(h.ne A.own.ep he g) X.symm)).low (by omega))
 refine⟨H _ _ _ _ _ A.own.rq (by decide) fun k g=>.inl g,H _ _ _ _ _ A.own.im (by decide) fun k g=>.inr (.inl g),?_,H _ _ _ _ _ A.own.st (by decide) fun k g=>.inr (.inr (.inr (.inl g))),H _ _ _ _ _ A.own.ex (by decide) fun k g=>.inr (.inr (.inr (.inr (.inl g)))),A.inv.rq,A.inv.im,A.inv.ep,A.inv.st,A.inv.ex⟩;rw[D,List.flatMap_append];refine (U.keep fun k g=>O k (by have:=(U.typed g).1;omega) ?_).low (by omega);rcases J with e|e
 ·intro L;exact w (by rw[<-L];exact .inr (.inr (.inl (by rw[<-e];exact g))))
 ·have:V.heap.size=k:=Option.some.inj (e.symm.trans g);omega
theorem Mem.whole0 {F B:Nat} {I:World} (z:Mem C b c d T q V) (J:q.la=[]) (hB:B<d) (A: ¬T.has F) (N: ∀k,k≠B->k≠F->I.heap[k]? =V.heap[k]?):OwnMod I B T q:=by
 have D: ∀(r:Rw) (e:TypeId) (w n:Nat) (E:List Value),OwnR V d e w r n E->(∀k,r.blk=some k->T.has k)->OwnR I B e w r n E:=fun r e w n E h L=>
  ((h.keep fun k g=>N k (by have:=(h.typed g).1;omega) (fun K=>A (by rw[<-K];exact L k g))).low (by omega))
 refine⟨D _ _ _ _ _ z.own.rq fun k g=>.inl g,D _ _ _ _ _ z.own.im fun k g=>.inr (.inl g),?_,D _ _ _ _ _ z.own.st fun k g=>.inr (.inr (.inr (.inl g))),D _ _ _ _ _ z.own.ex fun k g=>.inr (.inr (.inr (.inr (.inl g)))),z.inv.rq,z.inv.im,z.inv.ep,z.inv.st,z.inv.ex⟩;rw[J,List.append_nil];exact D _ _ _ _ _ z.own.ep fun k g=>.inr (.inr (.inl g))
theorem zj {v0 v1 v2 v3 v4:Value} (h:V.heap[b]? =some (.cells #[v0,v1,v2,v3,v4] k (0,0))):
  V.cell? ⟨b,0,none⟩=some v0/\V.cell? ⟨b,1,none⟩=some v1/\V.cell? ⟨b,2,none⟩=some v2/\V.cell? ⟨b,3,none⟩=some v3/\V.cell? ⟨b,4,none⟩=some v4/\∀i,V.frozen? ⟨b,i,none⟩=false:=by
 refine⟨?_,?_,?_,?_,?_,fun i=>?_⟩<;>simp[World.cell?,World.frozen?,h]
theorem zae {i:Nat} {q:Array Value} {u:Value} (h:V.heap[b]? =some (.cells q k (0,0))):(V.setCell ⟨b,i,none⟩ u).heap[b]? =some (.cells (q.setIfInBounds i u) k (0,0)):=by
 simp only[World.setCell,Array.getElem?_modify];rw[if_pos trivial,h];rfl
theorem zdD {v0 v1 v2 v3 v4 q A E D z:Value} (h:V.heap[b]? =some (.cells #[v0,v1,v2,v3,v4] k (0,0))):
  (((((V.setCell ⟨b,0,none⟩ q).setCell ⟨b,1,none⟩ A).setCell ⟨b,2,none⟩ E).setCell ⟨b,3,none⟩ D).setCell ⟨b,4,none⟩ z).heap[b]? =some (.cells #[q,A,E,D,z] k (0,0)):=by
 have e:=zae (i:=4) (u:=z) (zae (i:=3) (u:=D) (zae (i:=2) (u:=E) (zae (i:=1) (u:=A) (zae (i:=0) (u:=q) h))));rw[e];simp
theorem zdR {w:World} {F:Nat} (h:Below b V w) (q:b<=F) (z D H E A:Value):Below b V (((((w.setCell ⟨F,0,none⟩ z).setCell ⟨F,1,none⟩ D).setCell ⟨F,2,none⟩ H).setCell ⟨F,3,none⟩ E).setCell ⟨F,4,none⟩ A):=
 ((((h.setCell q _).setCell q _).setCell q _).setCell q _).setCell q _
end Go.Proofs.YtgcbmogmniahjaaGreat
