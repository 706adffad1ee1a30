/-
  A program under way in memory: its six rows,what a step leaves as it was. No program is spoken of but for the numbers of its types.
  One of the six rows of a program under way grows by one element: what holds behind it. No program is spoken of but for the numbers of its types.
  Items of programs,as plain functions. No program is spoken of.
  A whole program,as a plain function of its tokens: items one behind the other. No program is spoken of.
  A text has at most 4000 tokens. No program is spoken of.
  A program in memory,as Parse hands it back. No program is spoken of but for the numbers of its types.
-/
import Derived.Maps.AppendAt
import Derived.Test.YticdggnnpjachaaGreatCcTokMem
namespace Go.Proofs.YticdggnnpjachaaGreat
open Go.RowKit Go.PlainAid
def imL (x:Im):List Value:=[.string x.spec,.string x.first,.string x.loc]
def epL (x:Ep):List Value:=[.int .i64 x.kind,.string x.name,.string x.loc,.string x.spec]
def smL (x:Sm):List Value:=[.int .i64 x.kind,.string x.name,.int .i64 x.expr]
def exL (x:Ex):List Value:=[.int .i64 x.kind,.int .i64 x.num,.string x.name,.string x.field,.int .i64 x.l,.int .i64 x.r]
structure Rw where
 a:Option Addr
 cap:Nat
structure Sv where
 rq:Rw
 im:Rw
 ep:Rw
 st:Rw
 ex:Rw
 la:Rw
def Rw.blk (r:Rw):Option Nat:=(Value.slice r.a 0 r.cap).ownBlock
def Sv.has (S:Sv) (k:Nat):Prop:=S.rq.blk=some k∨S.im.blk=some k∨S.ep.blk=some k∨S.st.blk=some k∨S.ex.blk=some k∨S.la.blk=some k
def OwnR (w:World) (base:Nat) (e:TypeId) (size:Nat) (r:Rw) (n:Nat) (xs:List Value):Prop:=w.ownsRow base e size (.slice r.a n r.cap) n xs
theorem zbh (r:Rw) (n:Nat):(Value.slice r.a n r.cap).ownBlock=r.blk:=by
 unfold Rw.blk Value.ownBlock
 cases r.a<;>rfl
structure Own (w:World) (base:Nat) (S:Sv) (q:PS):Prop where
 rq:OwnR w base 9 1 S.rq q.rq.length (q.rq.map .string)
 im:OwnR w base 100 3 S.im q.im.length (q.im.flatMap imL)
 ep:OwnR w base 102 4 S.ep q.ep.length (q.ep.flatMap epL)
 st:OwnR w base 106 3 S.st q.st.length (q.st.flatMap smL)
 ex:OwnR w base 108 6 S.ex q.ex.length (q.ex.flatMap exL)
 la:OwnR w base 102 4 S.la q.la.length (q.la.flatMap epL)
 apart: ∀k,S.ep.blk=some k→S.la.blk≠some k
theorem OwnR.typed {w:World} {j size n:Nat} {e:TypeId} {r:Rw} {xs:List Value} (h:OwnR w j e size r n xs) {k:Nat} (q:r.blk=some k):j≤k∧k<w.heap.size∧∃o,w.heap[k]? =some (.cells o e (0,0)):=by
 rcases h.2 with ⟨z,_⟩|⟨g,D,o,z,E,A,_⟩
 ·rw[←zbh r n,z] at q
  simp[Value.ownBlock] at q
 ·rw[←zbh r n,z] at q
  simp only[Value.ownBlock,Option.some.injEq] at q
  subst q
  exact⟨E,(Array.getElem?_eq_some_iff.1 A).1,o,A⟩
theorem OwnR.ne {w:World} {J b2 U H N L:Nat} {n z:TypeId} {o q:Rw} {A M:List Value} (E:OwnR w J n U o N A) (I:OwnR w b2 z H q L M) (K:n≠z) {k:Nat} (O:o.blk=some k):q.blk≠some k:=by
 intro h
 obtain⟨_,_,X,D⟩:=E.typed O
 obtain⟨_,_,V,j⟩:=I.typed h
 rw[D] at j
 simp only[Option.some.injEq,Obj.cells.injEq] at j
 exact K j.2.1
theorem OwnR.keep {w A:World} {j size n:Nat} {e:TypeId} {r:Rw} {xs:List Value} (h:OwnR w j e size r n xs) (E: ∀k,r.blk=some k→A.heap[k]? =w.heap[k]?):OwnR A j e size r n xs:=by
 refine⟨h.1,?_⟩
 rcases h.2 with o|⟨g,q,z,o,H,D,rest⟩
 ·exact .inl o
 ·refine .inr ⟨g,q,z,o,H,?_,rest⟩
  rw[E g (by rw[←zbh r n,o];rfl)]
  exact D
theorem Own.keep {w o:World} {j:Nat} {S:Sv} {q:PS} (h:Own w j S q) (n: ∀k,S.has k→o.heap[k]? =w.heap[k]?):Own o j S q:=
 ⟨h.rq.keep fun k e=>n k (.inl e),h.im.keep fun k e=>n k (.inr (.inl e)),h.ep.keep fun k e=>n k (.inr (.inr (.inl e))),h.st.keep fun k e=>n k (.inr (.inr (.inr (.inl e)))),
  h.ex.keep fun k e=>n k (.inr (.inr (.inr (.inr (.inl e))))),h.la.keep fun k e=>n k (.inr (.inr (.inr (.inr (.inr e))))),h.apart⟩
theorem Own.has {w:World} {j:Nat} {S:Sv} {q:PS} (h:Own w j S q) {k:Nat} (n:S.has k):j≤k∧k<w.heap.size:=by
 rcases n with e|e|e|e|e|e
 ·exact⟨(h.rq.typed e).1,(h.rq.typed e).2.1⟩
 ·exact⟨(h.im.typed e).1,(h.im.typed e).2.1⟩
 ·exact⟨(h.ep.typed e).1,(h.ep.typed e).2.1⟩
 ·exact⟨(h.st.typed e).1,(h.st.typed e).2.1⟩
 ·exact⟨(h.ex.typed e).1,(h.ex.typed e).2.1⟩
 ·exact⟨(h.la.typed e).1,(h.la.typed e).2.1⟩
theorem Own.later {w n:World} {j:Nat} {S:Sv} {q:PS} (h:Own w j S q) (o:Below w.heap.size w n):Own n j S q:=h.keep fun k e=>o.block k (h.has e).2
theorem Own.other {w:World} {o:Nat} {S:Sv} {q:PS} (h:Own w o S q) {k:Nat} {A:Array Value} {e:TypeId} {z:Nat×Nat} (n:w.heap[k]? =some (.cells A e z)) (H:e≠9) (J:e≠100) (D:e≠102) (E:e≠106) (I:e≠108): ¬S.has k:=by
 rintro (g|g|g|g|g|g)
 ·obtain⟨_,_,c,j⟩:=h.rq.typed g
  rw[n] at j
  simp only[Option.some.injEq,Obj.cells.injEq] at j
  exact H j.2.1
 ·obtain⟨_,_,c,j⟩:=h.im.typed g
  rw[n] at j
  simp only[Option.some.injEq,Obj.cells.injEq] at j
  exact J j.2.1
 ·obtain⟨_,_,c,j⟩:=h.ep.typed g
  rw[n] at j
  simp only[Option.some.injEq,Obj.cells.injEq] at j
  exact D j.2.1
 ·obtain⟨_,_,c,j⟩:=h.st.typed g
  rw[n] at j
  simp only[Option.some.injEq,Obj.cells.injEq] at j
  exact E j.2.1
 ·obtain⟨_,_,c,j⟩:=h.ex.typed g
  rw[n] at j
  simp only[Option.some.injEq,Obj.cells.injEq] at j
  exact I j.2.1
 ·obtain⟨_,_,c,j⟩:=h.la.typed g
  rw[n] at j
  simp only[Option.some.injEq,Obj.cells.injEq] at j
  exact D j.2.1
structure Stp (S:Sv) (w:World) (S':Sv) (w':World):Prop where
 os:w'.os=w.os
 tape:w'.tape=w.tape
 output:w'.output=w.output
 size:w.heap.size≤w'.heap.size
 block: ∀k,k<w.heap.size→¬S.has k→w'.heap[k]? =w.heap[k]?
 sub: ∀k,S'.has k→S.has k∨w.heap.size≤k
theorem Stp.refl (S:Sv) (w:World):Stp S w S w:=⟨rfl,rfl,rfl,Nat.le_refl _,fun _ _ _=>rfl,fun _ h=>.inl h⟩
theorem Stp.trans {S A o:Sv} {w z q:World} (h:Stp S w A z) (k:Stp A z o q):Stp S w o q:=
 ⟨k.os.trans h.os,k.tape.trans h.tape,k.output.trans h.output,Nat.le_trans h.size k.size,
  fun i j n=>(k.block i (Nat.lt_of_lt_of_le j h.size) fun g=>(h.sub i g).elim n fun D=>by omega).trans (h.block i j n),
  fun i j=>(k.sub i j).elim (h.sub i) fun g=>.inr (Nat.le_trans h.size g)⟩
theorem Stp.below {S:Sv} {w j:World} (h:Below w.heap.size w j):Stp S w S j:=⟨h.os,h.tape,h.output,h.size,fun k n _=>h.block k n,fun _ g=>.inl g⟩
theorem Stp.under {S o:Sv} {w n:World} {j:Nat} {q:PS} (h:Stp S w o n) (D:j≤w.heap.size) (z:Own w j S q):Below j w n:=
 ⟨h.os,h.tape,h.output,h.size,fun k A=>h.block k (by omega) fun g=>by have:=(z.has g).1;omega⟩
theorem Stp.grown {S n:Sv} {w j:World} {row:Option Nat} (h:w.grownBy j row) (A: ∀k,row=some k→S.has k) (o: ∀k,n.has k→S.has k∨w.heap.size≤k):Stp S w n j:=
 ⟨h.os,h.tape,h.output,h.size,fun k z q=>h.block k z fun e=>q (A k e.symm),o⟩
structure Inv (C:Cx) (q:PS):Prop where
 pos:q.pos≤C.ts.length
 rq:q.rq.length≤40
 im:q.im.length≤40
 ep:q.ep.length+q.la.length≤40
 st:q.st.length≤80
 ex:q.ex.length≤300
structure Mem (C:Cx) (gt cap base:Nat) (S:Sv) (q:PS) (w:World):Prop where
 own:Own w base S q
 inv:Inv C q
 tok:OwnT w base 111 gt C.ts.length cap C.ts
 few:C.ts.length≤4000
 base:base≤w.heap.size
theorem Mem.later {C:Cx} {A n j:Nat} {S:Sv} {q:PS} {w z:World} (h:Mem C A n j S q w) (o:Below w.heap.size w z):Mem C A n j S q z:=
 ⟨h.own.later o,h.inv,zbO h.tok o,h.few,Nat.le_trans h.base o.size⟩
theorem Mem.alloc {C:Cx} {z n j:Nat} {S:Sv} {q:PS} {w:World} (h:Mem C z n j S q w) (o:Obj):Mem C z n j S q (w.alloc o):=h.later ((Below.refl _ _).alloc (Nat.le_refl _) _)
theorem Own.to {w:World} {j:Nat} {S:Sv} {q q':PS} (h:Own w j S q) (o:q'.rq=q.rq) (E:q'.im=q.im) (A:q'.ep=q.ep) (n:q'.st=q.st) (D:q'.ex=q.ex) (z:q'.la=q.la):Own w j S q':=
 ⟨by rw[o];exact h.rq,by rw[E];exact h.im,by rw[A];exact h.ep,by rw[n];exact h.st,by rw[D];exact h.ex,by rw[z];exact h.la,h.apart⟩
theorem Mem.adv {C:Cx} {o n j:Nat} {S:Sv} {q:PS} {w:World} (h:Mem C o n j S q w) (z:q.pos<C.ts.length):Mem C o n j S (adv q) w:=
 ⟨h.own.to rfl rfl rfl rfl rfl rfl,⟨z,h.inv.rq,h.inv.im,h.inv.ep,h.inv.st,h.inv.ex⟩,h.tok,h.few,h.base⟩
theorem OwnR.alloc {w:World} {j size n:Nat} {e:TypeId} {r:Rw} {xs:List Value} (h:OwnR w j e size r n xs) (o:Obj):OwnR (w.alloc o) j e size r n xs:=
 h.keep fun k q=>Below.heap_alloc w o k (h.typed q).2.1
theorem zeN {w:World} {o g n z:Nat} {e:TypeId} {E:List Tk} (h:OwnT w o e g n z E): ∃j,w.heap[g]? =some (.cells j e (0,0)):=by
 rcases h.1.2 with ⟨q,_⟩|⟨I,A,j,q,J,D,H,_⟩
 ·simp at q
 ·simp only[Value.slice.injEq,Option.some.injEq,Addr.mk.injEq,and_true,true_and] at q
  obtain⟨rfl,rfl⟩:=q
  exact⟨j,D⟩
theorem zbs {w A:World} {j g n o:Nat} {e:TypeId} {H:List Tk} (h:OwnT w j e g n o H) (J:A.heap[g]? =w.heap[g]?):OwnT A j e g n o H:=by
 refine⟨⟨h.1.1,?_⟩,h.2⟩
 rcases h.1.2 with k|⟨L,D,z,E,q,I,K⟩
 ·exact .inl k
 ·simp only[Value.slice.injEq,Option.some.injEq,Addr.mk.injEq,and_true,true_and] at E
  obtain⟨rfl,rfl⟩:=E
  exact .inr ⟨g,o,z,rfl,q,J.trans I,K⟩
theorem Mem.gt_free {C:Cx} {o n j:Nat} {S:Sv} {q:PS} {w:World} (h:Mem C o n j S q w): ¬S.has o:=by
 obtain⟨A,z⟩:=zeN h.tok
 exact h.own.other z (by decide) (by decide) (by decide) (by decide) (by decide)
structure Off (lo hi:Nat) (w w':World):Prop where
 os:w'.os=w.os
 tape:w'.tape=w.tape
 output:w'.output=w.output
 size:w.heap.size≤w'.heap.size
 block: ∀k,k<lo∨hi≤k∧k<w.heap.size→w'.heap[k]? =w.heap[k]?
theorem Off.refl (j h:Nat) (w:World):Off j h w w:=⟨rfl,rfl,rfl,Nat.le_refl _,fun _ _=>rfl⟩
theorem Off.set {n o:Nat} {w j:World} (h:Off n o w j) {b:Nat} (z:n≤b) (A:b<o) (i:Nat) (u:Value):Off n o w (j.setCell ⟨b,i,none⟩ u):=
 ⟨h.os,h.tape,h.output,by show _≤(j.heap.modify _ _).size;simp;exact h.size,fun k q=>(Below.heap_setCell j ⟨b,i,none⟩ u k (by show k≠b;omega)).trans (h.block k q)⟩
theorem Off.below {n z:Nat} {w o q:World} (h:Off n z w o) (j:Below o.heap.size o q) (D:n≤w.heap.size):Off n z w q:=
 ⟨j.os.trans h.os,j.tape.trans h.tape,j.output.trans h.output,Nat.le_trans h.size j.size,fun k A=>(j.block k (by have:=h.size;omega)).trans (h.block k A)⟩
theorem Off.set12 {z A:Nat} {a w:World} (h:Off z A a w) {b:Nat} (n:z≤b) (j:b<A) (J O M I E H N L D K o q:Value):
  Off z A a ((((((((((((w.setCell ⟨b,0,none⟩ J).setCell ⟨b,1,none⟩ O).setCell ⟨b,2,none⟩ M).setCell ⟨b,3,none⟩ I).setCell ⟨b,4,none⟩ E).setCell ⟨b,5,none⟩ H).setCell ⟨b,6,none⟩ N).setCell ⟨b,7,none⟩ L).setCell ⟨b,8,none⟩ D).setCell ⟨b,9,none⟩ K).setCell ⟨b,10,none⟩ o).setCell ⟨b,11,none⟩ q):=
 (((((((((((h.set n j _ _).set n j _ _).set n j _ _).set n j _ _).set n j _ _).set n j _ _).set n j _ _).set n j _ _).set n j _ _).set n j _ _).set n j _ _).set n j _ _
theorem zcl {P:Program} (W:World) {N:Array Oper} {rest:List Oper} {o:Oper} {a:Act} {Q:Exit→Act→World→Prop} (U:o.guard=none) (s x:Operand) (t:TypeId)
  (ho:o.op= .call {callee:=.builtin .append,args:=#[s,x],argTypes:=#[t,t]})
  (A:Nat) (e:TypeId) (i:TypeInfo) (z:Value) (size q:Nat) (ht:P.underlying t=some (.slice e)) (hi:P.info? e=some i) (hz:i.zero=some z) (H:i.size=size) (X:i.bytes=q) (Y:z.cells.size=size) (O:0<size) (I:q≤100)
  (r:Rw) (n:Nat) (xs:List Value) (hs:a.eval s= .slice r.a n r.cap) (L:OwnR W A e size r n xs)
  (M:Nat) (w:List Value) (hx:a.eval x= .slice (some ⟨M,0,none⟩) 1 1) (hg:W.heap[M]? =some (.cells w.toArray e (0,0))) (hl:w.length=size) (h1: ∀u∈w,u.oneCell'=true) (hn:n+1≤1000000) (E:A≤W.heap.size)
  (h: ∀K J,OwnR J A e size K (n+1) (xs++w)→W.grownBy J r.blk→(K.blk=r.blk∨K.blk=some W.heap.size)→wpList P N Q rest (a.put o.dst (.slice K.a (n+1) K.cap)) J):
  wpList P N Q (o::rest) a W:=by
 refine wpList_append_own_at _ U s x t ho A e i z size q ht hi hz H X Y O _ n _ hs L ⟨M,0,none⟩ 1 1 w hx (by omega) ?_ h1 ?_ ?_ E ?_
 ·intro j u hj
  have:(⟨M,0,none⟩:Addr).add j=⟨M,j,none⟩:=by simp[Addr.add];exact fun h=>h.symm
  rw[this]
  simp[World.cell?,hg,hj]
 ·unfold maxLen;omega
 ·have:(n+1)*q≤1000000*100:=Nat.mul_le_mul hn I
  omega
 ·intro v' J k1 k2 k3 k4
  rcases k1.2 with ⟨hv,ab⟩|⟨Z,D,aa,rfl,V⟩
  ·omega
  ·refine h ⟨some ⟨Z,0,none⟩,D⟩ J k1 ?_ ?_
   ·rw[←zbh r n];exact k2
   ·rw[←zbh r n,←zbh ⟨some ⟨Z,0,none⟩,D⟩ (n+1)];exact k4
theorem Mem.grow_rq {C:Cx} {X J A:Nat} {S:Sv} {q:PS} {w W V E:World} (j:Mem C X J A S q w) (N:Below w.heap.size w W) (M:W.grownBy V S.rq.blk) {D:Rw} {x:ByteArray} (Y:OwnR V A 9 1 D (q.rq.length+1) (q.rq.map .string++[.string x])) (H:D.blk=S.rq.blk∨D.blk=some W.heap.size) (z:Off w.heap.size W.heap.size V E) (Z:q.rq.length<40):
  Mem C X J A {S with rq:=D} {q with rq:=q.rq++[x]} E∧Stp S w {S with rq:=D} E:=by
 have O:=N.size
 have K:=M.size
 have n: ∀k,k<w.heap.size→S.rq.blk≠some k→E.heap[k]? =w.heap[k]?:=fun k o U=>
  (z.block k (.inl o)).trans ((M.block k (by omega) fun e=>U e.symm).trans (N.block k o))
 have L:OwnR E A 9 1 D (q.rq.length+1) (q.rq.map .string++[.string x]):=Y.keep fun k o=>z.block k (by
  rcases H with e|e
  ·rw[e] at o
   exact .inl (j.own.rq.typed o).2.1
  ·rw[e] at o
   obtain rfl:=Option.some.inj o
   exact .inr ⟨Nat.le_refl _,(Y.typed e).2.1⟩)
 have I:(q.rq++[x]).length=q.rq.length+1:=by simp
 refine⟨⟨⟨by show OwnR E A 9 1 D (q.rq++[x]).length _;rw[I];simpa using L,j.own.im.keep fun k o=>n k (j.own.im.typed o).2.1 (j.own.im.ne j.own.rq (by decide) o),j.own.ep.keep fun k o=>n k (j.own.ep.typed o).2.1 (j.own.ep.ne j.own.rq (by decide) o),j.own.st.keep fun k o=>n k (j.own.st.typed o).2.1 (j.own.st.ne j.own.rq (by decide) o),j.own.ex.keep fun k o=>n k (j.own.ex.typed o).2.1 (j.own.ex.ne j.own.rq (by decide) o),j.own.la.keep fun k o=>n k (j.own.la.typed o).2.1 (j.own.la.ne j.own.rq (by decide) o),j.own.apart⟩,⟨j.inv.pos,by simp;omega,j.inv.im,j.inv.ep,j.inv.st,j.inv.ex⟩,zbs j.tok (n X (zak j.tok).1 fun e=>j.gt_free (.inl e)),j.few,Nat.le_trans j.base (by have:=z.size;omega)⟩,?_⟩
 refine⟨z.os.trans (M.os.trans N.os),z.tape.trans (M.tape.trans N.tape),z.output.trans (M.output.trans N.output),Nat.le_trans (Nat.le_trans O K) z.size,fun k o Z=>n k o fun e=>Z (.inl e),fun k o=>?_⟩
 rcases o with h|h|h|h|h|h
 ·exact H.elim (fun e=>.inl (.inl (e.symm.trans h))) fun e=>.inr (by have:W.heap.size=k:=Option.some.inj (e.symm.trans h);omega)
 ·exact .inl (.inr (.inl h))
 ·exact .inl (.inr (.inr (.inl h)))
 ·exact .inl (.inr (.inr (.inr (.inl h))))
 ·exact .inl (.inr (.inr (.inr (.inr (.inl h)))))
 ·exact .inl (.inr (.inr (.inr (.inr (.inr h)))))
theorem Mem.grow_im {C:Cx} {X J A:Nat} {S:Sv} {q:PS} {w W V E:World} (j:Mem C X J A S q w) (N:Below w.heap.size w W) (M:W.grownBy V S.im.blk) {D:Rw} {x:Im} (Y:OwnR V A 100 3 D (q.im.length+1) (q.im.flatMap imL++imL x)) (H:D.blk=S.im.blk∨D.blk=some W.heap.size) (z:Off w.heap.size W.heap.size V E) (Z:q.im.length<40):
  Mem C X J A {S with im:=D} {q with im:=q.im++[x]} E∧Stp S w {S with im:=D} E:=by
 have O:=N.size
 have K:=M.size
 have n: ∀k,k<w.heap.size→S.im.blk≠some k→E.heap[k]? =w.heap[k]?:=fun k o U=>
  (z.block k (.inl o)).trans ((M.block k (by omega) fun e=>U e.symm).trans (N.block k o))
 have L:OwnR E A 100 3 D (q.im.length+1) (q.im.flatMap imL++imL x):=Y.keep fun k o=>z.block k (by
  rcases H with e|e
  ·rw[e] at o
   exact .inl (j.own.im.typed o).2.1
  ·rw[e] at o
   obtain rfl:=Option.some.inj o
   exact .inr ⟨Nat.le_refl _,(Y.typed e).2.1⟩)
 have I:(q.im++[x]).length=q.im.length+1:=by simp
 refine⟨⟨⟨j.own.rq.keep fun k o=>n k (j.own.rq.typed o).2.1 (j.own.rq.ne j.own.im (by decide) o),by show OwnR E A 100 3 D (q.im++[x]).length _;rw[I];simpa using L,j.own.ep.keep fun k o=>n k (j.own.ep.typed o).2.1 (j.own.ep.ne j.own.im (by decide) o),j.own.st.keep fun k o=>n k (j.own.st.typed o).2.1 (j.own.st.ne j.own.im (by decide) o),j.own.ex.keep fun k o=>n k (j.own.ex.typed o).2.1 (j.own.ex.ne j.own.im (by decide) o),j.own.la.keep fun k o=>n k (j.own.la.typed o).2.1 (j.own.la.ne j.own.im (by decide) o),j.own.apart⟩,⟨j.inv.pos,j.inv.rq,by simp;omega,j.inv.ep,j.inv.st,j.inv.ex⟩,zbs j.tok (n X (zak j.tok).1 fun e=>j.gt_free (.inr (.inl e))),j.few,Nat.le_trans j.base (by have:=z.size;omega)⟩,?_⟩
 refine⟨z.os.trans (M.os.trans N.os),z.tape.trans (M.tape.trans N.tape),z.output.trans (M.output.trans N.output),Nat.le_trans (Nat.le_trans O K) z.size,fun k o Z=>n k o fun e=>Z (.inr (.inl e)),fun k o=>?_⟩
 rcases o with h|h|h|h|h|h
 ·exact .inl (.inl h)
 ·exact H.elim (fun e=>.inl (.inr (.inl (e.symm.trans h)))) fun e=>.inr (by have:W.heap.size=k:=Option.some.inj (e.symm.trans h);omega)
 ·exact .inl (.inr (.inr (.inl h)))
 ·exact .inl (.inr (.inr (.inr (.inl h))))
 ·exact .inl (.inr (.inr (.inr (.inr (.inl h)))))
 ·exact .inl (.inr (.inr (.inr (.inr (.inr h)))))
theorem Mem.grow_ep {C:Cx} {X J A:Nat} {S:Sv} {q:PS} {w W V H:World} (j:Mem C X J A S q w) (N:Below w.heap.size w W) (M:W.grownBy V S.ep.blk) {E:Rw} {x:Ep} (Y:OwnR V A 102 4 E (q.ep.length+1) (q.ep.flatMap epL++epL x)) (D:E.blk=S.ep.blk∨E.blk=some W.heap.size) (z:Off w.heap.size W.heap.size V H) (Z:q.ep.length+q.la.length<40):
  Mem C X J A {S with ep:=E} {q with ep:=q.ep++[x]} H∧Stp S w {S with ep:=E} H:=by
 have O:=N.size
 have K:=M.size
 have n: ∀k,k<w.heap.size→S.ep.blk≠some k→H.heap[k]? =w.heap[k]?:=fun k o U=>
  (z.block k (.inl o)).trans ((M.block k (by omega) fun e=>U e.symm).trans (N.block k o))
 have L:OwnR H A 102 4 E (q.ep.length+1) (q.ep.flatMap epL++epL x):=Y.keep fun k o=>z.block k (by
  rcases D with e|e
  ·rw[e] at o
   exact .inl (j.own.ep.typed o).2.1
  ·rw[e] at o
   obtain rfl:=Option.some.inj o
   exact .inr ⟨Nat.le_refl _,(Y.typed e).2.1⟩)
 have I:(q.ep++[x]).length=q.ep.length+1:=by simp
 refine⟨⟨⟨j.own.rq.keep fun k o=>n k (j.own.rq.typed o).2.1 (j.own.rq.ne j.own.ep (by decide) o),j.own.im.keep fun k o=>n k (j.own.im.typed o).2.1 (j.own.im.ne j.own.ep (by decide) o),by show OwnR H A 102 4 E (q.ep++[x]).length _;rw[I];simpa using L,j.own.st.keep fun k o=>n k (j.own.st.typed o).2.1 (j.own.st.ne j.own.ep (by decide) o),j.own.ex.keep fun k o=>n k (j.own.ex.typed o).2.1 (j.own.ex.ne j.own.ep (by decide) o),j.own.la.keep fun k o=>n k (j.own.la.typed o).2.1 (fun e=>j.own.apart k e o),fun k o hl=>D.elim (fun e=>j.own.apart k (by rw[←e];exact o) hl) fun e=>by have h1:=(j.own.la.typed hl).2.1;have h2:W.heap.size=k:=Option.some.inj (e.symm.trans o);omega⟩,⟨j.inv.pos,j.inv.rq,j.inv.im,by have:=j.inv.ep;simp;omega,j.inv.st,j.inv.ex⟩,zbs j.tok (n X (zak j.tok).1 fun e=>j.gt_free (.inr (.inr (.inl e)))),j.few,Nat.le_trans j.base (by have:=z.size;omega)⟩,?_⟩
 refine⟨z.os.trans (M.os.trans N.os),z.tape.trans (M.tape.trans N.tape),z.output.trans (M.output.trans N.output),Nat.le_trans (Nat.le_trans O K) z.size,fun k o Z=>n k o fun e=>Z (.inr (.inr (.inl e))),fun k o=>?_⟩
 rcases o with h|h|h|h|h|h
 ·exact .inl (.inl h)
 ·exact .inl (.inr (.inl h))
 ·exact D.elim (fun e=>.inl (.inr (.inr (.inl (e.symm.trans h))))) fun e=>.inr (by have:W.heap.size=k:=Option.some.inj (e.symm.trans h);omega)
 ·exact .inl (.inr (.inr (.inr (.inl h))))
 ·exact .inl (.inr (.inr (.inr (.inr (.inl h)))))
 ·exact .inl (.inr (.inr (.inr (.inr (.inr h)))))
theorem Mem.grow_st {C:Cx} {X J A:Nat} {S:Sv} {q:PS} {w W V E:World} (j:Mem C X J A S q w) (N:Below w.heap.size w W) (M:W.grownBy V S.st.blk) {D:Rw} {x:Sm} (Y:OwnR V A 106 3 D (q.st.length+1) (q.st.flatMap smL++smL x)) (H:D.blk=S.st.blk∨D.blk=some W.heap.size) (z:Off w.heap.size W.heap.size V E) (Z:q.st.length<80):
  Mem C X J A {S with st:=D} {q with st:=q.st++[x]} E∧Stp S w {S with st:=D} E:=by
 have O:=N.size
 have K:=M.size
 have n: ∀k,k<w.heap.size→S.st.blk≠some k→E.heap[k]? =w.heap[k]?:=fun k o U=>
  (z.block k (.inl o)).trans ((M.block k (by omega) fun e=>U e.symm).trans (N.block k o))
 have L:OwnR E A 106 3 D (q.st.length+1) (q.st.flatMap smL++smL x):=Y.keep fun k o=>z.block k (by
  rcases H with e|e
  ·rw[e] at o
   exact .inl (j.own.st.typed o).2.1
  ·rw[e] at o
   obtain rfl:=Option.some.inj o
   exact .inr ⟨Nat.le_refl _,(Y.typed e).2.1⟩)
 have I:(q.st++[x]).length=q.st.length+1:=by simp
 refine⟨⟨⟨j.own.rq.keep fun k o=>n k (j.own.rq.typed o).2.1 (j.own.rq.ne j.own.st (by decide) o),j.own.im.keep fun k o=>n k (j.own.im.typed o).2.1 (j.own.im.ne j.own.st (by decide) o),j.own.ep.keep fun k o=>n k (j.own.ep.typed o).2.1 (j.own.ep.ne j.own.st (by decide) o),by show OwnR E A 106 3 D (q.st++[x]).length _;rw[I];simpa using L,j.own.ex.keep fun k o=>n k (j.own.ex.typed o).2.1 (j.own.ex.ne j.own.st (by decide) o),j.own.la.keep fun k o=>n k (j.own.la.typed o).2.1 (j.own.la.ne j.own.st (by decide) o),j.own.apart⟩,⟨j.inv.pos,j.inv.rq,j.inv.im,j.inv.ep,by simp;omega,j.inv.ex⟩,zbs j.tok (n X (zak j.tok).1 fun e=>j.gt_free (.inr (.inr (.inr (.inl e))))),j.few,Nat.le_trans j.base (by have:=z.size;omega)⟩,?_⟩
 refine⟨z.os.trans (M.os.trans N.os),z.tape.trans (M.tape.trans N.tape),z.output.trans (M.output.trans N.output),Nat.le_trans (Nat.le_trans O K) z.size,fun k o Z=>n k o fun e=>Z (.inr (.inr (.inr (.inl e)))),fun k o=>?_⟩
 rcases o with h|h|h|h|h|h
 ·exact .inl (.inl h)
 ·exact .inl (.inr (.inl h))
 ·exact .inl (.inr (.inr (.inl h)))
 ·exact H.elim (fun e=>.inl (.inr (.inr (.inr (.inl (e.symm.trans h)))))) fun e=>.inr (by have:W.heap.size=k:=Option.some.inj (e.symm.trans h);omega)
 ·exact .inl (.inr (.inr (.inr (.inr (.inl h)))))
 ·exact .inl (.inr (.inr (.inr (.inr (.inr h)))))
theorem Mem.grow_ex {C:Cx} {X J A:Nat} {S:Sv} {q:PS} {w W V E:World} (j:Mem C X J A S q w) (N:Below w.heap.size w W) (M:W.grownBy V S.ex.blk) {D:Rw} {x:Ex} (Y:OwnR V A 108 6 D (q.ex.length+1) (q.ex.flatMap exL++exL x)) (H:D.blk=S.ex.blk∨D.blk=some W.heap.size) (z:Off w.heap.size W.heap.size V E) (Z:q.ex.length<300):
  Mem C X J A {S with ex:=D} {q with ex:=q.ex++[x]} E∧Stp S w {S with ex:=D} E:=by
 have O:=N.size
 have K:=M.size
 have n: ∀k,k<w.heap.size→S.ex.blk≠some k→E.heap[k]? =w.heap[k]?:=fun k o U=>
  (z.block k (.inl o)).trans ((M.block k (by omega) fun e=>U e.symm).trans (N.block k o))
 have L:OwnR E A 108 6 D (q.ex.length+1) (q.ex.flatMap exL++exL x):=Y.keep fun k o=>z.block k (by
  rcases H with e|e
  ·rw[e] at o
   exact .inl (j.own.ex.typed o).2.1
  ·rw[e] at o
   obtain rfl:=Option.some.inj o
   exact .inr ⟨Nat.le_refl _,(Y.typed e).2.1⟩)
 have I:(q.ex++[x]).length=q.ex.length+1:=by simp
 refine⟨⟨⟨j.own.rq.keep fun k o=>n k (j.own.rq.typed o).2.1 (j.own.rq.ne j.own.ex (by decide) o),j.own.im.keep fun k o=>n k (j.own.im.typed o).2.1 (j.own.im.ne j.own.ex (by decide) o),j.own.ep.keep fun k o=>n k (j.own.ep.typed o).2.1 (j.own.ep.ne j.own.ex (by decide) o),j.own.st.keep fun k o=>n k (j.own.st.typed o).2.1 (j.own.st.ne j.own.ex (by decide) o),by show OwnR E A 108 6 D (q.ex++[x]).length _;rw[I];simpa using L,j.own.la.keep fun k o=>n k (j.own.la.typed o).2.1 (j.own.la.ne j.own.ex (by decide) o),j.own.apart⟩,⟨j.inv.pos,j.inv.rq,j.inv.im,j.inv.ep,j.inv.st,by simp;omega⟩,zbs j.tok (n X (zak j.tok).1 fun e=>j.gt_free (.inr (.inr (.inr (.inr (.inl e)))))),j.few,Nat.le_trans j.base (by have:=z.size;omega)⟩,?_⟩
 refine⟨z.os.trans (M.os.trans N.os),z.tape.trans (M.tape.trans N.tape),z.output.trans (M.output.trans N.output),Nat.le_trans (Nat.le_trans O K) z.size,fun k o Z=>n k o fun e=>Z (.inr (.inr (.inr (.inr (.inl e))))),fun k o=>?_⟩
 rcases o with h|h|h|h|h|h
 ·exact .inl (.inl h)
 ·exact .inl (.inr (.inl h))
 ·exact .inl (.inr (.inr (.inl h)))
 ·exact .inl (.inr (.inr (.inr (.inl h))))
 ·exact H.elim (fun e=>.inl (.inr (.inr (.inr (.inr (.inl (e.symm.trans h))))))) fun e=>.inr (by have:W.heap.size=k:=Option.some.inj (e.symm.trans h);omega)
 ·exact .inl (.inr (.inr (.inr (.inr (.inr h)))))
theorem Mem.grow_la {C:Cx} {X J A:Nat} {S:Sv} {q:PS} {w W V H:World} (j:Mem C X J A S q w) (N:Below w.heap.size w W) (M:W.grownBy V S.la.blk) {E:Rw} {x:Ep} (Y:OwnR V A 102 4 E (q.la.length+1) (q.la.flatMap epL++epL x)) (D:E.blk=S.la.blk∨E.blk=some W.heap.size) (z:Off w.heap.size W.heap.size V H) (Z:q.ep.length+q.la.length<40):
  Mem C X J A {S with la:=E} {q with la:=q.la++[x]} H∧Stp S w {S with la:=E} H:=by
 have O:=N.size
 have K:=M.size
 have n: ∀k,k<w.heap.size→S.la.blk≠some k→H.heap[k]? =w.heap[k]?:=fun k o U=>
  (z.block k (.inl o)).trans ((M.block k (by omega) fun e=>U e.symm).trans (N.block k o))
 have L:OwnR H A 102 4 E (q.la.length+1) (q.la.flatMap epL++epL x):=Y.keep fun k o=>z.block k (by
  rcases D with e|e
  ·rw[e] at o
   exact .inl (j.own.la.typed o).2.1
  ·rw[e] at o
   obtain rfl:=Option.some.inj o
   exact .inr ⟨Nat.le_refl _,(Y.typed e).2.1⟩)
 have I:(q.la++[x]).length=q.la.length+1:=by simp
 refine⟨⟨⟨j.own.rq.keep fun k o=>n k (j.own.rq.typed o).2.1 (j.own.rq.ne j.own.la (by decide) o),j.own.im.keep fun k o=>n k (j.own.im.typed o).2.1 (j.own.im.ne j.own.la (by decide) o),j.own.ep.keep fun k o=>n k (j.own.ep.typed o).2.1 (fun e=>j.own.apart k o e),j.own.st.keep fun k o=>n k (j.own.st.typed o).2.1 (j.own.st.ne j.own.la (by decide) o),j.own.ex.keep fun k o=>n k (j.own.ex.typed o).2.1 (j.own.ex.ne j.own.la (by decide) o),by show OwnR H A 102 4 E (q.la++[x]).length _;rw[I];simpa using L,fun k o hl=>D.elim (fun e=>j.own.apart k o (by rw[←e];exact hl)) fun e=>by have h1:=(j.own.ep.typed o).2.1;have h2:W.heap.size=k:=Option.some.inj (e.symm.trans hl);omega⟩,⟨j.inv.pos,j.inv.rq,j.inv.im,by have:=j.inv.ep;simp;omega,j.inv.st,j.inv.ex⟩,zbs j.tok (n X (zak j.tok).1 fun e=>j.gt_free (.inr (.inr (.inr (.inr (.inr e)))))),j.few,Nat.le_trans j.base (by have:=z.size;omega)⟩,?_⟩
 refine⟨z.os.trans (M.os.trans N.os),z.tape.trans (M.tape.trans N.tape),z.output.trans (M.output.trans N.output),Nat.le_trans (Nat.le_trans O K) z.size,fun k o Z=>n k o fun e=>Z (.inr (.inr (.inr (.inr (.inr e))))),fun k o=>?_⟩
 rcases o with h|h|h|h|h|h
 ·exact .inl (.inl h)
 ·exact .inl (.inr (.inl h))
 ·exact .inl (.inr (.inr (.inl h)))
 ·exact .inl (.inr (.inr (.inr (.inl h))))
 ·exact .inl (.inr (.inr (.inr (.inr (.inl h)))))
 ·exact D.elim (fun e=>.inl (.inr (.inr (.inr (.inr (.inr (e.symm.trans h))))))) fun e=>.inr (by have:W.heap.size=k:=Option.some.inj (e.symm.trans h);omega)
abbrev PRN:=Except Nat (PS×ByteArray)
def zaG (y:PRN):PR:=bd y fun a=>.ok a.1
def withN (y:PRN) (F:PR→ByteArray→PR):PRN:=bd y fun a=>bd (F (.ok a.1) a.2) fun q=>.ok (q,a.2)
def zcm (C:Cx) (q:PS):PRN:=withN (bd (zd C 1 zA q) (zh C false)) fun x n=>bd (bd (bd (bd x (zd C 4 cEq)) (pE C .sum 0)) (zd C 4 cSemi)) (zX C 1 n)
def fnP (C:Cx) (q:PS):PRN:=
 withN (bd (zd C 1 zO q) (zh C false)) fun x n=>bd (bd (bd (bd (bd (bd (bd (bd x (zd C 4 zm)) (zd C 4 zay)) (zd C 4 zF)) (zd C 1 zd6)) (pE C .sum 0)) (zd C 4 cSemi)) (zd C 4 zbd)) (zX C 2 n)
def asP (C:Cx) (exp:Bool) (a:PS×ByteArray):PRN:=
 if isT C a.1.pos 1 sAs then zh C exp (adv a.1)
 else if (a.2.toList==[100,101,102,97,117,108,116])&& !exp then .error (zq C a.1.pos) else .ok a
abbrev PRL:=Except Nat (PS×List Ep)
def zcJ (C:Cx) (exp:Bool):Nat→PS→List Ep→PRL
 |0,_,_=>.error 0
 |f+1,q,acc=>bd (zh C true q) fun a=>bd (asP C exp a) fun b=>
  if isT C b.1.pos 4 zbp then zcJ C exp f (adv b.1) (acc++[⟨0,b.2,a.2,sNone⟩]) else bd (zd C 4 zbd b.1) fun q'=>.ok (q',acc++[⟨0,b.2,a.2,sNone⟩])
def zav (C:Cx) (exp:Bool) (q:PS) (acc:List Ep):PRL:=zcJ C exp (C.ts.length-q.pos+1) q acc
def zcz (C:Cx) (exp:Bool) (q:PS):PRL:=bd (zd C 4 zF q) fun q'=>zav C exp q' []
def za5 (l:List Ep):Bool:=l.any fun x=>x.loc.toList==[100,101,102,97,117,108,116]
theorem zej {C:Cx} {j:Bool} {a b:PS×ByteArray} (h:asP C j a= .ok b):a.1.pos≤b.1.pos:=by
 unfold asP at h
 split at h
 ·obtain⟨rfl,_⟩:=zbe h
  show a.1.pos≤a.1.pos+1+1
  omega
 ·split at h
  ·cases h
  ·cases h
   exact Nat.le_refl _
theorem zjT {C:Cx} {j:Bool} (f:Nat): ∀(g:Nat) (q:PS) (acc:List Ep),C.ts.length-q.pos<f→C.ts.length-q.pos<g→zcJ C j f q acc=zcJ C j g q acc:=by
 induction f with
 |zero=>intro g q acc h;omega
 |succ f o=>
  intro g q acc I K
  obtain⟨g,rfl⟩: ∃w,g=w+1:=⟨g-1,by omega⟩
  rw[zcJ,zcJ]
  refine zZ fun a z=>zZ fun b D=>?_
  split
  ·next n=>
   obtain⟨rfl,A⟩:=zbe z
   have E:=zej D
   have H:=zaz n (by decide)
   have J:=zed A
   simp only[zw] at E
   exact o g _ _ (by rw[zw];omega) (by rw[zw];omega)
  ·rfl
theorem zeO (C:Cx) (h:Bool) (q:PS) (acc:List Ep):zav C h q acc=bd (zh C true q) fun a=>bd (asP C h a) fun b=>
  if isT C b.1.pos 4 zbp then zav C h (adv b.1) (acc++[⟨0,b.2,a.2,sNone⟩]) else bd (zd C 4 zbd b.1) fun q'=>.ok (q',acc++[⟨0,b.2,a.2,sNone⟩]):=by
 rw[zav,zcJ]
 refine zZ fun a n=>zZ fun b w=>?_
 split
 ·next j=>
  obtain⟨rfl,o⟩:=zbe n
  have z:=zej w
  have A:=zaz j (by decide)
  have D:=zed o
  simp only[zw] at z
  exact zjT _ _ _ _ (by rw[zw];omega) (by rw[zw];omega)
 ·rfl
def zR {α:Type} (f:α→PS→PR):List α→PR→PR
 |[],x=>x
 |a::l,x=>zR f l (bd x (f a))
def zb8 (s:ByteArray) (e:Ep):Im:=⟨s,e.loc,e.name⟩
def zaA (C:Cx) (x:PR):PRN:=bd (bd x (zd C 1 zP)) (zG C)
def zaQ (C:Cx) (y:PRN):PRN:=bd y fun a=>bd (zd C 4 cSemi a.1) fun q=>.ok (q,a.2)
def zaK (C:Cx) (q:PS):PR:=
 bd (zd C 1 zae q) fun q=>
  if isT C q.pos 4 zF then bd (zcz C false q) fun a=>bd (zaQ C (zaA C (.ok a.1))) fun b=>zR (fun e=>zao C (zb8 b.2 e)) a.2 (.ok b.1)
  else if isT C q.pos 4 zv then bd (bd (bd (zd C 4 zv q) (zd C 1 sAs)) (zh C false)) fun a=>bd (zaQ C (zaA C (.ok a.1))) fun b=>zao C ⟨b.2,zv,a.2⟩ b.1
  else if zB C q.pos false then bd (zh C false q) fun a=>bd (zaQ C (zaA C (.ok a.1))) fun b=>zao C ⟨b.2,sDefault,a.2⟩ b.1
  else bd (zG C q) fun a=>zd C 4 cSemi a.1
def zz (e:Ep):Ep:=⟨1,e.name,e.loc,sNone⟩
def zal (s:ByteArray) (e:Ep):Ep:=⟨2,e.name,e.loc,s⟩
def zaf (C:Cx) (q:PS):PR:=
 bd (zd C 1 zad q) fun q=>
  if isT C q.pos 4 zF then bd (zcz C true q) fun a=>
   if !za5 a.2&& !isT C a.1.pos 1 zP then bd (zd C 4 cSemi a.1) fun q=>zR (fun e=>zn C (zz e)) a.2 (.ok q)
   else bd (zaQ C (zaA C (.ok a.1))) fun b=>zR (fun e=>zn C (zal b.2 e)) a.2 (.ok b.1)
  else if isT C q.pos 4 zv then bd (zaQ C (zaA C (zd C 4 zv q))) fun b=>zn C ⟨3,sNone,sNone,b.2⟩ b.1
  else if isT C q.pos 1 sDefault then bd (bd (bd (bd (zd C 1 sDefault q) (pE C .sum 0)) (zd C 4 cSemi)) (zX C 1 zbG)) (zn C ⟨1,sDefault,zbG,sNone⟩)
  else if isT C q.pos 1 zA then bd (zcm C q) fun a=>zn C ⟨1,a.2,a.2,sNone⟩ a.1
  else if isT C q.pos 1 zO then bd (fnP C q) fun a=>zn C ⟨1,a.2,a.2,sNone⟩ a.1
  else .error (zq C q.pos)
def zy (C:Cx) (q:PS):PR:=
 if !C.scr&&isT C q.pos 1 zae then zaK C q
 else if !C.scr&&isT C q.pos 1 zad then zaf C q
 else if isT C q.pos 1 zA then zaG (zcm C q)
 else if isT C q.pos 1 zO then zaG (fnP C q)
 else if isT C q.pos 1 zap then bd (bd (bd (bd (bd (zd C 1 zap q) (zd C 4 zm)) (pE C .sum 0)) (zd C 4 zay)) (zd C 4 cSemi)) (zX C 4 sNone)
 else if isT C q.pos 1 za0 then bd (bd (bd (zd C 1 za0 q) (pE C .sum 0)) (zd C 4 cSemi)) (zX C 5 sNone)
 else if C.scr&&isT C q.pos 1 zby then bd (bd (bd (zd C 1 zby q) (pE C .sum 0)) (zd C 4 cSemi)) (zX C 6 sNone)
 else bd (zh C false q) fun a=>bd (bd (bd (zd C 4 cEq a.1) (pE C .sum 0)) (zd C 4 cSemi)) (zX C 3 a.2)
theorem zaw {C:Cx} {k:Int} {s:ByteArray} {q q':PS} (h:zd C k s q= .ok q'):q.pos+1=q'.pos:=by
 obtain⟨rfl,_⟩:=zb0 h
 rfl
theorem zdB {C:Cx} {o:Bool} {q:PS} {a:PS×ByteArray} (h:zh C o q= .ok a):q.pos+1=a.1.pos:=by
 obtain⟨rfl,_⟩:=zbe h
 rfl
theorem zgO {C:Cx} {q:PS} {a:PS×ByteArray} (h:zG C q= .ok a):q.pos+1=a.1.pos:=by
 unfold zG at h
 split at h
 ·split at h
  ·cases h;rfl
  ·split at h
   ·cases h
   ·cases h;rfl
 ·cases h
theorem zdC {C:Cx} {k:Int} {n:ByteArray} {q q':PS} (h:zX C k n q= .ok q'):q.pos=q'.pos:=by
 unfold zX at h
 split at h
 ·cases h
 ·cases h;rfl
theorem zfH {C:Cx} {y:Im} {q q':PS} (h:zao C y q= .ok q'):q.pos=q'.pos:=by
 unfold zao at h
 split at h
 ·cases h
 ·cases h;rfl
theorem zdD {C:Cx} {y:Ep} {q q':PS} (h:zn C y q= .ok q'):q.pos=q'.pos:=by
 unfold zn at h
 split at h
 ·cases h
 ·split at h
  ·cases h;rfl
  ·cases h;rfl
theorem zfI {α:Type} {f:α→PS→PR} (o: ∀a q q',f a q= .ok q'→q.pos=q'.pos) (l:List α): ∀(x:PR) (q':PS),zR f l x= .ok q'→∃q,x= .ok q∧q.pos=q'.pos:=by
 induction l with
 |nil=>intro x q' h;exact⟨q',h,rfl⟩
 |cons a l n=>
  intro x q' h
  obtain⟨b,w,A⟩:=n _ _ h
  obtain⟨c,z,j⟩:=zi w
  exact⟨c,z,(o _ _ _ j).trans A⟩
theorem zgP {C:Cx} {j:Bool} (m:Nat): ∀(q:PS) (acc:List Ep) (a:PS×List Ep),C.ts.length-q.pos<m→zav C j q acc= .ok a→q.pos≤a.1.pos:=by
 induction m with
 |zero=>intro q acc a h;omega
 |succ m w=>
  intro q acc a K h
  rw[zeO] at h
  obtain⟨b,z,I⟩:=zi h
  obtain⟨c,E,n⟩:=zi I
  have L:=zdB z
  have J:=zej E
  split at n
  ·next o=>
   have D:=zaz o (by decide)
   have:=w _ _ _ (by rw[zw];omega) n
   rw[zw] at this
   omega
  ·obtain⟨d,H,A⟩:=zi n
   have D:=zaw H
   cases A
   show q.pos≤d.pos
   omega
theorem zek {C:Cx} {x:PR} {b:PS×ByteArray} (h:zaQ C (zaA C x)= .ok b): ∃q,x= .ok q∧q.pos≤b.1.pos:=by
 obtain⟨a,w,E⟩:=zi h
 obtain⟨c,z,n⟩:=zi E
 obtain⟨d,j,A⟩:=zi w
 obtain⟨e,o,D⟩:=zi j
 have J:=zaw z
 have I:=zgO A
 have H:=zaw D
 cases n
 exact⟨e,o,by show e.pos≤c.pos;omega⟩
theorem zjU {C:Cx} {q q':PS} (h:zaK C q= .ok q'):q.pos<q'.pos:=by
 obtain⟨U,M,w⟩:=zi h
 have V:=zaw M
 split at w
 ·obtain⟨a,o,n⟩:=zi w
  obtain⟨b,z,D⟩:=zi n
  obtain⟨c,H,L⟩:=zi o
  obtain⟨d,I,A⟩:=zek z
  obtain⟨f,j,E⟩:=zfI (fun _ _ _ h=>zfH h) _ _ _ D
  have K:=zaw H
  have J:=zgP _ _ _ _ (Nat.lt_succ_self _) L
  cases I
  cases j
  omega
 ·split at w
  ·obtain⟨a,o,n⟩:=zi w
   obtain⟨b,z,D⟩:=zi n
   obtain⟨c,H,L⟩:=zi o
   obtain⟨d,I,A⟩:=zi H
   obtain⟨f,j,E⟩:=zek z
   have K:=zfH D
   have J:=zdB L
   have O:=zaw I
   have N:=zaw A
   cases j
   omega
  ·split at w
   ·obtain⟨a,o,n⟩:=zi w
    obtain⟨b,z,D⟩:=zi n
    obtain⟨f,j,E⟩:=zek z
    have K:=zfH D
    have J:=zdB o
    cases j
    omega
   ·obtain⟨a,o,n⟩:=zi w
    have K:=zgO o
    have J:=zaw n
    omega
theorem zgQ {y:PRN} {F:PR→ByteArray→PR} {a:PS×ByteArray} (h:withN y F= .ok a): ∃b,y= .ok b∧F (.ok b.1) b.2= .ok a.1:=by
 obtain⟨b,n,q⟩:=zi h
 obtain⟨c,j,o⟩:=zi q
 cases o
 exact⟨b,n,j⟩
theorem zgR {C:Cx} {q:PS} {a:PS×ByteArray} (h:zcm C q= .ok a):q.pos<a.1.pos:=by
 obtain⟨b,z,I⟩:=zgQ h
 obtain⟨c,A,o⟩:=zi z
 obtain⟨d,n,D⟩:=zi I
 obtain⟨f,w,H⟩:=zi n
 obtain⟨g,E,j⟩:=zi w
 have O:=zaw A
 have N:=zdB o
 have M:=zaw (show zd C 4 cEq b.1= .ok g from E)
 have K:=zaP j
 have J:=zaw H
 have L:=zdC D
 omega
theorem zgS {C:Cx} {q:PS} {a:PS×ByteArray} (h:fnP C q= .ok a):q.pos<a.1.pos:=by
 obtain⟨b,O,V⟩:=zgQ h
 obtain⟨c,J,M⟩:=zi O
 obtain⟨d,U,K⟩:=zi V
 obtain⟨f,N,Y⟩:=zi U
 obtain⟨g,L,z⟩:=zi N
 obtain⟨i,w,H⟩:=zi L
 obtain⟨j,E,n⟩:=zi w
 obtain⟨k,A,D⟩:=zi E
 obtain⟨l,I,o⟩:=zi A
 have e1:=zaw J
 have e2:=zdB M
 have e3:=zaw (show zd C 4 zm b.1= .ok l from I)
 have e4:=zaw o
 have e5:=zaw D
 have Z:=zaw n
 have e7:=zaP H
 have e8:=zaw z
 have e9:=zaw Y
 have X:=zdC K
 omega
theorem zjV {C:Cx} {q q':PS} (h:zaf C q= .ok q'):q.pos<q'.pos:=by
 obtain⟨U,M,j⟩:=zi h
 have V:=zaw M
 split at j
 ·obtain⟨a,D,n⟩:=zi j
  obtain⟨c,J,L⟩:=zi D
  have I:=zaw J
  have H:=zgP _ _ _ _ (Nat.lt_succ_self _) L
  split at n
  ·obtain⟨b,w,o⟩:=zi n
   obtain⟨f,z,K⟩:=zfI (fun _ _ _ h=>zdD h) _ _ _ o
   have N:=zaw w
   cases z
   omega
  ·obtain⟨b,w,o⟩:=zi n
   obtain⟨d,E,A⟩:=zek w
   obtain⟨f,z,K⟩:=zfI (fun _ _ _ h=>zdD h) _ _ _ o
   cases E
   cases z
   omega
 ·split at j
  ·obtain⟨b,w,o⟩:=zi j
   obtain⟨d,E,A⟩:=zek w
   have I:=zaw E
   have H:=zdD o
   omega
  ·split at j
   ·obtain⟨a,D,n⟩:=zi j
    obtain⟨b,w,o⟩:=zi D
    obtain⟨c,J,L⟩:=zi w
    obtain⟨d,E,A⟩:=zi J
    have I:=zaw E
    have H:=zaP A
    have N:=zaw L
    have X:=zdC o
    have O:=zdD n
    omega
   ·split at j
    ·obtain⟨a,D,n⟩:=zi j
     have I:=zgR D
     have H:=zdD n
     omega
    ·split at j
     ·obtain⟨a,D,n⟩:=zi j
      have I:=zgS D
      have H:=zdD n
      omega
     ·cases j
theorem zgT {C:Cx} {s:ByteArray} {k:Int} {n:ByteArray} {q q':PS} (h:bd (bd (bd (zd C 1 s q) (pE C .sum 0)) (zd C 4 cSemi)) (zX C k n)= .ok q'):q.pos<q'.pos:=by
 obtain⟨a,o,D⟩:=zi h
 obtain⟨b,z,j⟩:=zi o
 obtain⟨c,A,w⟩:=zi z
 have J:=zaw A
 have H:=zaP w
 have I:=zaw j
 have E:=zdC D
 omega
theorem zeP {C:Cx} {q q':PS} (h:zy C q= .ok q'):q.pos<q'.pos:=by
 unfold zy at h
 split at h
 ·exact zjU h
 ·split at h
  ·exact zjV h
  ·split at h
   ·obtain⟨a,j,n⟩:=zi h
    cases n
    exact zgR j
   ·split at h
    ·obtain⟨a,j,n⟩:=zi h
     cases n
     exact zgS j
    ·split at h
     ·obtain⟨a,j,n⟩:=zi h
      obtain⟨b,D,w⟩:=zi j
      obtain⟨c,o,E⟩:=zi D
      obtain⟨d,A,H⟩:=zi o
      obtain⟨e,K,z⟩:=zi A
      have N:=zaw K
      have M:=zaw z
      have L:=zaP H
      have J:=zaw E
      have I:=zaw w
      have O:=zdC n
      omega
     ·split at h
      ·exact zgT h
      ·split at h
       ·exact zgT h
       ·obtain⟨a,j,n⟩:=zi h
        obtain⟨b,D,w⟩:=zi n
        obtain⟨c,o,E⟩:=zi D
        obtain⟨d,A,H⟩:=zi o
        have N:=zdB j
        have M:=zaw A
        have L:=zaP H
        have J:=zaw E
        have I:=zdC w
        omega
def zcK (C:Cx):Nat→PS→PR
 |0,_=>.error 0
 |f+1,q=>if q.pos<C.ts.length then bd (zy C q) (zcK C f) else .ok q
def zaq (C:Cx) (q:PS):PR:=zcK C (C.ts.length-q.pos+1) q
theorem zjW {C:Cx} (f:Nat): ∀(g:Nat) (q:PS),C.ts.length-q.pos<f→C.ts.length-q.pos<g→zcK C f q=zcK C g q:=by
 induction f with
 |zero=>intro g q h;omega
 |succ f j=>
  intro g q w z
  obtain⟨g,rfl⟩: ∃n,g=n+1:=⟨g-1,by omega⟩
  rw[zcK,zcK]
  split
  ·refine zZ fun a o=>?_
   have:=zeP o
   exact j g a (by omega) (by omega)
  ·rfl
theorem zeQ (C:Cx) (q:PS):zaq C q=if q.pos<C.ts.length then bd (zy C q) (zaq C) else .ok q:=by
 rw[zaq,zcK]
 split
 ·refine zZ fun a h=>?_
  have:=zeP h
  exact zjW _ _ _ (by omega) (by omega)
 ·rfl
def zb3:PS:=⟨0,[],[],[],[],[],[]⟩
def zb4 (s:ByteArray) (scr:Bool) (y:PR):Prop:=∃r,zac s scr r∧y=match r with
 | .error p=>.error p
 | .ok ts=>zaq ⟨ts,s.size,scr⟩ zb3
theorem zgU {s:ByteArray} {h:Bool} {n j:PR} (q:zb4 s h n) (z:zb4 s h j):n=j:=by
 obtain⟨A,o,rfl⟩:=q
 obtain⟨D,w,rfl⟩:=z
 obtain rfl:=zjC o w
 rfl
theorem zjX {s:ByteArray} {w:Bool} {a n:Nat} {r:Except Nat (List Tk)} (h:Lx s w a n r): ∀o,r= .ok o→n≤4000→o.length+n≤4000:=by
 induction h using Lx.ind with
 |done=>intro o q z;cases q;simpa using z
 |bad _ _=>intro o q z;cases q
 | @tok a n e b t r h z E D q A=>
  intro o j _
  cases r with
  |error p=>simp[Except.map] at j
  |ok l=>
   simp only[Except.map,Except.ok.injEq] at j
   subst j
   have:=A l rfl (by omega)
   simp only[List.length_cons]
   omega
theorem zgV {s:ByteArray} {j:Bool} {n:List Tk} (h:zac s j (.ok n)):n.length≤4000:=by
 obtain⟨a,_,o⟩:=h
 have:=zjX o n rfl (by omega)
 omega
def R0:Rw:=⟨none,0⟩
def S0:Sv:=⟨R0,R0,R0,R0,R0,R0⟩
theorem zdE (w:World) (h size:Nat) (e:TypeId):OwnR w h e size R0 0 []:=World.ownsRow_nil w h e size
theorem zjY (w:World) (j:Nat):Own w j S0 zb3:=
 ⟨zdE _ _ _ _,zdE _ _ _ _,zdE _ _ _ _,zdE _ _ _ _,zdE _ _ _ _,zdE _ _ _ _,fun k h=>by simp[S0,R0,Rw.blk,Value.ownBlock] at h⟩
theorem zgW {w:World} {j g o:Nat} {q:List Tk} {n:Nat} {z:Bool} (h:OwnT w j 111 g q.length o q) (A:q.length≤4000) (D:j≤w.heap.size):Mem ⟨q,n,z⟩ g o j S0 zb3 w:=
 ⟨zjY _ _,⟨Nat.zero_le _,Nat.zero_le _,Nat.zero_le _,Nat.zero_le _,Nat.zero_le _,Nat.zero_le _⟩,h,A,D⟩
structure OwnMod (w:World) (base:Nat) (S:Sv) (q:PS):Prop where
 rq:OwnR w base 9 1 S.rq q.rq.length (q.rq.map .string)
 im:OwnR w base 100 3 S.im q.im.length (q.im.flatMap imL)
 ep:OwnR w base 102 4 S.ep (q.ep++q.la).length ((q.ep++q.la).flatMap epL)
 st:OwnR w base 106 3 S.st q.st.length (q.st.flatMap smL)
 ex:OwnR w base 108 6 S.ex q.ex.length (q.ex.flatMap exL)
 inv:q.rq.length≤40∧q.im.length≤40∧q.ep.length+q.la.length≤40∧q.st.length≤80∧q.ex.length≤300
def zeR (S:Sv) (q:PS):Value:=.agg #[.slice S.rq.a q.rq.length S.rq.cap,.slice S.im.a q.im.length S.im.cap,.slice S.ep.a (q.ep++q.la).length S.ep.cap,.slice S.st.a q.st.length S.st.cap,.slice S.ex.a q.ex.length S.ex.cap]
def ParseOut (s:ByteArray) (scr:Bool) (w:World) (e:Ending) (w':World):Prop:=
 ∃y,zb4 s scr y∧match y with
  | .ok q=>∃S,e= .returned (.tuple #[zeR S q,.int .i64 (-1)])∧OwnMod w' w.heap.size S q
  | .error p=>e= .returned (.tuple #[.agg #[.slice none 0 0,.slice none 0 0,.slice none 0 0,.slice none 0 0,.slice none 0 0],.int .i64 p])
theorem OwnR.low {w:World} {o j size n:Nat} {e:TypeId} {r:Rw} {xs:List Value} (h:OwnR w o e size r n xs) (E:j≤o):OwnR w j e size r n xs:=by
 refine⟨h.1,?_⟩
 rcases h.2 with A|⟨g,q,z,A,D,rest⟩
 ·exact .inl A
 ·exact .inr ⟨g,q,z,A,Nat.le_trans E D,rest⟩
theorem OwnR.nil_or {w:World} {o size n:Nat} {e:TypeId} {r:Rw} {xs:List Value} (h:OwnR w o e size r n xs):(r.a=none∧r.cap=0∧n=0)∨∃g,r.a=some ⟨g,0,none⟩:=by
 rcases h.2 with ⟨j,z⟩|⟨g,q,A,j,_⟩
 ·simp only[Value.slice.injEq] at j
  exact .inl ⟨j.1,j.2.2,z⟩
 ·simp only[Value.slice.injEq] at j
  exact .inr ⟨g,j.1⟩
theorem zjZ {P:Program} (W:World) {O:Array Oper} {rest:List Oper} {o:Oper} {a:Act} {Q:Exit→Act→World→Prop} (Y:o.guard=none) (s x:Operand) (t:TypeId)
  (ho:o.op= .call {callee:=.builtin .append,args:=#[s,x],argTypes:=#[t,t]})
  (A:Nat) (e:TypeId) (i:TypeInfo) (z:Value) (size q:Nat) (ht:P.underlying t=some (.slice e)) (hi:P.info? e=some i) (hz:i.zero=some z) (H:i.size=size) (aa:i.bytes=q) (ac:z.cells.size=size) (X:0<size) (K:q≤100)
  (r:Rw) (n:Nat) (xs:List Value) (hs:a.eval s= .slice r.a n r.cap) (M:OwnR W A e size r n xs)
  (N m c I:Nat) (w:List Value) (hx:a.eval x= .slice (some ⟨N,0,none⟩) m c) (hg:OwnR W I e size ⟨some ⟨N,0,none⟩,c⟩ m w) (h1: ∀u∈w,u.oneCell'=true) (hn:n+m≤1000000) (E:A≤W.heap.size)
  (h: ∀L J,OwnR J A e size L (n+m) (xs++w)→W.grownBy J r.blk→(L.blk=r.blk∨L.blk=some W.heap.size)→wpList P O Q rest (a.put o.dst (.slice L.a (n+m:Nat) L.cap)) J):
  wpList P O Q (o::rest) a W:=by
 refine wpList_append_own_at _ Y s x t ho A e i z size q ht hi hz H aa ac X _ n _ hs M ⟨N,0,none⟩ m c w hx hg.1 ?_ h1 ?_ ?_ E ?_
 ·intro j u hj
  have e1:(⟨N,0,none⟩:Addr).add j=⟨N,j,none⟩:=by simp[Addr.add];exact fun h=>h.symm
  have ab:j<w.length:=(List.getElem?_eq_some_iff.1 hj).1
  rw[e1,World.ownsRow.cellAt hg j (by rw[←hg.1];exact ab)]
  exact hj
 ·unfold maxLen;omega
 ·have:(n+m)*q≤1000000*100:=Nat.mul_le_mul hn K
  omega
 ·intro v' J V k2 k3 k4
  rcases V.2 with ⟨hv,U⟩|⟨g',D,ad,rfl,Z⟩
  ·subst hv
   have:=h ⟨none,0⟩ J (by rw[U] at V ⊢;exact V) (by rw[←zbh r n];exact k2) (by rw[←zbh r n];exact k4)
   rw[U] at this
   exact this
  ·refine h ⟨some ⟨g',0,none⟩,D⟩ J V ?_ ?_
   ·rw[←zbh r n];exact k2
   ·rw[←zbh r n,←zbh ⟨some ⟨g',0,none⟩,D⟩ (n+m)];exact k4
theorem zka {P:Program} (W:World) {q:Array Oper} {rest:List Oper} {o:Oper} {a:Act} {Q:Exit→Act→World→Prop} (z:o.guard=none) (s x:Operand) (t:TypeId)
  (I:o.op= .call {callee:=.builtin .append,args:=#[s,x],argTypes:=#[t,t]})
  (e:TypeId) (i:TypeInfo) (E:P.underlying t=some (.slice e)) (D:P.info? e=some i) (j size n:Nat)
  (r:Rw) (xs:List Value) (M:a.eval s= .slice r.a n r.cap) (w:OwnR W j e size r n xs) (H:a.eval x= .slice none 0 0)
  (h:wpList P q Q rest (a.put o.dst (.slice r.a n r.cap)) W):wpList P q Q (o::rest) a W:=by
 have U:(Builtin.append_ #[t,t] o.type #[.slice r.a n r.cap,.slice none 0 0]).run P W= .ok (.slice r.a n r.cap) W:=by
  rcases w.2 with ⟨A,_⟩|⟨g,L,N,A,_,_,J,_⟩
  ·rw[A]
   simp[Builtin.append_,run_underlying E,sizeOf,typeInfo,D,Builtin.lenOf,Builtin.firstCells]
  ·rw[A]
   simp[Builtin.append_,run_underlying E,sizeOf,typeInfo,D,Builtin.lenOf,Builtin.firstCells,loadCells,J,storeCells]
 refine wpList_plain z fun K O=>?_
 unfold Oper.wp execOp
 simp only[I,resolve,invoke,builtin,Sem.run_bind,Sem.run_pure,Result.andThen_ok,List.map_toArray,List.map_cons,List.map_nil,M,H,U]
 exact O _ _ h
theorem zfJ (l:List Ep): ∀u∈l.flatMap epL,u.oneCell'=true:=by
 intro u h
 rw[List.mem_flatMap] at h
 obtain⟨x,_,j⟩:=h
 simp[epL] at j
 rcases j with rfl|rfl|rfl|rfl<;>rfl
theorem Mem.whole {C:Cx} {V I j b B:Nat} {S:Sv} {q:PS} {W L K:World} {D:Rw} (z:Mem C V I j S q W) (X:W.grownBy L S.ep.blk) (O:OwnR L j 102 4 D (q.ep.length+q.la.length) (q.ep.flatMap epL++q.la.flatMap epL)) (H:D.blk=S.ep.blk∨D.blk=some W.heap.size) (hB:B<j) (hb:b<W.heap.size) (w: ¬S.has b)
  (N: ∀k,k≠B→k≠b→K.heap[k]? =L.heap[k]?):OwnMod K B {S with ep:=D} q:=by
 have A:(q.ep++q.la).length=q.ep.length+q.la.length:=by simp
 have E: ∀(r:Rw) (e:TypeId) (o n:Nat) (M:List Value),OwnR W j e o r n M→e≠102→(∀k,r.blk=some k→S.has k)→OwnR K B e o r n M:=fun r e o n M h U Y=>
  ((h.keep fun k g=>(N k (by have:=(h.typed g).1;omega) (fun J=>w (by rw[←J];exact Y k g))).trans (X.block k (h.typed g).2.1 fun Z=>(h.ne z.own.ep U g) Z.symm)).low (by omega))
 refine⟨E _ _ _ _ _ z.own.rq (by decide) fun k g=>.inl g,E _ _ _ _ _ z.own.im (by decide) fun k g=>.inr (.inl g),?_,E _ _ _ _ _ z.own.st (by decide) fun k g=>.inr (.inr (.inr (.inl g))),E _ _ _ _ _ z.own.ex (by decide) fun k g=>.inr (.inr (.inr (.inr (.inl g)))),z.inv.rq,z.inv.im,z.inv.ep,z.inv.st,z.inv.ex⟩
 rw[A,List.flatMap_append]
 refine (O.keep fun k g=>N k (by have:=(O.typed g).1;omega) ?_).low (by omega)
 rcases H with e|e
 ·intro J
  exact w (by rw[←J];exact .inr (.inr (.inl (by rw[←e];exact g))))
 ·have:W.heap.size=k:=Option.some.inj (e.symm.trans g)
  omega
theorem Mem.whole0 {C:Cx} {M E o b B:Nat} {S:Sv} {q:PS} {W H:World} (w:Mem C M E o S q W) (J:q.la=[]) (N:B<o) (z: ¬S.has b)
  (L: ∀k,k≠B→k≠b→H.heap[k]? =W.heap[k]?):OwnMod H B S q:=by
 have A: ∀(r:Rw) (e:TypeId) (j n:Nat) (D:List Value),OwnR W o e j r n D→(∀k,r.blk=some k→S.has k)→OwnR H B e j r n D:=fun r e j n D h I=>
  ((h.keep fun k g=>L k (by have:=(h.typed g).1;omega) (fun K=>z (by rw[←K];exact I k g))).low (by omega))
 refine⟨A _ _ _ _ _ w.own.rq fun k g=>.inl g,A _ _ _ _ _ w.own.im fun k g=>.inr (.inl g),?_,A _ _ _ _ _ w.own.st fun k g=>.inr (.inr (.inr (.inl g))),A _ _ _ _ _ w.own.ex fun k g=>.inr (.inr (.inr (.inr (.inl g)))),w.inv.rq,w.inv.im,w.inv.ep,w.inv.st,w.inv.ex⟩
 rw[J,List.append_nil]
 exact A _ _ _ _ _ w.own.ep fun k g=>.inr (.inr (.inl g))
theorem zk {w:World} {b:Nat} {t:TypeId} {n j o q z:Value} (h:w.heap[b]? =some (.cells #[n,j,o,q,z] t (0,0))):
  w.cell? ⟨b,0,none⟩=some n∧w.cell? ⟨b,1,none⟩=some j∧w.cell? ⟨b,2,none⟩=some o∧w.cell? ⟨b,3,none⟩=some q∧w.cell? ⟨b,4,none⟩=some z∧∀i,w.frozen? ⟨b,i,none⟩=false:=by
 refine⟨?_,?_,?_,?_,?_,fun i=>?_⟩<;>simp[World.cell?,World.frozen?,h]
theorem zas {w:World} {b i:Nat} {j:Array Value} {u:Value} {t:TypeId} (h:w.heap[b]? =some (.cells j t (0,0))):(w.setCell ⟨b,i,none⟩ u).heap[b]? =some (.cells (j.setIfInBounds i u) t (0,0)):=by
 simp only[World.setCell,Array.getElem?_modify]
 rw[if_pos trivial,h]
 rfl
theorem zcU {w:World} {b:Nat} {D A E H I o z q n j:Value} {t:TypeId} (h:w.heap[b]? =some (.cells #[D,A,E,H,I] t (0,0))):
  (((((w.setCell ⟨b,0,none⟩ o).setCell ⟨b,1,none⟩ z).setCell ⟨b,2,none⟩ q).setCell ⟨b,3,none⟩ n).setCell ⟨b,4,none⟩ j).heap[b]? =some (.cells #[o,z,q,n,j] t (0,0)):=by
 have e:=zas (i:=4) (u:=j) (zas (i:=3) (u:=n) (zas (i:=2) (u:=q) (zas (i:=1) (u:=z) (zas (i:=0) (u:=o) h))))
 rw[e]
 simp
theorem zdg {B:Nat} {a w:World} {b:Nat} (h:Below B a w) (j:B≤b) (q A z o n:Value):Below B a (((((w.setCell ⟨b,0,none⟩ q).setCell ⟨b,1,none⟩ A).setCell ⟨b,2,none⟩ z).setCell ⟨b,3,none⟩ o).setCell ⟨b,4,none⟩ n):=
 ((((h.setCell j _).setCell j _).setCell j _).setCell j _).setCell j _
end Go.Proofs.YticdggnnpjachaaGreat
