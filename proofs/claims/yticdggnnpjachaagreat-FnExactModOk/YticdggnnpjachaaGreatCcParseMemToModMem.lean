/-
  A program under way in memory: its six rows,what a step leaves as it was. No program is spoken of but for the numbers of its types.
  One of the six rows of a program under way grows by one element: what holds behind it. No program is spoken of but for the numbers of its types.
  Items of programs,as plain functions. No program is spoken of.
  A whole program,as a plain function of its tokens: items one behind the other. No program is spoken of.
  A text has at most 4000 tokens. No program is spoken of.
  A program in memory,as Parse hands it back. No program is spoken of but for the numbers of its types.
-/
import Derived.Maps.AppendAt
import Derived.Test.YticdggnnpjachaaGreatCcTokMem
namespace Go.Proofs.YticdggnnpjachaaGreat
open Go.RowKit Go.PlainAid
def imL (x:Im):List Value:=[.string x.spec,.string x.first,.string x.loc]
def epL (x:Ep):List Value:=[.int .i64 x.kind,.string x.name,.string x.loc,.string x.spec]
def smL (x:Sm):List Value:=[.int .i64 x.kind,.string x.name,.int .i64 x.expr]
def exL (x:Ex):List Value:=[.int .i64 x.kind,.int .i64 x.num,.string x.name,.string x.field,.int .i64 x.l,.int .i64 x.r]
structure Rw where
 a:Option Addr
 cap:Nat
structure Sv where
 rq:Rw
 im:Rw
 ep:Rw
 st:Rw
 ex:Rw
 la:Rw
def Rw.blk (r:Rw):Option Nat:=(Value.slice r.a 0 r.cap).ownBlock
def Sv.has (S:Sv) (k:Nat):Prop:=S.rq.blk=some k∨S.im.blk=some k∨S.ep.blk=some k∨S.st.blk=some k∨S.ex.blk=some k∨S.la.blk=some k
def OwnR (w:World) (base:Nat) (e:TypeId) (size:Nat) (r:Rw) (n:Nat) (xs:List Value):Prop:=w.ownsRow base e size (.slice r.a n r.cap) n xs
theorem zbh (r:Rw) (n:Nat):(Value.slice r.a n r.cap).ownBlock=r.blk:=by
 unfold Rw.blk Value.ownBlock
 cases r.a<;>rfl
structure Own (w:World) (base:Nat) (S:Sv) (q:PS):Prop where
 rq:OwnR w base 9 1 S.rq q.rq.length (q.rq.map .string)
 im:OwnR w base 100 3 S.im q.im.length (q.im.flatMap imL)
 ep:OwnR w base 102 4 S.ep q.ep.length (q.ep.flatMap epL)
 st:OwnR w base 106 3 S.st q.st.length (q.st.flatMap smL)
 ex:OwnR w base 108 6 S.ex q.ex.length (q.ex.flatMap exL)
 la:OwnR w base 102 4 S.la q.la.length (q.la.flatMap epL)
 apart: ∀k,S.ep.blk=some k→S.la.blk≠some k
theorem OwnR.typed {w:World} {j size n:Nat} {e:TypeId} {r:Rw} {xs:List Value} (h:OwnR w j e size r n xs) {k:Nat} (q:r.blk=some k):j≤k∧k<w.heap.size∧∃o,w.heap[k]? =some (.cells o e (0,0)):=by
 rcases h.2 with ⟨z,_⟩|⟨g,E,o,z,D,A,_⟩
 ·rw[←zbh r n,z] at q
  simp[Value.ownBlock] at q
 ·rw[←zbh r n,z] at q
  simp only[Value.ownBlock,Option.some.injEq] at q
  subst q
  exact⟨D,(Array.getElem?_eq_some_iff.1 A).1,o,A⟩
theorem OwnR.ne {w:World} {A b2 E O U L:Nat} {o z:TypeId} {n q:Rw} {N M:List Value} (J:OwnR w A o E n U N) (H:OwnR w b2 z O q L M) (K:o≠z) {k:Nat} (D:n.blk=some k):q.blk≠some k:=by
 intro h
 obtain⟨_,_,X,I⟩:=J.typed D
 obtain⟨_,_,V,j⟩:=H.typed h
 rw[I] at j
 simp only[Option.some.injEq,Obj.cells.injEq] at j
 exact K j.2.1
theorem OwnR.keep {w A:World} {j size n:Nat} {e:TypeId} {r:Rw} {xs:List Value} (h:OwnR w j e size r n xs) (H: ∀k,r.blk=some k→A.heap[k]? =w.heap[k]?):OwnR A j e size r n xs:=by
 refine⟨h.1,?_⟩
 rcases h.2 with o|⟨g,z,q,o,E,D,rest⟩
 ·exact .inl o
 ·refine .inr ⟨g,z,q,o,E,?_,rest⟩
  rw[H g (by rw[←zbh r n,o];rfl)]
  exact D
theorem Own.keep {w o:World} {j:Nat} {S:Sv} {q:PS} (h:Own w j S q) (n: ∀k,S.has k→o.heap[k]? =w.heap[k]?):Own o j S q:=
 ⟨h.rq.keep fun k e=>n k (.inl e),h.im.keep fun k e=>n k (.inr (.inl e)),h.ep.keep fun k e=>n k (.inr (.inr (.inl e))),h.st.keep fun k e=>n k (.inr (.inr (.inr (.inl e)))),
  h.ex.keep fun k e=>n k (.inr (.inr (.inr (.inr (.inl e))))),h.la.keep fun k e=>n k (.inr (.inr (.inr (.inr (.inr e))))),h.apart⟩
theorem Own.has {w:World} {j:Nat} {S:Sv} {q:PS} (h:Own w j S q) {k:Nat} (n:S.has k):j≤k∧k<w.heap.size:=by
 rcases n with e|e|e|e|e|e
 ·exact⟨(h.rq.typed e).1,(h.rq.typed e).2.1⟩
 ·exact⟨(h.im.typed e).1,(h.im.typed e).2.1⟩
 ·exact⟨(h.ep.typed e).1,(h.ep.typed e).2.1⟩
 ·exact⟨(h.st.typed e).1,(h.st.typed e).2.1⟩
 ·exact⟨(h.ex.typed e).1,(h.ex.typed e).2.1⟩
 ·exact⟨(h.la.typed e).1,(h.la.typed e).2.1⟩
theorem Own.later {w n:World} {j:Nat} {S:Sv} {q:PS} (h:Own w j S q) (o:Below w.heap.size w n):Own n j S q:=h.keep fun k e=>o.block k (h.has e).2
theorem Own.other {w:World} {o:Nat} {S:Sv} {q:PS} (h:Own w o S q) {k:Nat} {A:Array Value} {e:TypeId} {z:Nat×Nat} (n:w.heap[k]? =some (.cells A e z)) (I:e≠9) (J:e≠100) (D:e≠102) (H:e≠106) (E:e≠108): ¬S.has k:=by
 rintro (g|g|g|g|g|g)
 ·obtain⟨_,_,c,j⟩:=h.rq.typed g
  rw[n] at j
  simp only[Option.some.injEq,Obj.cells.injEq] at j
  exact I j.2.1
 ·obtain⟨_,_,c,j⟩:=h.im.typed g
  rw[n] at j
  simp only[Option.some.injEq,Obj.cells.injEq] at j
  exact J j.2.1
 ·obtain⟨_,_,c,j⟩:=h.ep.typed g
  rw[n] at j
  simp only[Option.some.injEq,Obj.cells.injEq] at j
  exact D j.2.1
 ·obtain⟨_,_,c,j⟩:=h.st.typed g
  rw[n] at j
  simp only[Option.some.injEq,Obj.cells.injEq] at j
  exact H j.2.1
 ·obtain⟨_,_,c,j⟩:=h.ex.typed g
  rw[n] at j
  simp only[Option.some.injEq,Obj.cells.injEq] at j
  exact E j.2.1
 ·obtain⟨_,_,c,j⟩:=h.la.typed g
  rw[n] at j
  simp only[Option.some.injEq,Obj.cells.injEq] at j
  exact D j.2.1
structure Stp (S:Sv) (w:World) (S':Sv) (w':World):Prop where
 os:w'.os=w.os
 tape:w'.tape=w.tape
 output:w'.output=w.output
 size:w.heap.size≤w'.heap.size
 block: ∀k,k<w.heap.size→¬S.has k→w'.heap[k]? =w.heap[k]?
 sub: ∀k,S'.has k→S.has k∨w.heap.size≤k
theorem Stp.refl (S:Sv) (w:World):Stp S w S w:=⟨rfl,rfl,rfl,Nat.le_refl _,fun _ _ _=>rfl,fun _ h=>.inl h⟩
theorem Stp.trans {S o A:Sv} {w q n:World} (h:Stp S w o q) (k:Stp o q A n):Stp S w A n:=
 ⟨k.os.trans h.os,k.tape.trans h.tape,k.output.trans h.output,Nat.le_trans h.size k.size,
  fun i j z=>(k.block i (Nat.lt_of_lt_of_le j h.size) fun g=>(h.sub i g).elim z fun D=>by omega).trans (h.block i j z),
  fun i j=>(k.sub i j).elim (h.sub i) fun g=>.inr (Nat.le_trans h.size g)⟩
theorem Stp.below {S:Sv} {w j:World} (h:Below w.heap.size w j):Stp S w S j:=⟨h.os,h.tape,h.output,h.size,fun k n _=>h.block k n,fun _ g=>.inl g⟩
theorem Stp.under {S o:Sv} {w n:World} {j:Nat} {q:PS} (h:Stp S w o n) (A:j≤w.heap.size) (z:Own w j S q):Below j w n:=
 ⟨h.os,h.tape,h.output,h.size,fun k D=>h.block k (by omega) fun g=>by have:=(z.has g).1;omega⟩
theorem Stp.grown {S n:Sv} {w j:World} {row:Option Nat} (h:w.grownBy j row) (A: ∀k,row=some k→S.has k) (q: ∀k,n.has k→S.has k∨w.heap.size≤k):Stp S w n j:=
 ⟨h.os,h.tape,h.output,h.size,fun k z o=>h.block k z fun e=>o (A k e.symm),q⟩
structure Inv (C:Cx) (q:PS):Prop where
 pos:q.pos≤C.ts.length
 rq:q.rq.length≤40
 im:q.im.length≤40
 ep:q.ep.length+q.la.length≤40
 st:q.st.length≤80
 ex:q.ex.length≤300
structure Mem (C:Cx) (gt cap base:Nat) (S:Sv) (q:PS) (w:World):Prop where
 own:Own w base S q
 inv:Inv C q
 tok:OwnT w base 111 gt C.ts.length cap C.ts
 few:C.ts.length≤4000
 base:base≤w.heap.size
theorem Mem.later {C:Cx} {A n j:Nat} {S:Sv} {q:PS} {w z:World} (h:Mem C A n j S q w) (o:Below w.heap.size w z):Mem C A n j S q z:=
 ⟨h.own.later o,h.inv,zbO h.tok o,h.few,Nat.le_trans h.base o.size⟩
theorem Mem.alloc {C:Cx} {z n j:Nat} {S:Sv} {q:PS} {w:World} (h:Mem C z n j S q w) (o:Obj):Mem C z n j S q (w.alloc o):=h.later ((Below.refl _ _).alloc (Nat.le_refl _) _)
theorem Own.to {w:World} {j:Nat} {S:Sv} {q q':PS} (h:Own w j S q) (D:q'.rq=q.rq) (E:q'.im=q.im) (o:q'.ep=q.ep) (A:q'.st=q.st) (z:q'.ex=q.ex) (n:q'.la=q.la):Own w j S q':=
 ⟨by rw[D];exact h.rq,by rw[E];exact h.im,by rw[o];exact h.ep,by rw[A];exact h.st,by rw[z];exact h.ex,by rw[n];exact h.la,h.apart⟩
theorem Mem.adv {C:Cx} {o n j:Nat} {S:Sv} {q:PS} {w:World} (h:Mem C o n j S q w) (z:q.pos<C.ts.length):Mem C o n j S (adv q) w:=
 ⟨h.own.to rfl rfl rfl rfl rfl rfl,⟨z,h.inv.rq,h.inv.im,h.inv.ep,h.inv.st,h.inv.ex⟩,h.tok,h.few,h.base⟩
theorem OwnR.alloc {w:World} {j size n:Nat} {e:TypeId} {r:Rw} {xs:List Value} (h:OwnR w j e size r n xs) (o:Obj):OwnR (w.alloc o) j e size r n xs:=
 h.keep fun k q=>Below.heap_alloc w o k (h.typed q).2.1
theorem zeN {w:World} {o g n z:Nat} {e:TypeId} {E:List Tk} (h:OwnT w o e g n z E): ∃j,w.heap[g]? =some (.cells j e (0,0)):=by
 rcases h.1.2 with ⟨q,_⟩|⟨I,A,j,q,H,D,J,_⟩
 ·simp at q
 ·simp only[Value.slice.injEq,Option.some.injEq,Addr.mk.injEq,and_true,true_and] at q
  obtain⟨rfl,rfl⟩:=q
  exact⟨j,D⟩
theorem zbs {w A:World} {j g n q:Nat} {e:TypeId} {H:List Tk} (h:OwnT w j e g n q H) (J:A.heap[g]? =w.heap[g]?):OwnT A j e g n q H:=by
 refine⟨⟨h.1.1,?_⟩,h.2⟩
 rcases h.1.2 with k|⟨L,E,z,D,o,I,K⟩
 ·exact .inl k
 ·simp only[Value.slice.injEq,Option.some.injEq,Addr.mk.injEq,and_true,true_and] at D
  obtain⟨rfl,rfl⟩:=D
  exact .inr ⟨g,q,z,rfl,o,J.trans I,K⟩
theorem Mem.gt_free {C:Cx} {o n j:Nat} {S:Sv} {q:PS} {w:World} (h:Mem C o n j S q w): ¬S.has o:=by
 obtain⟨A,z⟩:=zeN h.tok
 exact h.own.other z (by decide) (by decide) (by decide) (by decide) (by decide)
structure Off (lo hi:Nat) (w w':World):Prop where
 os:w'.os=w.os
 tape:w'.tape=w.tape
 output:w'.output=w.output
 size:w.heap.size≤w'.heap.size
 block: ∀k,k<lo∨hi≤k∧k<w.heap.size→w'.heap[k]? =w.heap[k]?
theorem Off.refl (h j:Nat) (w:World):Off h j w w:=⟨rfl,rfl,rfl,Nat.le_refl _,fun _ _=>rfl⟩
theorem Off.set {n o:Nat} {w j:World} (h:Off n o w j) {b:Nat} (z:n≤b) (A:b<o) (i:Nat) (u:Value):Off n o w (j.setCell ⟨b,i,none⟩ u):=
 ⟨h.os,h.tape,h.output,by show _≤(j.heap.modify _ _).size;simp;exact h.size,fun k q=>(Below.heap_setCell j ⟨b,i,none⟩ u k (by show k≠b;omega)).trans (h.block k q)⟩
theorem Off.below {o z:Nat} {w n q:World} (h:Off o z w n) (j:Below n.heap.size n q) (A:o≤w.heap.size):Off o z w q:=
 ⟨j.os.trans h.os,j.tape.trans h.tape,j.output.trans h.output,Nat.le_trans h.size j.size,fun k D=>(j.block k (by have:=h.size;omega)).trans (h.block k D)⟩
theorem Off.set12 {q z:Nat} {a w:World} (h:Off q z a w) {b:Nat} (n:q≤b) (j:b<z) (O E D L J N M K I H o A:Value):
  Off q z a ((((((((((((w.setCell ⟨b,0,none⟩ O).setCell ⟨b,1,none⟩ E).setCell ⟨b,2,none⟩ D).setCell ⟨b,3,none⟩ L).setCell ⟨b,4,none⟩ J).setCell ⟨b,5,none⟩ N).setCell ⟨b,6,none⟩ M).setCell ⟨b,7,none⟩ K).setCell ⟨b,8,none⟩ I).setCell ⟨b,9,none⟩ H).setCell ⟨b,10,none⟩ o).setCell ⟨b,11,none⟩ A):=
 (((((((((((h.set n j _ _).set n j _ _).set n j _ _).set n j _ _).set n j _ _).set n j _ _).set n j _ _).set n j _ _).set n j _ _).set n j _ _).set n j _ _).set n j _ _
theorem zcl {P:Program} (W:World) {M:Array Oper} {rest:List Oper} {o:Oper} {a:Act} {Q:Exit→Act→World→Prop} (Y:o.guard=none) (s x:Operand) (t:TypeId)
  (ho:o.op= .call {callee:=.builtin .append,args:=#[s,x],argTypes:=#[t,t]})
  (A:Nat) (e:TypeId) (i:TypeInfo) (z:Value) (size q:Nat) (ht:P.underlying t=some (.slice e)) (hi:P.info? e=some i) (hz:i.zero=some z) (E:i.size=size) (X:i.bytes=q) (O:z.cells.size=size) (V:0<size) (L:q≤100)
  (r:Rw) (n:Nat) (xs:List Value) (hs:a.eval s= .slice r.a n r.cap) (K:OwnR W A e size r n xs)
  (I:Nat) (w:List Value) (hx:a.eval x= .slice (some ⟨I,0,none⟩) 1 1) (hg:W.heap[I]? =some (.cells w.toArray e (0,0))) (hl:w.length=size) (h1: ∀u∈w,u.oneCell'=true) (hn:n+1≤1000000) (H:A≤W.heap.size)
  (h: ∀N J,OwnR J A e size N (n+1) (xs++w)→W.grownBy J r.blk→(N.blk=r.blk∨N.blk=some W.heap.size)→wpList P M Q rest (a.put o.dst (.slice N.a (n+1) N.cap)) J):
  wpList P M Q (o::rest) a W:=by
 refine wpList_append_own_at _ Y s x t ho A e i z size q ht hi hz E X O V _ n _ hs K ⟨I,0,none⟩ 1 1 w hx (by omega) ?_ h1 ?_ ?_ H ?_
 ·intro j u hj
  have:(⟨I,0,none⟩:Addr).add j=⟨I,j,none⟩:=by simp[Addr.add];exact fun h=>h.symm
  rw[this]
  simp[World.cell?,hg,hj]
 ·unfold maxLen;omega
 ·have:(n+1)*q≤1000000*100:=Nat.mul_le_mul hn L
  omega
 ·intro v' J k1 k2 k3 k4
  rcases k1.2 with ⟨hv,aa⟩|⟨Z,D,ab,rfl,U⟩
  ·omega
  ·refine h ⟨some ⟨Z,0,none⟩,D⟩ J k1 ?_ ?_
   ·rw[←zbh r n];exact k2
   ·rw[←zbh r n,←zbh ⟨some ⟨Z,0,none⟩,D⟩ (n+1)];exact k4
theorem Mem.grow_rq {C:Cx} {X I A:Nat} {S:Sv} {q:PS} {w W V E:World} (j:Mem C X I A S q w) (K:Below w.heap.size w W) (H:W.grownBy V S.rq.blk) {D:Rw} {x:ByteArray} (Z:OwnR V A 9 1 D (q.rq.length+1) (q.rq.map .string++[.string x])) (N:D.blk=S.rq.blk∨D.blk=some W.heap.size) (z:Off w.heap.size W.heap.size V E) (Y:q.rq.length<40):
  Mem C X I A {S with rq:=D} {q with rq:=q.rq++[x]} E∧Stp S w {S with rq:=D} E:=by
 have O:=K.size
 have L:=H.size
 have n: ∀k,k<w.heap.size→S.rq.blk≠some k→E.heap[k]? =w.heap[k]?:=fun k o U=>
  (z.block k (.inl o)).trans ((H.block k (by omega) fun e=>U e.symm).trans (K.block k o))
 have J:OwnR E A 9 1 D (q.rq.length+1) (q.rq.map .string++[.string x]):=Z.keep fun k o=>z.block k (by
  rcases N with e|e
  ·rw[e] at o
   exact .inl (j.own.rq.typed o).2.1
  ·rw[e] at o
   obtain rfl:=Option.some.inj o
   exact .inr ⟨Nat.le_refl _,(Z.typed e).2.1⟩)
 have M:(q.rq++[x]).length=q.rq.length+1:=by simp
 refine⟨⟨⟨by show OwnR E A 9 1 D (q.rq++[x]).length _;rw[M];simpa using J,j.own.im.keep fun k o=>n k (j.own.im.typed o).2.1 (j.own.im.ne j.own.rq (by decide) o),j.own.ep.keep fun k o=>n k (j.own.ep.typed o).2.1 (j.own.ep.ne j.own.rq (by decide) o),j.own.st.keep fun k o=>n k (j.own.st.typed o).2.1 (j.own.st.ne j.own.rq (by decide) o),j.own.ex.keep fun k o=>n k (j.own.ex.typed o).2.1 (j.own.ex.ne j.own.rq (by decide) o),j.own.la.keep fun k o=>n k (j.own.la.typed o).2.1 (j.own.la.ne j.own.rq (by decide) o),j.own.apart⟩,⟨j.inv.pos,by simp;omega,j.inv.im,j.inv.ep,j.inv.st,j.inv.ex⟩,zbs j.tok (n X (zak j.tok).1 fun e=>j.gt_free (.inl e)),j.few,Nat.le_trans j.base (by have:=z.size;omega)⟩,?_⟩
 refine⟨z.os.trans (H.os.trans K.os),z.tape.trans (H.tape.trans K.tape),z.output.trans (H.output.trans K.output),Nat.le_trans (Nat.le_trans O L) z.size,fun k o Y=>n k o fun e=>Y (.inl e),fun k o=>?_⟩
 rcases o with h|h|h|h|h|h
 ·exact N.elim (fun e=>.inl (.inl (e.symm.trans h))) fun e=>.inr (by have:W.heap.size=k:=Option.some.inj (e.symm.trans h);omega)
 ·exact .inl (.inr (.inl h))
 ·exact .inl (.inr (.inr (.inl h)))
 ·exact .inl (.inr (.inr (.inr (.inl h))))
 ·exact .inl (.inr (.inr (.inr (.inr (.inl h)))))
 ·exact .inl (.inr (.inr (.inr (.inr (.inr h)))))
theorem Mem.grow_im {C:Cx} {X I A:Nat} {S:Sv} {q:PS} {w W V E:World} (j:Mem C X I A S q w) (K:Below w.heap.size w W) (H:W.grownBy V S.im.blk) {D:Rw} {x:Im} (Z:OwnR V A 100 3 D (q.im.length+1) (q.im.flatMap imL++imL x)) (N:D.blk=S.im.blk∨D.blk=some W.heap.size) (z:Off w.heap.size W.heap.size V E) (Y:q.im.length<40):
  Mem C X I A {S with im:=D} {q with im:=q.im++[x]} E∧Stp S w {S with im:=D} E:=by
 have O:=K.size
 have L:=H.size
 have n: ∀k,k<w.heap.size→S.im.blk≠some k→E.heap[k]? =w.heap[k]?:=fun k o U=>
  (z.block k (.inl o)).trans ((H.block k (by omega) fun e=>U e.symm).trans (K.block k o))
 have J:OwnR E A 100 3 D (q.im.length+1) (q.im.flatMap imL++imL x):=Z.keep fun k o=>z.block k (by
  rcases N with e|e
  ·rw[e] at o
   exact .inl (j.own.im.typed o).2.1
  ·rw[e] at o
   obtain rfl:=Option.some.inj o
   exact .inr ⟨Nat.le_refl _,(Z.typed e).2.1⟩)
 have M:(q.im++[x]).length=q.im.length+1:=by simp
 refine⟨⟨⟨j.own.rq.keep fun k o=>n k (j.own.rq.typed o).2.1 (j.own.rq.ne j.own.im (by decide) o),by show OwnR E A 100 3 D (q.im++[x]).length _;rw[M];simpa using J,j.own.ep.keep fun k o=>n k (j.own.ep.typed o).2.1 (j.own.ep.ne j.own.im (by decide) o),j.own.st.keep fun k o=>n k (j.own.st.typed o).2.1 (j.own.st.ne j.own.im (by decide) o),j.own.ex.keep fun k o=>n k (j.own.ex.typed o).2.1 (j.own.ex.ne j.own.im (by decide) o),j.own.la.keep fun k o=>n k (j.own.la.typed o).2.1 (j.own.la.ne j.own.im (by decide) o),j.own.apart⟩,⟨j.inv.pos,j.inv.rq,by simp;omega,j.inv.ep,j.inv.st,j.inv.ex⟩,zbs j.tok (n X (zak j.tok).1 fun e=>j.gt_free (.inr (.inl e))),j.few,Nat.le_trans j.base (by have:=z.size;omega)⟩,?_⟩
 refine⟨z.os.trans (H.os.trans K.os),z.tape.trans (H.tape.trans K.tape),z.output.trans (H.output.trans K.output),Nat.le_trans (Nat.le_trans O L) z.size,fun k o Y=>n k o fun e=>Y (.inr (.inl e)),fun k o=>?_⟩
 rcases o with h|h|h|h|h|h
 ·exact .inl (.inl h)
 ·exact N.elim (fun e=>.inl (.inr (.inl (e.symm.trans h)))) fun e=>.inr (by have:W.heap.size=k:=Option.some.inj (e.symm.trans h);omega)
 ·exact .inl (.inr (.inr (.inl h)))
 ·exact .inl (.inr (.inr (.inr (.inl h))))
 ·exact .inl (.inr (.inr (.inr (.inr (.inl h)))))
 ·exact .inl (.inr (.inr (.inr (.inr (.inr h)))))
theorem Mem.grow_ep {C:Cx} {O J A:Nat} {S:Sv} {q:PS} {w W X H:World} (j:Mem C O J A S q w) (L:Below w.heap.size w W) (I:W.grownBy X S.ep.blk) {E:Rw} {x:Ep} (hr:OwnR X A 102 4 E (q.ep.length+1) (q.ep.flatMap epL++epL x)) (D:E.blk=S.ep.blk∨E.blk=some W.heap.size) (z:Off w.heap.size W.heap.size X H) (Z:q.ep.length+q.la.length<40):
  Mem C O J A {S with ep:=E} {q with ep:=q.ep++[x]} H∧Stp S w {S with ep:=E} H:=by
 have U:=L.size
 have M:=I.size
 have n: ∀k,k<w.heap.size→S.ep.blk≠some k→H.heap[k]? =w.heap[k]?:=fun k o V=>
  (z.block k (.inl o)).trans ((I.block k (by omega) fun e=>V e.symm).trans (L.block k o))
 have K:OwnR H A 102 4 E (q.ep.length+1) (q.ep.flatMap epL++epL x):=hr.keep fun k o=>z.block k (by
  rcases D with e|e
  ·rw[e] at o
   exact .inl (j.own.ep.typed o).2.1
  ·rw[e] at o
   obtain rfl:=Option.some.inj o
   exact .inr ⟨Nat.le_refl _,(hr.typed e).2.1⟩)
 have N:(q.ep++[x]).length=q.ep.length+1:=by simp
 refine⟨⟨⟨j.own.rq.keep fun k o=>n k (j.own.rq.typed o).2.1 (j.own.rq.ne j.own.ep (by decide) o),j.own.im.keep fun k o=>n k (j.own.im.typed o).2.1 (j.own.im.ne j.own.ep (by decide) o),by show OwnR H A 102 4 E (q.ep++[x]).length _;rw[N];simpa using K,j.own.st.keep fun k o=>n k (j.own.st.typed o).2.1 (j.own.st.ne j.own.ep (by decide) o),j.own.ex.keep fun k o=>n k (j.own.ex.typed o).2.1 (j.own.ex.ne j.own.ep (by decide) o),j.own.la.keep fun k o=>n k (j.own.la.typed o).2.1 (fun e=>j.own.apart k e o),fun k o Y=>D.elim (fun e=>j.own.apart k (by rw[←e];exact o) Y) fun e=>by have h1:=(j.own.la.typed Y).2.1;have h2:W.heap.size=k:=Option.some.inj (e.symm.trans o);omega⟩,⟨j.inv.pos,j.inv.rq,j.inv.im,by have:=j.inv.ep;simp;omega,j.inv.st,j.inv.ex⟩,zbs j.tok (n O (zak j.tok).1 fun e=>j.gt_free (.inr (.inr (.inl e)))),j.few,Nat.le_trans j.base (by have:=z.size;omega)⟩,?_⟩
 refine⟨z.os.trans (I.os.trans L.os),z.tape.trans (I.tape.trans L.tape),z.output.trans (I.output.trans L.output),Nat.le_trans (Nat.le_trans U M) z.size,fun k o Z=>n k o fun e=>Z (.inr (.inr (.inl e))),fun k o=>?_⟩
 rcases o with h|h|h|h|h|h
 ·exact .inl (.inl h)
 ·exact .inl (.inr (.inl h))
 ·exact D.elim (fun e=>.inl (.inr (.inr (.inl (e.symm.trans h))))) fun e=>.inr (by have:W.heap.size=k:=Option.some.inj (e.symm.trans h);omega)
 ·exact .inl (.inr (.inr (.inr (.inl h))))
 ·exact .inl (.inr (.inr (.inr (.inr (.inl h)))))
 ·exact .inl (.inr (.inr (.inr (.inr (.inr h)))))
theorem Mem.grow_st {C:Cx} {X I A:Nat} {S:Sv} {q:PS} {w W V E:World} (j:Mem C X I A S q w) (K:Below w.heap.size w W) (H:W.grownBy V S.st.blk) {D:Rw} {x:Sm} (Z:OwnR V A 106 3 D (q.st.length+1) (q.st.flatMap smL++smL x)) (N:D.blk=S.st.blk∨D.blk=some W.heap.size) (z:Off w.heap.size W.heap.size V E) (Y:q.st.length<80):
  Mem C X I A {S with st:=D} {q with st:=q.st++[x]} E∧Stp S w {S with st:=D} E:=by
 have O:=K.size
 have L:=H.size
 have n: ∀k,k<w.heap.size→S.st.blk≠some k→E.heap[k]? =w.heap[k]?:=fun k o U=>
  (z.block k (.inl o)).trans ((H.block k (by omega) fun e=>U e.symm).trans (K.block k o))
 have J:OwnR E A 106 3 D (q.st.length+1) (q.st.flatMap smL++smL x):=Z.keep fun k o=>z.block k (by
  rcases N with e|e
  ·rw[e] at o
   exact .inl (j.own.st.typed o).2.1
  ·rw[e] at o
   obtain rfl:=Option.some.inj o
   exact .inr ⟨Nat.le_refl _,(Z.typed e).2.1⟩)
 have M:(q.st++[x]).length=q.st.length+1:=by simp
 refine⟨⟨⟨j.own.rq.keep fun k o=>n k (j.own.rq.typed o).2.1 (j.own.rq.ne j.own.st (by decide) o),j.own.im.keep fun k o=>n k (j.own.im.typed o).2.1 (j.own.im.ne j.own.st (by decide) o),j.own.ep.keep fun k o=>n k (j.own.ep.typed o).2.1 (j.own.ep.ne j.own.st (by decide) o),by show OwnR E A 106 3 D (q.st++[x]).length _;rw[M];simpa using J,j.own.ex.keep fun k o=>n k (j.own.ex.typed o).2.1 (j.own.ex.ne j.own.st (by decide) o),j.own.la.keep fun k o=>n k (j.own.la.typed o).2.1 (j.own.la.ne j.own.st (by decide) o),j.own.apart⟩,⟨j.inv.pos,j.inv.rq,j.inv.im,j.inv.ep,by simp;omega,j.inv.ex⟩,zbs j.tok (n X (zak j.tok).1 fun e=>j.gt_free (.inr (.inr (.inr (.inl e))))),j.few,Nat.le_trans j.base (by have:=z.size;omega)⟩,?_⟩
 refine⟨z.os.trans (H.os.trans K.os),z.tape.trans (H.tape.trans K.tape),z.output.trans (H.output.trans K.output),Nat.le_trans (Nat.le_trans O L) z.size,fun k o Y=>n k o fun e=>Y (.inr (.inr (.inr (.inl e)))),fun k o=>?_⟩
 rcases o with h|h|h|h|h|h
 ·exact .inl (.inl h)
 ·exact .inl (.inr (.inl h))
 ·exact .inl (.inr (.inr (.inl h)))
 ·exact N.elim (fun e=>.inl (.inr (.inr (.inr (.inl (e.symm.trans h)))))) fun e=>.inr (by have:W.heap.size=k:=Option.some.inj (e.symm.trans h);omega)
 ·exact .inl (.inr (.inr (.inr (.inr (.inl h)))))
 ·exact .inl (.inr (.inr (.inr (.inr (.inr h)))))
theorem Mem.grow_ex {C:Cx} {X I A:Nat} {S:Sv} {q:PS} {w W V E:World} (j:Mem C X I A S q w) (K:Below w.heap.size w W) (H:W.grownBy V S.ex.blk) {D:Rw} {x:Ex} (Z:OwnR V A 108 6 D (q.ex.length+1) (q.ex.flatMap exL++exL x)) (N:D.blk=S.ex.blk∨D.blk=some W.heap.size) (z:Off w.heap.size W.heap.size V E) (Y:q.ex.length<300):
  Mem C X I A {S with ex:=D} {q with ex:=q.ex++[x]} E∧Stp S w {S with ex:=D} E:=by
 have O:=K.size
 have L:=H.size
 have n: ∀k,k<w.heap.size→S.ex.blk≠some k→E.heap[k]? =w.heap[k]?:=fun k o U=>
  (z.block k (.inl o)).trans ((H.block k (by omega) fun e=>U e.symm).trans (K.block k o))
 have J:OwnR E A 108 6 D (q.ex.length+1) (q.ex.flatMap exL++exL x):=Z.keep fun k o=>z.block k (by
  rcases N with e|e
  ·rw[e] at o
   exact .inl (j.own.ex.typed o).2.1
  ·rw[e] at o
   obtain rfl:=Option.some.inj o
   exact .inr ⟨Nat.le_refl _,(Z.typed e).2.1⟩)
 have M:(q.ex++[x]).length=q.ex.length+1:=by simp
 refine⟨⟨⟨j.own.rq.keep fun k o=>n k (j.own.rq.typed o).2.1 (j.own.rq.ne j.own.ex (by decide) o),j.own.im.keep fun k o=>n k (j.own.im.typed o).2.1 (j.own.im.ne j.own.ex (by decide) o),j.own.ep.keep fun k o=>n k (j.own.ep.typed o).2.1 (j.own.ep.ne j.own.ex (by decide) o),j.own.st.keep fun k o=>n k (j.own.st.typed o).2.1 (j.own.st.ne j.own.ex (by decide) o),by show OwnR E A 108 6 D (q.ex++[x]).length _;rw[M];simpa using J,j.own.la.keep fun k o=>n k (j.own.la.typed o).2.1 (j.own.la.ne j.own.ex (by decide) o),j.own.apart⟩,⟨j.inv.pos,j.inv.rq,j.inv.im,j.inv.ep,j.inv.st,by simp;omega⟩,zbs j.tok (n X (zak j.tok).1 fun e=>j.gt_free (.inr (.inr (.inr (.inr (.inl e)))))),j.few,Nat.le_trans j.base (by have:=z.size;omega)⟩,?_⟩
 refine⟨z.os.trans (H.os.trans K.os),z.tape.trans (H.tape.trans K.tape),z.output.trans (H.output.trans K.output),Nat.le_trans (Nat.le_trans O L) z.size,fun k o Y=>n k o fun e=>Y (.inr (.inr (.inr (.inr (.inl e))))),fun k o=>?_⟩
 rcases o with h|h|h|h|h|h
 ·exact .inl (.inl h)
 ·exact .inl (.inr (.inl h))
 ·exact .inl (.inr (.inr (.inl h)))
 ·exact .inl (.inr (.inr (.inr (.inl h))))
 ·exact N.elim (fun e=>.inl (.inr (.inr (.inr (.inr (.inl (e.symm.trans h))))))) fun e=>.inr (by have:W.heap.size=k:=Option.some.inj (e.symm.trans h);omega)
 ·exact .inl (.inr (.inr (.inr (.inr (.inr h)))))
theorem Mem.grow_la {C:Cx} {O J A:Nat} {S:Sv} {q:PS} {w W X H:World} (j:Mem C O J A S q w) (L:Below w.heap.size w W) (I:W.grownBy X S.la.blk) {E:Rw} {x:Ep} (hr:OwnR X A 102 4 E (q.la.length+1) (q.la.flatMap epL++epL x)) (D:E.blk=S.la.blk∨E.blk=some W.heap.size) (z:Off w.heap.size W.heap.size X H) (Z:q.ep.length+q.la.length<40):
  Mem C O J A {S with la:=E} {q with la:=q.la++[x]} H∧Stp S w {S with la:=E} H:=by
 have U:=L.size
 have M:=I.size
 have n: ∀k,k<w.heap.size→S.la.blk≠some k→H.heap[k]? =w.heap[k]?:=fun k o V=>
  (z.block k (.inl o)).trans ((I.block k (by omega) fun e=>V e.symm).trans (L.block k o))
 have K:OwnR H A 102 4 E (q.la.length+1) (q.la.flatMap epL++epL x):=hr.keep fun k o=>z.block k (by
  rcases D with e|e
  ·rw[e] at o
   exact .inl (j.own.la.typed o).2.1
  ·rw[e] at o
   obtain rfl:=Option.some.inj o
   exact .inr ⟨Nat.le_refl _,(hr.typed e).2.1⟩)
 have N:(q.la++[x]).length=q.la.length+1:=by simp
 refine⟨⟨⟨j.own.rq.keep fun k o=>n k (j.own.rq.typed o).2.1 (j.own.rq.ne j.own.la (by decide) o),j.own.im.keep fun k o=>n k (j.own.im.typed o).2.1 (j.own.im.ne j.own.la (by decide) o),j.own.ep.keep fun k o=>n k (j.own.ep.typed o).2.1 (fun e=>j.own.apart k o e),j.own.st.keep fun k o=>n k (j.own.st.typed o).2.1 (j.own.st.ne j.own.la (by decide) o),j.own.ex.keep fun k o=>n k (j.own.ex.typed o).2.1 (j.own.ex.ne j.own.la (by decide) o),by show OwnR H A 102 4 E (q.la++[x]).length _;rw[N];simpa using K,fun k o Y=>D.elim (fun e=>j.own.apart k o (by rw[←e];exact Y)) fun e=>by have h1:=(j.own.ep.typed o).2.1;have h2:W.heap.size=k:=Option.some.inj (e.symm.trans Y);omega⟩,⟨j.inv.pos,j.inv.rq,j.inv.im,by have:=j.inv.ep;simp;omega,j.inv.st,j.inv.ex⟩,zbs j.tok (n O (zak j.tok).1 fun e=>j.gt_free (.inr (.inr (.inr (.inr (.inr e)))))),j.few,Nat.le_trans j.base (by have:=z.size;omega)⟩,?_⟩
 refine⟨z.os.trans (I.os.trans L.os),z.tape.trans (I.tape.trans L.tape),z.output.trans (I.output.trans L.output),Nat.le_trans (Nat.le_trans U M) z.size,fun k o Z=>n k o fun e=>Z (.inr (.inr (.inr (.inr (.inr e))))),fun k o=>?_⟩
 rcases o with h|h|h|h|h|h
 ·exact .inl (.inl h)
 ·exact .inl (.inr (.inl h))
 ·exact .inl (.inr (.inr (.inl h)))
 ·exact .inl (.inr (.inr (.inr (.inl h))))
 ·exact .inl (.inr (.inr (.inr (.inr (.inl h)))))
 ·exact D.elim (fun e=>.inl (.inr (.inr (.inr (.inr (.inr (e.symm.trans h))))))) fun e=>.inr (by have:W.heap.size=k:=Option.some.inj (e.symm.trans h);omega)
abbrev PRN:=Except Nat (PS×ByteArray)
def zaG (y:PRN):PR:=bd y fun a=>.ok a.1
def withN (y:PRN) (F:PR→ByteArray→PR):PRN:=bd y fun a=>bd (F (.ok a.1) a.2) fun q=>.ok (q,a.2)
def zcm (C:Cx) (q:PS):PRN:=withN (bd (zd C 1 zA q) (zh C false)) fun x n=>bd (bd (bd (bd x (zd C 4 cEq)) (pE C .sum 0)) (zd C 4 cSemi)) (zX C 1 n)
def fnP (C:Cx) (q:PS):PRN:=
 withN (bd (zd C 1 zO q) (zh C false)) fun x n=>bd (bd (bd (bd (bd (bd (bd (bd x (zd C 4 zm)) (zd C 4 zay)) (zd C 4 zF)) (zd C 1 zd6)) (pE C .sum 0)) (zd C 4 cSemi)) (zd C 4 zbd)) (zX C 2 n)
def asP (C:Cx) (exp:Bool) (a:PS×ByteArray):PRN:=
 if isT C a.1.pos 1 sAs then zh C exp (adv a.1)
 else if (a.2.toList==[100,101,102,97,117,108,116])&& !exp then .error (zq C a.1.pos) else .ok a
abbrev PRL:=Except Nat (PS×List Ep)
def zcJ (C:Cx) (exp:Bool):Nat→PS→List Ep→PRL
 |0,_,_=>.error 0
 |f+1,q,acc=>bd (zh C true q) fun a=>bd (asP C exp a) fun b=>
  if isT C b.1.pos 4 zbp then zcJ C exp f (adv b.1) (acc++[⟨0,b.2,a.2,sNone⟩]) else bd (zd C 4 zbd b.1) fun q'=>.ok (q',acc++[⟨0,b.2,a.2,sNone⟩])
def zav (C:Cx) (exp:Bool) (q:PS) (acc:List Ep):PRL:=zcJ C exp (C.ts.length-q.pos+1) q acc
def zcz (C:Cx) (exp:Bool) (q:PS):PRL:=bd (zd C 4 zF q) fun q'=>zav C exp q' []
def za5 (l:List Ep):Bool:=l.any fun x=>x.loc.toList==[100,101,102,97,117,108,116]
theorem zej {C:Cx} {j:Bool} {a b:PS×ByteArray} (h:asP C j a= .ok b):a.1.pos≤b.1.pos:=by
 unfold asP at h
 split at h
 ·obtain⟨rfl,_⟩:=zbe h
  show a.1.pos≤a.1.pos+1+1
  omega
 ·split at h
  ·cases h
  ·cases h
   exact Nat.le_refl _
theorem zjT {C:Cx} {j:Bool} (f:Nat): ∀(g:Nat) (q:PS) (acc:List Ep),C.ts.length-q.pos<f→C.ts.length-q.pos<g→zcJ C j f q acc=zcJ C j g q acc:=by
 induction f with
 |zero=>intro g q acc h;omega
 |succ f n=>
  intro g q acc J K
  obtain⟨g,rfl⟩: ∃w,g=w+1:=⟨g-1,by omega⟩
  rw[zcJ,zcJ]
  refine zZ fun a z=>zZ fun b o=>?_
  split
  ·next E=>
   obtain⟨rfl,D⟩:=zbe z
   have A:=zej o
   have I:=zaz E (by decide)
   have H:=zed D
   simp only[zw] at A
   exact n g _ _ (by rw[zw];omega) (by rw[zw];omega)
  ·rfl
theorem zeO (C:Cx) (h:Bool) (q:PS) (acc:List Ep):zav C h q acc=bd (zh C true q) fun a=>bd (asP C h a) fun b=>
  if isT C b.1.pos 4 zbp then zav C h (adv b.1) (acc++[⟨0,b.2,a.2,sNone⟩]) else bd (zd C 4 zbd b.1) fun q'=>.ok (q',acc++[⟨0,b.2,a.2,sNone⟩]):=by
 rw[zav,zcJ]
 refine zZ fun a n=>zZ fun b j=>?_
 split
 ·next w=>
  obtain⟨rfl,z⟩:=zbe n
  have o:=zej j
  have D:=zaz w (by decide)
  have A:=zed z
  simp only[zw] at o
  exact zjT _ _ _ _ (by rw[zw];omega) (by rw[zw];omega)
 ·rfl
def zR {α:Type} (f:α→PS→PR):List α→PR→PR
 |[],x=>x
 |a::l,x=>zR f l (bd x (f a))
def zb8 (s:ByteArray) (e:Ep):Im:=⟨s,e.loc,e.name⟩
def zaA (C:Cx) (x:PR):PRN:=bd (bd x (zd C 1 zP)) (zG C)
def zaQ (C:Cx) (y:PRN):PRN:=bd y fun a=>bd (zd C 4 cSemi a.1) fun q=>.ok (q,a.2)
def zaK (C:Cx) (q:PS):PR:=
 bd (zd C 1 zae q) fun q=>
  if isT C q.pos 4 zF then bd (zcz C false q) fun a=>bd (zaQ C (zaA C (.ok a.1))) fun b=>zR (fun e=>zao C (zb8 b.2 e)) a.2 (.ok b.1)
  else if isT C q.pos 4 zv then bd (bd (bd (zd C 4 zv q) (zd C 1 sAs)) (zh C false)) fun a=>bd (zaQ C (zaA C (.ok a.1))) fun b=>zao C ⟨b.2,zv,a.2⟩ b.1
  else if zB C q.pos false then bd (zh C false q) fun a=>bd (zaQ C (zaA C (.ok a.1))) fun b=>zao C ⟨b.2,sDefault,a.2⟩ b.1
  else bd (zG C q) fun a=>zd C 4 cSemi a.1
def zz (e:Ep):Ep:=⟨1,e.name,e.loc,sNone⟩
def zal (s:ByteArray) (e:Ep):Ep:=⟨2,e.name,e.loc,s⟩
def zaf (C:Cx) (q:PS):PR:=
 bd (zd C 1 zad q) fun q=>
  if isT C q.pos 4 zF then bd (zcz C true q) fun a=>
   if !za5 a.2&& !isT C a.1.pos 1 zP then bd (zd C 4 cSemi a.1) fun q=>zR (fun e=>zn C (zz e)) a.2 (.ok q)
   else bd (zaQ C (zaA C (.ok a.1))) fun b=>zR (fun e=>zn C (zal b.2 e)) a.2 (.ok b.1)
  else if isT C q.pos 4 zv then bd (zaQ C (zaA C (zd C 4 zv q))) fun b=>zn C ⟨3,sNone,sNone,b.2⟩ b.1
  else if isT C q.pos 1 sDefault then bd (bd (bd (bd (zd C 1 sDefault q) (pE C .sum 0)) (zd C 4 cSemi)) (zX C 1 zbG)) (zn C ⟨1,sDefault,zbG,sNone⟩)
  else if isT C q.pos 1 zA then bd (zcm C q) fun a=>zn C ⟨1,a.2,a.2,sNone⟩ a.1
  else if isT C q.pos 1 zO then bd (fnP C q) fun a=>zn C ⟨1,a.2,a.2,sNone⟩ a.1
  else .error (zq C q.pos)
def zy (C:Cx) (q:PS):PR:=
 if !C.scr&&isT C q.pos 1 zae then zaK C q
 else if !C.scr&&isT C q.pos 1 zad then zaf C q
 else if isT C q.pos 1 zA then zaG (zcm C q)
 else if isT C q.pos 1 zO then zaG (fnP C q)
 else if isT C q.pos 1 zap then bd (bd (bd (bd (bd (zd C 1 zap q) (zd C 4 zm)) (pE C .sum 0)) (zd C 4 zay)) (zd C 4 cSemi)) (zX C 4 sNone)
 else if isT C q.pos 1 za0 then bd (bd (bd (zd C 1 za0 q) (pE C .sum 0)) (zd C 4 cSemi)) (zX C 5 sNone)
 else if C.scr&&isT C q.pos 1 zby then bd (bd (bd (zd C 1 zby q) (pE C .sum 0)) (zd C 4 cSemi)) (zX C 6 sNone)
 else bd (zh C false q) fun a=>bd (bd (bd (zd C 4 cEq a.1) (pE C .sum 0)) (zd C 4 cSemi)) (zX C 3 a.2)
theorem zaw {C:Cx} {k:Int} {s:ByteArray} {q q':PS} (h:zd C k s q= .ok q'):q.pos+1=q'.pos:=by
 obtain⟨rfl,_⟩:=zb0 h
 rfl
theorem zdB {C:Cx} {o:Bool} {q:PS} {a:PS×ByteArray} (h:zh C o q= .ok a):q.pos+1=a.1.pos:=by
 obtain⟨rfl,_⟩:=zbe h
 rfl
theorem zgO {C:Cx} {q:PS} {a:PS×ByteArray} (h:zG C q= .ok a):q.pos+1=a.1.pos:=by
 unfold zG at h
 split at h
 ·split at h
  ·cases h;rfl
  ·split at h
   ·cases h
   ·cases h;rfl
 ·cases h
theorem zdC {C:Cx} {k:Int} {n:ByteArray} {q q':PS} (h:zX C k n q= .ok q'):q.pos=q'.pos:=by
 unfold zX at h
 split at h
 ·cases h
 ·cases h;rfl
theorem zfH {C:Cx} {y:Im} {q q':PS} (h:zao C y q= .ok q'):q.pos=q'.pos:=by
 unfold zao at h
 split at h
 ·cases h
 ·cases h;rfl
theorem zdD {C:Cx} {y:Ep} {q q':PS} (h:zn C y q= .ok q'):q.pos=q'.pos:=by
 unfold zn at h
 split at h
 ·cases h
 ·split at h
  ·cases h;rfl
  ·cases h;rfl
theorem zfI {α:Type} {f:α→PS→PR} (o: ∀a q q',f a q= .ok q'→q.pos=q'.pos) (l:List α): ∀(x:PR) (q':PS),zR f l x= .ok q'→∃q,x= .ok q∧q.pos=q'.pos:=by
 induction l with
 |nil=>intro x q' h;exact⟨q',h,rfl⟩
 |cons a l j=>
  intro x q' h
  obtain⟨b,z,A⟩:=j _ _ h
  obtain⟨c,n,w⟩:=zi z
  exact⟨c,n,(o _ _ _ w).trans A⟩
theorem zgP {C:Cx} {n:Bool} (m:Nat): ∀(q:PS) (acc:List Ep) (a:PS×List Ep),C.ts.length-q.pos<m→zav C n q acc= .ok a→q.pos≤a.1.pos:=by
 induction m with
 |zero=>intro q acc a h;omega
 |succ m o=>
  intro q acc a K h
  rw[zeO] at h
  obtain⟨b,H,D⟩:=zi h
  obtain⟨c,z,j⟩:=zi D
  have J:=zdB H
  have L:=zej z
  split at j
  ·next E=>
   have I:=zaz E (by decide)
   have:=o _ _ _ (by rw[zw];omega) j
   rw[zw] at this
   omega
  ·obtain⟨d,A,w⟩:=zi j
   have I:=zaw A
   cases w
   show q.pos≤d.pos
   omega
theorem zek {C:Cx} {x:PR} {b:PS×ByteArray} (h:zaQ C (zaA C x)= .ok b): ∃q,x= .ok q∧q.pos≤b.1.pos:=by
 obtain⟨a,E,z⟩:=zi h
 obtain⟨c,o,D⟩:=zi z
 obtain⟨d,w,n⟩:=zi E
 obtain⟨e,A,j⟩:=zi w
 have H:=zaw o
 have I:=zgO n
 have J:=zaw j
 cases D
 exact⟨e,A,by show e.pos≤c.pos;omega⟩
theorem zjU {C:Cx} {q q':PS} (h:zaK C q= .ok q'):q.pos<q'.pos:=by
 obtain⟨O,M,o⟩:=zi h
 have N:=zaw M
 split at o
 ·obtain⟨a,n,w⟩:=zi o
  obtain⟨b,D,z⟩:=zi w
  obtain⟨c,J,H⟩:=zi n
  obtain⟨d,I,E⟩:=zek D
  obtain⟨f,j,A⟩:=zfI (fun _ _ _ h=>zfH h) _ _ _ z
  have K:=zaw J
  have L:=zgP _ _ _ _ (Nat.lt_succ_self _) H
  cases I
  cases j
  omega
 ·split at o
  ·obtain⟨a,n,w⟩:=zi o
   obtain⟨b,D,z⟩:=zi w
   obtain⟨c,J,H⟩:=zi n
   obtain⟨d,I,E⟩:=zi J
   obtain⟨f,j,A⟩:=zek D
   have K:=zfH z
   have L:=zdB H
   have V:=zaw I
   have U:=zaw E
   cases j
   omega
  ·split at o
   ·obtain⟨a,n,w⟩:=zi o
    obtain⟨b,D,z⟩:=zi w
    obtain⟨f,j,A⟩:=zek D
    have K:=zfH z
    have L:=zdB n
    cases j
    omega
   ·obtain⟨a,n,w⟩:=zi o
    have K:=zgO n
    have L:=zaw w
    omega
theorem zgQ {y:PRN} {F:PR→ByteArray→PR} {a:PS×ByteArray} (h:withN y F= .ok a): ∃b,y= .ok b∧F (.ok b.1) b.2= .ok a.1:=by
 obtain⟨b,j,n⟩:=zi h
 obtain⟨c,o,q⟩:=zi n
 cases q
 exact⟨b,j,o⟩
theorem zgR {C:Cx} {q:PS} {a:PS×ByteArray} (h:zcm C q= .ok a):q.pos<a.1.pos:=by
 obtain⟨b,H,D⟩:=zgQ h
 obtain⟨c,z,I⟩:=zi H
 obtain⟨d,A,o⟩:=zi D
 obtain⟨f,E,n⟩:=zi A
 obtain⟨g,w,j⟩:=zi E
 have J:=zaw z
 have M:=zdB I
 have O:=zaw (show zd C 4 cEq b.1= .ok g from w)
 have L:=zaP j
 have K:=zaw n
 have N:=zdC o
 omega
theorem zgS {C:Cx} {q:PS} {a:PS×ByteArray} (h:fnP C q= .ok a):q.pos<a.1.pos:=by
 obtain⟨b,V,N⟩:=zgQ h
 obtain⟨c,U,Y⟩:=zi V
 obtain⟨d,L,X⟩:=zi N
 obtain⟨f,M,J⟩:=zi L
 obtain⟨g,O,o⟩:=zi M
 obtain⟨i,I,z⟩:=zi O
 obtain⟨j,H,E⟩:=zi I
 obtain⟨k,D,n⟩:=zi H
 obtain⟨l,w,A⟩:=zi D
 have e1:=zaw U
 have e2:=zdB Y
 have e3:=zaw (show zd C 4 zm b.1= .ok l from w)
 have e4:=zaw A
 have e5:=zaw n
 have e6:=zaw E
 have Z:=zaP z
 have e8:=zaw o
 have e9:=zaw J
 have K:=zdC X
 omega
theorem zjV {C:Cx} {q q':PS} (h:zaf C q= .ok q'):q.pos<q'.pos:=by
 obtain⟨U,M,j⟩:=zi h
 have O:=zaw M
 split at j
 ·obtain⟨a,z,n⟩:=zi j
  obtain⟨c,L,J⟩:=zi z
  have H:=zaw L
  have I:=zgP _ _ _ _ (Nat.lt_succ_self _) J
  split at n
  ·obtain⟨b,w,A⟩:=zi n
   obtain⟨f,D,K⟩:=zfI (fun _ _ _ h=>zdD h) _ _ _ A
   have N:=zaw w
   cases D
   omega
  ·obtain⟨b,w,A⟩:=zi n
   obtain⟨d,E,o⟩:=zek w
   obtain⟨f,D,K⟩:=zfI (fun _ _ _ h=>zdD h) _ _ _ A
   cases E
   cases D
   omega
 ·split at j
  ·obtain⟨b,w,A⟩:=zi j
   obtain⟨d,E,o⟩:=zek w
   have H:=zaw E
   have I:=zdD A
   omega
  ·split at j
   ·obtain⟨a,z,n⟩:=zi j
    obtain⟨b,w,A⟩:=zi z
    obtain⟨c,L,J⟩:=zi w
    obtain⟨d,E,o⟩:=zi L
    have H:=zaw E
    have I:=zaP o
    have N:=zaw J
    have V:=zdC A
    have X:=zdD n
    omega
   ·split at j
    ·obtain⟨a,z,n⟩:=zi j
     have H:=zgR z
     have I:=zdD n
     omega
    ·split at j
     ·obtain⟨a,z,n⟩:=zi j
      have H:=zgS z
      have I:=zdD n
      omega
     ·cases j
theorem zgT {C:Cx} {s:ByteArray} {k:Int} {n:ByteArray} {q q':PS} (h:bd (bd (bd (zd C 1 s q) (pE C .sum 0)) (zd C 4 cSemi)) (zX C k n)= .ok q'):q.pos<q'.pos:=by
 obtain⟨a,D,z⟩:=zi h
 obtain⟨b,o,A⟩:=zi D
 obtain⟨c,w,j⟩:=zi o
 have E:=zaw w
 have I:=zaP j
 have J:=zaw A
 have H:=zdC z
 omega
theorem zeP {C:Cx} {q q':PS} (h:zy C q= .ok q'):q.pos<q'.pos:=by
 unfold zy at h
 split at h
 ·exact zjU h
 ·split at h
  ·exact zjV h
  ·split at h
   ·obtain⟨a,n,j⟩:=zi h
    cases j
    exact zgR n
   ·split at h
    ·obtain⟨a,n,j⟩:=zi h
     cases j
     exact zgS n
    ·split at h
     ·obtain⟨a,n,j⟩:=zi h
      obtain⟨b,z,H⟩:=zi n
      obtain⟨c,A,w⟩:=zi z
      obtain⟨d,E,o⟩:=zi A
      obtain⟨e,I,D⟩:=zi E
      have J:=zaw I
      have M:=zaw D
      have N:=zaP o
      have L:=zaw w
      have K:=zaw H
      have O:=zdC j
      omega
     ·split at h
      ·exact zgT h
      ·split at h
       ·exact zgT h
       ·obtain⟨a,n,j⟩:=zi h
        obtain⟨b,z,H⟩:=zi j
        obtain⟨c,A,w⟩:=zi z
        obtain⟨d,E,o⟩:=zi A
        have J:=zdB n
        have M:=zaw E
        have N:=zaP o
        have L:=zaw w
        have K:=zdC H
        omega
def zcK (C:Cx):Nat→PS→PR
 |0,_=>.error 0
 |f+1,q=>if q.pos<C.ts.length then bd (zy C q) (zcK C f) else .ok q
def zaq (C:Cx) (q:PS):PR:=zcK C (C.ts.length-q.pos+1) q
theorem zjW {C:Cx} (f:Nat): ∀(g:Nat) (q:PS),C.ts.length-q.pos<f→C.ts.length-q.pos<g→zcK C f q=zcK C g q:=by
 induction f with
 |zero=>intro g q h;omega
 |succ f j=>
  intro g q w z
  obtain⟨g,rfl⟩: ∃n,g=n+1:=⟨g-1,by omega⟩
  rw[zcK,zcK]
  split
  ·refine zZ fun a o=>?_
   have:=zeP o
   exact j g a (by omega) (by omega)
  ·rfl
theorem zeQ (C:Cx) (q:PS):zaq C q=if q.pos<C.ts.length then bd (zy C q) (zaq C) else .ok q:=by
 rw[zaq,zcK]
 split
 ·refine zZ fun a h=>?_
  have:=zeP h
  exact zjW _ _ _ (by omega) (by omega)
 ·rfl
def zb3:PS:=⟨0,[],[],[],[],[],[]⟩
def zb4 (s:ByteArray) (scr:Bool) (y:PR):Prop:=∃r,zac s scr r∧y=match r with
 | .error p=>.error p
 | .ok ts=>zaq ⟨ts,s.size,scr⟩ zb3
theorem zgU {s:ByteArray} {h:Bool} {j n:PR} (q:zb4 s h j) (w:zb4 s h n):j=n:=by
 obtain⟨A,o,rfl⟩:=q
 obtain⟨D,z,rfl⟩:=w
 obtain rfl:=zjC o z
 rfl
theorem zjX {s:ByteArray} {z:Bool} {a n:Nat} {r:Except Nat (List Tk)} (h:Lx s z a n r): ∀o,r= .ok o→n≤4000→o.length+n≤4000:=by
 induction h using Lx.ind with
 |done=>intro o q w;cases q;simpa using w
 |bad _ _=>intro o q w;cases q
 | @tok a n e b t r h w E D q A=>
  intro o j _
  cases r with
  |error p=>simp[Except.map] at j
  |ok l=>
   simp only[Except.map,Except.ok.injEq] at j
   subst j
   have:=A l rfl (by omega)
   simp only[List.length_cons]
   omega
theorem zgV {s:ByteArray} {n:Bool} {j:List Tk} (h:zac s n (.ok j)):j.length≤4000:=by
 obtain⟨a,_,o⟩:=h
 have:=zjX o j rfl (by omega)
 omega
def R0:Rw:=⟨none,0⟩
def S0:Sv:=⟨R0,R0,R0,R0,R0,R0⟩
theorem zdE (w:World) (h size:Nat) (e:TypeId):OwnR w h e size R0 0 []:=World.ownsRow_nil w h e size
theorem zjY (w:World) (j:Nat):Own w j S0 zb3:=
 ⟨zdE _ _ _ _,zdE _ _ _ _,zdE _ _ _ _,zdE _ _ _ _,zdE _ _ _ _,zdE _ _ _ _,fun k h=>by simp[S0,R0,Rw.blk,Value.ownBlock] at h⟩
theorem zgW {w:World} {j g o:Nat} {q:List Tk} {n:Nat} {z:Bool} (h:OwnT w j 111 g q.length o q) (D:q.length≤4000) (A:j≤w.heap.size):Mem ⟨q,n,z⟩ g o j S0 zb3 w:=
 ⟨zjY _ _,⟨Nat.zero_le _,Nat.zero_le _,Nat.zero_le _,Nat.zero_le _,Nat.zero_le _,Nat.zero_le _⟩,h,D,A⟩
structure OwnMod (w:World) (base:Nat) (S:Sv) (q:PS):Prop where
 rq:OwnR w base 9 1 S.rq q.rq.length (q.rq.map .string)
 im:OwnR w base 100 3 S.im q.im.length (q.im.flatMap imL)
 ep:OwnR w base 102 4 S.ep (q.ep++q.la).length ((q.ep++q.la).flatMap epL)
 st:OwnR w base 106 3 S.st q.st.length (q.st.flatMap smL)
 ex:OwnR w base 108 6 S.ex q.ex.length (q.ex.flatMap exL)
 inv:q.rq.length≤40∧q.im.length≤40∧q.ep.length+q.la.length≤40∧q.st.length≤80∧q.ex.length≤300
def zeR (S:Sv) (q:PS):Value:=.agg #[.slice S.rq.a q.rq.length S.rq.cap,.slice S.im.a q.im.length S.im.cap,.slice S.ep.a (q.ep++q.la).length S.ep.cap,.slice S.st.a q.st.length S.st.cap,.slice S.ex.a q.ex.length S.ex.cap]
def ParseOut (s:ByteArray) (scr:Bool) (w:World) (e:Ending) (w':World):Prop:=
 ∃y,zb4 s scr y∧match y with
  | .ok q=>∃S,e= .returned (.tuple #[zeR S q,.int .i64 (-1)])∧OwnMod w' w.heap.size S q
  | .error p=>e= .returned (.tuple #[.agg #[.slice none 0 0,.slice none 0 0,.slice none 0 0,.slice none 0 0,.slice none 0 0],.int .i64 p])
theorem OwnR.low {w:World} {o j size n:Nat} {e:TypeId} {r:Rw} {xs:List Value} (h:OwnR w o e size r n xs) (D:j≤o):OwnR w j e size r n xs:=by
 refine⟨h.1,?_⟩
 rcases h.2 with q|⟨g,A,z,q,E,rest⟩
 ·exact .inl q
 ·exact .inr ⟨g,A,z,q,Nat.le_trans D E,rest⟩
theorem OwnR.nil_or {w:World} {o size n:Nat} {e:TypeId} {r:Rw} {xs:List Value} (h:OwnR w o e size r n xs):(r.a=none∧r.cap=0∧n=0)∨∃g,r.a=some ⟨g,0,none⟩:=by
 rcases h.2 with ⟨j,q⟩|⟨g,A,z,j,_⟩
 ·simp only[Value.slice.injEq] at j
  exact .inl ⟨j.1,j.2.2,q⟩
 ·simp only[Value.slice.injEq] at j
  exact .inr ⟨g,j.1⟩
theorem zjZ {P:Program} (W:World) {N:Array Oper} {rest:List Oper} {o:Oper} {a:Act} {Q:Exit→Act→World→Prop} (ac:o.guard=none) (s x:Operand) (t:TypeId)
  (ho:o.op= .call {callee:=.builtin .append,args:=#[s,x],argTypes:=#[t,t]})
  (A:Nat) (e:TypeId) (i:TypeInfo) (z:Value) (size q:Nat) (ht:P.underlying t=some (.slice e)) (hi:P.info? e=some i) (hz:i.zero=some z) (E:i.size=size) (ab:i.bytes=q) (Y:z.cells.size=size) (aa:0<size) (M:q≤100)
  (r:Rw) (n:Nat) (xs:List Value) (hs:a.eval s= .slice r.a n r.cap) (L:OwnR W A e size r n xs)
  (K m c H:Nat) (w:List Value) (hx:a.eval x= .slice (some ⟨K,0,none⟩) m c) (X:OwnR W H e size ⟨some ⟨K,0,none⟩,c⟩ m w) (h1: ∀u∈w,u.oneCell'=true) (hn:n+m≤1000000) (I:A≤W.heap.size)
  (h: ∀U J,OwnR J A e size U (n+m) (xs++w)→W.grownBy J r.blk→(U.blk=r.blk∨U.blk=some W.heap.size)→wpList P N Q rest (a.put o.dst (.slice U.a (n+m:Nat) U.cap)) J):
  wpList P N Q (o::rest) a W:=by
 refine wpList_append_own_at _ ac s x t ho A e i z size q ht hi hz E ab Y aa _ n _ hs L ⟨K,0,none⟩ m c w hx X.1 ?_ h1 ?_ ?_ I ?_
 ·intro j u hj
  have e1:(⟨K,0,none⟩:Addr).add j=⟨K,j,none⟩:=by simp[Addr.add];exact fun h=>h.symm
  have ad:j<w.length:=(List.getElem?_eq_some_iff.1 hj).1
  rw[e1,World.ownsRow.cellAt X j (by rw[←X.1];exact ad)]
  exact hj
 ·unfold maxLen;omega
 ·have:(n+m)*q≤1000000*100:=Nat.mul_le_mul hn M
  omega
 ·intro v' J V k2 k3 k4
  rcases V.2 with ⟨hv,O⟩|⟨g',D,ae,rfl,Z⟩
  ·subst hv
   have:=h ⟨none,0⟩ J (by rw[O] at V ⊢;exact V) (by rw[←zbh r n];exact k2) (by rw[←zbh r n];exact k4)
   rw[O] at this
   exact this
  ·refine h ⟨some ⟨g',0,none⟩,D⟩ J V ?_ ?_
   ·rw[←zbh r n];exact k2
   ·rw[←zbh r n,←zbh ⟨some ⟨g',0,none⟩,D⟩ (n+m)];exact k4
theorem zka {P:Program} (W:World) {q:Array Oper} {rest:List Oper} {o:Oper} {a:Act} {Q:Exit→Act→World→Prop} (A:o.guard=none) (s x:Operand) (t:TypeId)
  (L:o.op= .call {callee:=.builtin .append,args:=#[s,x],argTypes:=#[t,t]})
  (e:TypeId) (i:TypeInfo) (E:P.underlying t=some (.slice e)) (D:P.info? e=some i) (j size n:Nat)
  (r:Rw) (xs:List Value) (J:a.eval s= .slice r.a n r.cap) (w:OwnR W j e size r n xs) (N:a.eval x= .slice none 0 0)
  (h:wpList P q Q rest (a.put o.dst (.slice r.a n r.cap)) W):wpList P q Q (o::rest) a W:=by
 have O:(Builtin.append_ #[t,t] o.type #[.slice r.a n r.cap,.slice none 0 0]).run P W= .ok (.slice r.a n r.cap) W:=by
  rcases w.2 with ⟨z,_⟩|⟨g,U,M,z,_,_,I,_⟩
  ·rw[z]
   simp[Builtin.append_,run_underlying E,sizeOf,typeInfo,D,Builtin.lenOf,Builtin.firstCells]
  ·rw[z]
   simp[Builtin.append_,run_underlying E,sizeOf,typeInfo,D,Builtin.lenOf,Builtin.firstCells,loadCells,I,storeCells]
 refine wpList_plain A fun K H=>?_
 unfold Oper.wp execOp
 simp only[L,resolve,invoke,builtin,Sem.run_bind,Sem.run_pure,Result.andThen_ok,List.map_toArray,List.map_cons,List.map_nil,J,N,O]
 exact H _ _ h
theorem zfJ (l:List Ep): ∀u∈l.flatMap epL,u.oneCell'=true:=by
 intro u j
 rw[List.mem_flatMap] at j
 obtain⟨x,_,h⟩:=j
 simp[epL] at h
 rcases h with rfl|rfl|rfl|rfl<;>rfl
theorem Mem.whole {C:Cx} {Z H j b B:Nat} {S:Sv} {q:PS} {W I J:World} {E:Rw} (z:Mem C Z H j S q W) (U:W.grownBy I S.ep.blk) (O:OwnR I j 102 4 E (q.ep.length+q.la.length) (q.ep.flatMap epL++q.la.flatMap epL)) (M:E.blk=S.ep.blk∨E.blk=some W.heap.size) (hB:B<j) (hb:b<W.heap.size) (w: ¬S.has b)
  (N: ∀k,k≠B→k≠b→J.heap[k]? =I.heap[k]?):OwnMod J B {S with ep:=E} q:=by
 have A:(q.ep++q.la).length=q.ep.length+q.la.length:=by simp
 have D: ∀(r:Rw) (e:TypeId) (o n:Nat) (K:List Value),OwnR W j e o r n K→e≠102→(∀k,r.blk=some k→S.has k)→OwnR J B e o r n K:=fun r e o n K h Y V=>
  ((h.keep fun k g=>(N k (by have:=(h.typed g).1;omega) (fun L=>w (by rw[←L];exact V k g))).trans (U.block k (h.typed g).2.1 fun X=>(h.ne z.own.ep Y g) X.symm)).low (by omega))
 refine⟨D _ _ _ _ _ z.own.rq (by decide) fun k g=>.inl g,D _ _ _ _ _ z.own.im (by decide) fun k g=>.inr (.inl g),?_,D _ _ _ _ _ z.own.st (by decide) fun k g=>.inr (.inr (.inr (.inl g))),D _ _ _ _ _ z.own.ex (by decide) fun k g=>.inr (.inr (.inr (.inr (.inl g)))),z.inv.rq,z.inv.im,z.inv.ep,z.inv.st,z.inv.ex⟩
 rw[A,List.flatMap_append]
 refine (O.keep fun k g=>N k (by have:=(O.typed g).1;omega) ?_).low (by omega)
 rcases M with e|e
 ·intro L
  exact w (by rw[←L];exact .inr (.inr (.inl (by rw[←e];exact g))))
 ·have:W.heap.size=k:=Option.some.inj (e.symm.trans g)
  omega
theorem Mem.whole0 {C:Cx} {L H j b B:Nat} {S:Sv} {q:PS} {W D:World} (w:Mem C L H j S q W) (M:q.la=[]) (N:B<j) (z: ¬S.has b)
  (I: ∀k,k≠B→k≠b→D.heap[k]? =W.heap[k]?):OwnMod D B S q:=by
 have A: ∀(r:Rw) (e:TypeId) (o n:Nat) (E:List Value),OwnR W j e o r n E→(∀k,r.blk=some k→S.has k)→OwnR D B e o r n E:=fun r e o n E h J=>
  ((h.keep fun k g=>I k (by have:=(h.typed g).1;omega) (fun K=>z (by rw[←K];exact J k g))).low (by omega))
 refine⟨A _ _ _ _ _ w.own.rq fun k g=>.inl g,A _ _ _ _ _ w.own.im fun k g=>.inr (.inl g),?_,A _ _ _ _ _ w.own.st fun k g=>.inr (.inr (.inr (.inl g))),A _ _ _ _ _ w.own.ex fun k g=>.inr (.inr (.inr (.inr (.inl g)))),w.inv.rq,w.inv.im,w.inv.ep,w.inv.st,w.inv.ex⟩
 rw[M,List.append_nil]
 exact A _ _ _ _ _ w.own.ep fun k g=>.inr (.inr (.inl g))
theorem zk {w:World} {b:Nat} {t:TypeId} {o z j n q:Value} (h:w.heap[b]? =some (.cells #[o,z,j,n,q] t (0,0))):
  w.cell? ⟨b,0,none⟩=some o∧w.cell? ⟨b,1,none⟩=some z∧w.cell? ⟨b,2,none⟩=some j∧w.cell? ⟨b,3,none⟩=some n∧w.cell? ⟨b,4,none⟩=some q∧∀i,w.frozen? ⟨b,i,none⟩=false:=by
 refine⟨?_,?_,?_,?_,?_,fun i=>?_⟩<;>simp[World.cell?,World.frozen?,h]
theorem zas {w:World} {b i:Nat} {j:Array Value} {u:Value} {t:TypeId} (h:w.heap[b]? =some (.cells j t (0,0))):(w.setCell ⟨b,i,none⟩ u).heap[b]? =some (.cells (j.setIfInBounds i u) t (0,0)):=by
 simp only[World.setCell,Array.getElem?_modify]
 rw[if_pos trivial,h]
 rfl
theorem zcU {w:World} {b:Nat} {H A D E I z n j q o:Value} {t:TypeId} (h:w.heap[b]? =some (.cells #[H,A,D,E,I] t (0,0))):
  (((((w.setCell ⟨b,0,none⟩ z).setCell ⟨b,1,none⟩ n).setCell ⟨b,2,none⟩ j).setCell ⟨b,3,none⟩ q).setCell ⟨b,4,none⟩ o).heap[b]? =some (.cells #[z,n,j,q,o] t (0,0)):=by
 have e:=zas (i:=4) (u:=o) (zas (i:=3) (u:=q) (zas (i:=2) (u:=j) (zas (i:=1) (u:=n) (zas (i:=0) (u:=z) h))))
 rw[e]
 simp
theorem zdg {B:Nat} {a w:World} {b:Nat} (h:Below B a w) (j:B≤b) (A o n z q:Value):Below B a (((((w.setCell ⟨b,0,none⟩ A).setCell ⟨b,1,none⟩ o).setCell ⟨b,2,none⟩ n).setCell ⟨b,3,none⟩ z).setCell ⟨b,4,none⟩ q):=
 ((((h.setCell j _).setCell j _).setCell j _).setCell j _).setCell j _
end Go.Proofs.YticdggnnpjachaaGreat
