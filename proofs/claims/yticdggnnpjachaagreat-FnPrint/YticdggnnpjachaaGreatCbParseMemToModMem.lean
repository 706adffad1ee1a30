/-
  A program under way in memory: its six rows,what a step leaves as it was. No program is spoken of but for the numbers of its types.
  One of the six rows of a program under way grows by one element: what holds behind it. No program is spoken of but for the numbers of its types.
  Items of programs,as plain functions. No program is spoken of.
  A whole program,as a plain function of its tokens: items one behind the other. No program is spoken of.
  A text has at most 4000 tokens. No program is spoken of.
  A program in memory,as Parse hands it back. No program is spoken of but for the numbers of its types.
-/
import Derived.Maps.AppendAt
import Derived.Test.YticdggnnpjachaaGreatCbDrawProgCToTokMem
namespace Go.Proofs.YticdggnnpjachaaGreat
open Go.RowKit Go.PlainAid
def imL (x:Im):List Value:=[.string x.spec,.string x.first,.string x.loc]
def epL (x:Ep):List Value:=[.int .i64 x.kind,.string x.name,.string x.loc,.string x.spec]
def smL (x:Sm):List Value:=[.int .i64 x.kind,.string x.name,.int .i64 x.expr]
def exL (x:Ex):List Value:=[.int .i64 x.kind,.int .i64 x.num,.string x.name,.string x.field,.int .i64 x.l,.int .i64 x.r]
structure Rw where
 a:Option Addr
 cap:Nat
structure Sv where
 rq:Rw
 im:Rw
 ep:Rw
 st:Rw
 ex:Rw
 la:Rw
def Rw.blk (r:Rw):Option Nat:=(Value.slice r.a 0 r.cap).ownBlock
def Sv.has (S:Sv) (k:Nat):Prop:=S.rq.blk=some k∨S.im.blk=some k∨S.ep.blk=some k∨S.st.blk=some k∨S.ex.blk=some k∨S.la.blk=some k
def OwnR (w:World) (base:Nat) (e:TypeId) (size:Nat) (r:Rw) (n:Nat) (xs:List Value):Prop:=w.ownsRow base e size (.slice r.a n r.cap) n xs
theorem zbo (r:Rw) (n:Nat):(Value.slice r.a n r.cap).ownBlock=r.blk:=by
 unfold Rw.blk Value.ownBlock
 cases r.a<;>rfl
structure Own (w:World) (base:Nat) (S:Sv) (q:PS):Prop where
 rq:OwnR w base 9 1 S.rq q.rq.length (q.rq.map .string)
 im:OwnR w base 100 3 S.im q.im.length (q.im.flatMap imL)
 ep:OwnR w base 102 4 S.ep q.ep.length (q.ep.flatMap epL)
 st:OwnR w base 106 3 S.st q.st.length (q.st.flatMap smL)
 ex:OwnR w base 108 6 S.ex q.ex.length (q.ex.flatMap exL)
 la:OwnR w base 102 4 S.la q.la.length (q.la.flatMap epL)
 apart: ∀k,S.ep.blk=some k→S.la.blk≠some k
theorem OwnR.typed {w:World} {j size n:Nat} {e:TypeId} {r:Rw} {xs:List Value} (h:OwnR w j e size r n xs) {k:Nat} (q:r.blk=some k):j≤k∧k<w.heap.size∧∃o,w.heap[k]? =some (.cells o e (0,0)):=by
 rcases h.2 with ⟨z,_⟩|⟨g,D,o,z,E,A,_⟩
 ·rw[←zbo r n,z] at q
  simp[Value.ownBlock] at q
 ·rw[←zbo r n,z] at q
  simp only[Value.ownBlock,Option.some.injEq] at q
  subst q
  exact⟨E,(Array.getElem?_eq_some_iff.1 A).1,o,A⟩
theorem OwnR.ne {w:World} {J b2 Q D I E:Nat} {o z:TypeId} {n q:Rw} {N A:List Value} (H:OwnR w J o Q n I N) (O:OwnR w b2 z D q E A) (M:o≠z) {k:Nat} (K:n.blk=some k):q.blk≠some k:=by
 intro h
 obtain⟨_,_,U,L⟩:=H.typed K
 obtain⟨_,_,V,j⟩:=O.typed h
 rw[L] at j
 simp only[Option.some.injEq,Obj.cells.injEq] at j
 exact M j.2.1
theorem OwnR.keep {w A:World} {j size n:Nat} {e:TypeId} {r:Rw} {xs:List Value} (h:OwnR w j e size r n xs) (H: ∀k,r.blk=some k→A.heap[k]? =w.heap[k]?):OwnR A j e size r n xs:=by
 refine⟨h.1,?_⟩
 rcases h.2 with o|⟨g,q,z,o,E,D,rest⟩
 ·exact .inl o
 ·refine .inr ⟨g,q,z,o,E,?_,rest⟩
  rw[H g (by rw[←zbo r n,o];rfl)]
  exact D
theorem Own.keep {w o:World} {j:Nat} {S:Sv} {q:PS} (h:Own w j S q) (n: ∀k,S.has k→o.heap[k]? =w.heap[k]?):Own o j S q:=
 ⟨h.rq.keep fun k e=>n k (.inl e),h.im.keep fun k e=>n k (.inr (.inl e)),h.ep.keep fun k e=>n k (.inr (.inr (.inl e))),h.st.keep fun k e=>n k (.inr (.inr (.inr (.inl e)))),
  h.ex.keep fun k e=>n k (.inr (.inr (.inr (.inr (.inl e))))),h.la.keep fun k e=>n k (.inr (.inr (.inr (.inr (.inr e))))),h.apart⟩
theorem Own.has {w:World} {j:Nat} {S:Sv} {q:PS} (h:Own w j S q) {k:Nat} (n:S.has k):j≤k∧k<w.heap.size:=by
 rcases n with e|e|e|e|e|e
 ·exact⟨(h.rq.typed e).1,(h.rq.typed e).2.1⟩
 ·exact⟨(h.im.typed e).1,(h.im.typed e).2.1⟩
 ·exact⟨(h.ep.typed e).1,(h.ep.typed e).2.1⟩
 ·exact⟨(h.st.typed e).1,(h.st.typed e).2.1⟩
 ·exact⟨(h.ex.typed e).1,(h.ex.typed e).2.1⟩
 ·exact⟨(h.la.typed e).1,(h.la.typed e).2.1⟩
theorem Own.later {w n:World} {j:Nat} {S:Sv} {q:PS} (h:Own w j S q) (o:Below w.heap.size w n):Own n j S q:=h.keep fun k e=>o.block k (h.has e).2
theorem Own.other {w:World} {o:Nat} {S:Sv} {q:PS} (h:Own w o S q) {k:Nat} {A:Array Value} {e:TypeId} {z:Nat×Nat} (n:w.heap[k]? =some (.cells A e z)) (I:e≠9) (J:e≠100) (D:e≠102) (E:e≠106) (H:e≠108): ¬S.has k:=by
 rintro (g|g|g|g|g|g)
 ·obtain⟨_,_,c,j⟩:=h.rq.typed g
  rw[n] at j
  simp only[Option.some.injEq,Obj.cells.injEq] at j
  exact I j.2.1
 ·obtain⟨_,_,c,j⟩:=h.im.typed g
  rw[n] at j
  simp only[Option.some.injEq,Obj.cells.injEq] at j
  exact J j.2.1
 ·obtain⟨_,_,c,j⟩:=h.ep.typed g
  rw[n] at j
  simp only[Option.some.injEq,Obj.cells.injEq] at j
  exact D j.2.1
 ·obtain⟨_,_,c,j⟩:=h.st.typed g
  rw[n] at j
  simp only[Option.some.injEq,Obj.cells.injEq] at j
  exact E j.2.1
 ·obtain⟨_,_,c,j⟩:=h.ex.typed g
  rw[n] at j
  simp only[Option.some.injEq,Obj.cells.injEq] at j
  exact H j.2.1
 ·obtain⟨_,_,c,j⟩:=h.la.typed g
  rw[n] at j
  simp only[Option.some.injEq,Obj.cells.injEq] at j
  exact D j.2.1
structure Stp (S:Sv) (w:World) (S':Sv) (w':World):Prop where
 os:w'.os=w.os
 tape:w'.tape=w.tape
 output:w'.output=w.output
 size:w.heap.size≤w'.heap.size
 block: ∀k,k<w.heap.size→¬S.has k→w'.heap[k]? =w.heap[k]?
 sub: ∀k,S'.has k→S.has k∨w.heap.size≤k
theorem Stp.refl (S:Sv) (w:World):Stp S w S w:=⟨rfl,rfl,rfl,Nat.le_refl _,fun _ _ _=>rfl,fun _ h=>.inl h⟩
theorem Stp.trans {S n q:Sv} {w o z:World} (h:Stp S w n o) (k:Stp n o q z):Stp S w q z:=
 ⟨k.os.trans h.os,k.tape.trans h.tape,k.output.trans h.output,Nat.le_trans h.size k.size,
  fun i j A=>(k.block i (Nat.lt_of_lt_of_le j h.size) fun g=>(h.sub i g).elim A fun D=>by omega).trans (h.block i j A),
  fun i j=>(k.sub i j).elim (h.sub i) fun g=>.inr (Nat.le_trans h.size g)⟩
theorem Stp.below {S:Sv} {w j:World} (h:Below w.heap.size w j):Stp S w S j:=⟨h.os,h.tape,h.output,h.size,fun k n _=>h.block k n,fun _ g=>.inl g⟩
theorem Stp.under {S z:Sv} {w n:World} {j:Nat} {q:PS} (h:Stp S w z n) (A:j≤w.heap.size) (o:Own w j S q):Below j w n:=
 ⟨h.os,h.tape,h.output,h.size,fun k D=>h.block k (by omega) fun g=>by have:=(o.has g).1;omega⟩
theorem Stp.grown {S o:Sv} {w n:World} {row:Option Nat} (j:w.grownBy n row) (q: ∀k,row=some k→S.has k) (z: ∀k,o.has k→S.has k∨w.heap.size≤k):Stp S w o n:=
 ⟨j.os,j.tape,j.output,j.size,fun k D A=>j.block k D fun e=>A (q k e.symm),z⟩
structure Inv (C:Cx) (q:PS):Prop where
 pos:q.pos≤C.ts.length
 rq:q.rq.length≤40
 im:q.im.length≤40
 ep:q.ep.length+q.la.length≤40
 st:q.st.length≤80
 ex:q.ex.length≤300
structure Mem (C:Cx) (gt cap base:Nat) (S:Sv) (q:PS) (w:World):Prop where
 own:Own w base S q
 inv:Inv C q
 tok:OwnT w base 111 gt C.ts.length cap C.ts
 few:C.ts.length≤4000
 base:base≤w.heap.size
theorem Mem.later {C:Cx} {A n j:Nat} {S:Sv} {q:PS} {w z:World} (h:Mem C A n j S q w) (o:Below w.heap.size w z):Mem C A n j S q z:=
 ⟨h.own.later o,h.inv,zbV h.tok o,h.few,Nat.le_trans h.base o.size⟩
theorem Mem.alloc {C:Cx} {z n j:Nat} {S:Sv} {q:PS} {w:World} (h:Mem C z n j S q w) (o:Obj):Mem C z n j S q (w.alloc o):=h.later ((Below.refl _ _).alloc (Nat.le_refl _) _)
theorem Own.to {w:World} {j:Nat} {S:Sv} {q q':PS} (h:Own w j S q) (D:q'.rq=q.rq) (E:q'.im=q.im) (n:q'.ep=q.ep) (o:q'.st=q.st) (z:q'.ex=q.ex) (A:q'.la=q.la):Own w j S q':=
 ⟨by rw[D];exact h.rq,by rw[E];exact h.im,by rw[n];exact h.ep,by rw[o];exact h.st,by rw[z];exact h.ex,by rw[A];exact h.la,h.apart⟩
theorem Mem.adv {C:Cx} {o n j:Nat} {S:Sv} {q:PS} {w:World} (h:Mem C o n j S q w) (z:q.pos<C.ts.length):Mem C o n j S (adv q) w:=
 ⟨h.own.to rfl rfl rfl rfl rfl rfl,⟨z,h.inv.rq,h.inv.im,h.inv.ep,h.inv.st,h.inv.ex⟩,h.tok,h.few,h.base⟩
theorem OwnR.alloc {w:World} {j size n:Nat} {e:TypeId} {r:Rw} {xs:List Value} (h:OwnR w j e size r n xs) (o:Obj):OwnR (w.alloc o) j e size r n xs:=
 h.keep fun k q=>Below.heap_alloc w o k (h.typed q).2.1
theorem zfr {w:World} {o g n z:Nat} {e:TypeId} {E:List Tk} (h:OwnT w o e g n z E): ∃j,w.heap[g]? =some (.cells j e (0,0)):=by
 rcases h.1.2 with ⟨q,_⟩|⟨I,A,j,q,H,D,J,_⟩
 ·simp at q
 ·simp only[Value.slice.injEq,Option.some.injEq,Addr.mk.injEq,and_true,true_and] at q
  obtain⟨rfl,rfl⟩:=q
  exact⟨j,D⟩
theorem zb0 {w A:World} {j g n o:Nat} {e:TypeId} {D:List Tk} (h:OwnT w j e g n o D) (K:A.heap[g]? =w.heap[g]?):OwnT A j e g n o D:=by
 refine⟨⟨h.1.1,?_⟩,h.2⟩
 rcases h.1.2 with k|⟨L,H,z,E,q,J,I⟩
 ·exact .inl k
 ·simp only[Value.slice.injEq,Option.some.injEq,Addr.mk.injEq,and_true,true_and] at E
  obtain⟨rfl,rfl⟩:=E
  exact .inr ⟨g,o,z,rfl,q,K.trans J,I⟩
theorem Mem.gt_free {C:Cx} {o n j:Nat} {S:Sv} {q:PS} {w:World} (h:Mem C o n j S q w): ¬S.has o:=by
 obtain⟨A,z⟩:=zfr h.tok
 exact h.own.other z (by decide) (by decide) (by decide) (by decide) (by decide)
structure Off (lo hi:Nat) (w w':World):Prop where
 os:w'.os=w.os
 tape:w'.tape=w.tape
 output:w'.output=w.output
 size:w.heap.size≤w'.heap.size
 block: ∀k,k<lo∨hi≤k∧k<w.heap.size→w'.heap[k]? =w.heap[k]?
theorem Off.refl (n j:Nat) (w:World):Off n j w w:=⟨rfl,rfl,rfl,Nat.le_refl _,fun _ _=>rfl⟩
theorem Off.set {n o:Nat} {w j:World} (h:Off n o w j) {b:Nat} (A:n≤b) (z:b<o) (i:Nat) (u:Value):Off n o w (j.setCell ⟨b,i,none⟩ u):=
 ⟨h.os,h.tape,h.output,by show _≤(j.heap.modify _ _).size;simp;exact h.size,fun k q=>(Below.heap_setCell j ⟨b,i,none⟩ u k (by show k≠b;omega)).trans (h.block k q)⟩
theorem Off.below {o z:Nat} {w n q:World} (h:Off o z w n) (j:Below n.heap.size n q) (A:o≤w.heap.size):Off o z w q:=
 ⟨j.os.trans h.os,j.tape.trans h.tape,j.output.trans h.output,Nat.le_trans h.size j.size,fun k D=>(j.block k (by have:=h.size;omega)).trans (h.block k D)⟩
theorem Off.set12 {q z:Nat} {a w:World} (h:Off q z a w) {b:Nat} (j:q≤b) (n:b<z) (M O I L N K E H D J o A:Value):
  Off q z a ((((((((((((w.setCell ⟨b,0,none⟩ M).setCell ⟨b,1,none⟩ O).setCell ⟨b,2,none⟩ I).setCell ⟨b,3,none⟩ L).setCell ⟨b,4,none⟩ N).setCell ⟨b,5,none⟩ K).setCell ⟨b,6,none⟩ E).setCell ⟨b,7,none⟩ H).setCell ⟨b,8,none⟩ D).setCell ⟨b,9,none⟩ J).setCell ⟨b,10,none⟩ o).setCell ⟨b,11,none⟩ A):=
 (((((((((((h.set j n _ _).set j n _ _).set j n _ _).set j n _ _).set j n _ _).set j n _ _).set j n _ _).set j n _ _).set j n _ _).set j n _ _).set j n _ _).set j n _ _
theorem zcu {P:Program} (W:World) {L:Array Oper} {rest:List Oper} {o:Oper} {a:Act} {Q:Exit→Act→World→Prop} (X:o.guard=none) (s x:Operand) (t:TypeId)
  (ho:o.op= .call {callee:=.builtin .append,args:=#[s,x],argTypes:=#[t,t]})
  (D:Nat) (e:TypeId) (i:TypeInfo) (z:Value) (size q:Nat) (ht:P.underlying t=some (.slice e)) (hi:P.info? e=some i) (hz:i.zero=some z) (I:i.size=size) (Y:i.bytes=q) (U:z.cells.size=size) (Z:0<size) (N:q≤100)
  (r:Rw) (n:Nat) (xs:List Value) (hs:a.eval s= .slice r.a n r.cap) (J:OwnR W D e size r n xs)
  (O:Nat) (A:List Value) (hx:a.eval x= .slice (some ⟨O,0,none⟩) 1 1) (hg:W.heap[O]? =some (.cells A.toArray e (0,0))) (hl:A.length=size) (h1: ∀u∈A,u.oneCell'=true) (hn:n+1≤1000000) (H:D≤W.heap.size)
  (h: ∀M K,OwnR K D e size M (n+1) (xs++A)→W.grownBy K r.blk→(M.blk=r.blk∨M.blk=some W.heap.size)→wpList P L Q rest (a.put o.dst (.slice M.a (n+1) M.cap)) K):
  wpList P L Q (o::rest) a W:=by
 refine wpList_append_own_at _ X s x t ho D e i z size q ht hi hz I Y U Z _ n _ hs J ⟨O,0,none⟩ 1 1 A hx (by omega) ?_ h1 ?_ ?_ H ?_
 ·intro j u hj
  have:(⟨O,0,none⟩:Addr).add j=⟨O,j,none⟩:=by simp[Addr.add];exact fun h=>h.symm
  rw[this]
  simp[World.cell?,hg,hj]
 ·unfold maxLen;omega
 ·have:(n+1)*q≤1000000*100:=Nat.mul_le_mul hn N
  omega
 ·intro v' K k1 k2 k3 k4
  rcases k1.2 with ⟨hv,aa⟩|⟨g',E,ab,rfl,V⟩
  ·omega
  ·refine h ⟨some ⟨g',0,none⟩,E⟩ K k1 ?_ ?_
   ·rw[←zbo r n];exact k2
   ·rw[←zbo r n,←zbo ⟨some ⟨g',0,none⟩,E⟩ (n+1)];exact k4
theorem Mem.grow_rq {C:Cx} {U H A:Nat} {S:Sv} {q:PS} {w W Q E:World} (j:Mem C U H A S q w) (I:Below w.heap.size w W) (M:W.grownBy Q S.rq.blk) {D:Rw} {x:ByteArray} (X:OwnR Q A 9 1 D (q.rq.length+1) (q.rq.map .string++[.string x])) (K:D.blk=S.rq.blk∨D.blk=some W.heap.size) (z:Off w.heap.size W.heap.size Q E) (Y:q.rq.length<40):
  Mem C U H A {S with rq:=D} {q with rq:=q.rq++[x]} E∧Stp S w {S with rq:=D} E:=by
 have V:=I.size
 have L:=M.size
 have n: ∀k,k<w.heap.size→S.rq.blk≠some k→E.heap[k]? =w.heap[k]?:=fun k o O=>
  (z.block k (.inl o)).trans ((M.block k (by omega) fun e=>O e.symm).trans (I.block k o))
 have N:OwnR E A 9 1 D (q.rq.length+1) (q.rq.map .string++[.string x]):=X.keep fun k o=>z.block k (by
  rcases K with e|e
  ·rw[e] at o
   exact .inl (j.own.rq.typed o).2.1
  ·rw[e] at o
   obtain rfl:=Option.some.inj o
   exact .inr ⟨Nat.le_refl _,(X.typed e).2.1⟩)
 have J:(q.rq++[x]).length=q.rq.length+1:=by simp
 refine⟨⟨⟨by show OwnR E A 9 1 D (q.rq++[x]).length _;rw[J];simpa using N,j.own.im.keep fun k o=>n k (j.own.im.typed o).2.1 (j.own.im.ne j.own.rq (by decide) o),j.own.ep.keep fun k o=>n k (j.own.ep.typed o).2.1 (j.own.ep.ne j.own.rq (by decide) o),j.own.st.keep fun k o=>n k (j.own.st.typed o).2.1 (j.own.st.ne j.own.rq (by decide) o),j.own.ex.keep fun k o=>n k (j.own.ex.typed o).2.1 (j.own.ex.ne j.own.rq (by decide) o),j.own.la.keep fun k o=>n k (j.own.la.typed o).2.1 (j.own.la.ne j.own.rq (by decide) o),j.own.apart⟩,⟨j.inv.pos,by simp;omega,j.inv.im,j.inv.ep,j.inv.st,j.inv.ex⟩,zb0 j.tok (n U (zan j.tok).1 fun e=>j.gt_free (.inl e)),j.few,Nat.le_trans j.base (by have:=z.size;omega)⟩,?_⟩
 refine⟨z.os.trans (M.os.trans I.os),z.tape.trans (M.tape.trans I.tape),z.output.trans (M.output.trans I.output),Nat.le_trans (Nat.le_trans V L) z.size,fun k o Y=>n k o fun e=>Y (.inl e),fun k o=>?_⟩
 rcases o with h|h|h|h|h|h
 ·exact K.elim (fun e=>.inl (.inl (e.symm.trans h))) fun e=>.inr (by have:W.heap.size=k:=Option.some.inj (e.symm.trans h);omega)
 ·exact .inl (.inr (.inl h))
 ·exact .inl (.inr (.inr (.inl h)))
 ·exact .inl (.inr (.inr (.inr (.inl h))))
 ·exact .inl (.inr (.inr (.inr (.inr (.inl h)))))
 ·exact .inl (.inr (.inr (.inr (.inr (.inr h)))))
theorem Mem.grow_im {C:Cx} {U H A:Nat} {S:Sv} {q:PS} {w W Q E:World} (j:Mem C U H A S q w) (I:Below w.heap.size w W) (M:W.grownBy Q S.im.blk) {D:Rw} {x:Im} (X:OwnR Q A 100 3 D (q.im.length+1) (q.im.flatMap imL++imL x)) (K:D.blk=S.im.blk∨D.blk=some W.heap.size) (z:Off w.heap.size W.heap.size Q E) (Y:q.im.length<40):
  Mem C U H A {S with im:=D} {q with im:=q.im++[x]} E∧Stp S w {S with im:=D} E:=by
 have V:=I.size
 have L:=M.size
 have n: ∀k,k<w.heap.size→S.im.blk≠some k→E.heap[k]? =w.heap[k]?:=fun k o O=>
  (z.block k (.inl o)).trans ((M.block k (by omega) fun e=>O e.symm).trans (I.block k o))
 have N:OwnR E A 100 3 D (q.im.length+1) (q.im.flatMap imL++imL x):=X.keep fun k o=>z.block k (by
  rcases K with e|e
  ·rw[e] at o
   exact .inl (j.own.im.typed o).2.1
  ·rw[e] at o
   obtain rfl:=Option.some.inj o
   exact .inr ⟨Nat.le_refl _,(X.typed e).2.1⟩)
 have J:(q.im++[x]).length=q.im.length+1:=by simp
 refine⟨⟨⟨j.own.rq.keep fun k o=>n k (j.own.rq.typed o).2.1 (j.own.rq.ne j.own.im (by decide) o),by show OwnR E A 100 3 D (q.im++[x]).length _;rw[J];simpa using N,j.own.ep.keep fun k o=>n k (j.own.ep.typed o).2.1 (j.own.ep.ne j.own.im (by decide) o),j.own.st.keep fun k o=>n k (j.own.st.typed o).2.1 (j.own.st.ne j.own.im (by decide) o),j.own.ex.keep fun k o=>n k (j.own.ex.typed o).2.1 (j.own.ex.ne j.own.im (by decide) o),j.own.la.keep fun k o=>n k (j.own.la.typed o).2.1 (j.own.la.ne j.own.im (by decide) o),j.own.apart⟩,⟨j.inv.pos,j.inv.rq,by simp;omega,j.inv.ep,j.inv.st,j.inv.ex⟩,zb0 j.tok (n U (zan j.tok).1 fun e=>j.gt_free (.inr (.inl e))),j.few,Nat.le_trans j.base (by have:=z.size;omega)⟩,?_⟩
 refine⟨z.os.trans (M.os.trans I.os),z.tape.trans (M.tape.trans I.tape),z.output.trans (M.output.trans I.output),Nat.le_trans (Nat.le_trans V L) z.size,fun k o Y=>n k o fun e=>Y (.inr (.inl e)),fun k o=>?_⟩
 rcases o with h|h|h|h|h|h
 ·exact .inl (.inl h)
 ·exact K.elim (fun e=>.inl (.inr (.inl (e.symm.trans h)))) fun e=>.inr (by have:W.heap.size=k:=Option.some.inj (e.symm.trans h);omega)
 ·exact .inl (.inr (.inr (.inl h)))
 ·exact .inl (.inr (.inr (.inr (.inl h))))
 ·exact .inl (.inr (.inr (.inr (.inr (.inl h)))))
 ·exact .inl (.inr (.inr (.inr (.inr (.inr h)))))
theorem Mem.grow_ep {C:Cx} {U I A:Nat} {S:Sv} {q:PS} {w W Q H:World} (j:Mem C U I A S q w) (J:Below w.heap.size w W) (M:W.grownBy Q S.ep.blk) {D:Rw} {x:Ep} (X:OwnR Q A 102 4 D (q.ep.length+1) (q.ep.flatMap epL++epL x)) (E:D.blk=S.ep.blk∨D.blk=some W.heap.size) (z:Off w.heap.size W.heap.size Q H) (Z:q.ep.length+q.la.length<40):
  Mem C U I A {S with ep:=D} {q with ep:=q.ep++[x]} H∧Stp S w {S with ep:=D} H:=by
 have V:=J.size
 have L:=M.size
 have n: ∀k,k<w.heap.size→S.ep.blk≠some k→H.heap[k]? =w.heap[k]?:=fun k o O=>
  (z.block k (.inl o)).trans ((M.block k (by omega) fun e=>O e.symm).trans (J.block k o))
 have N:OwnR H A 102 4 D (q.ep.length+1) (q.ep.flatMap epL++epL x):=X.keep fun k o=>z.block k (by
  rcases E with e|e
  ·rw[e] at o
   exact .inl (j.own.ep.typed o).2.1
  ·rw[e] at o
   obtain rfl:=Option.some.inj o
   exact .inr ⟨Nat.le_refl _,(X.typed e).2.1⟩)
 have K:(q.ep++[x]).length=q.ep.length+1:=by simp
 refine⟨⟨⟨j.own.rq.keep fun k o=>n k (j.own.rq.typed o).2.1 (j.own.rq.ne j.own.ep (by decide) o),j.own.im.keep fun k o=>n k (j.own.im.typed o).2.1 (j.own.im.ne j.own.ep (by decide) o),by show OwnR H A 102 4 D (q.ep++[x]).length _;rw[K];simpa using N,j.own.st.keep fun k o=>n k (j.own.st.typed o).2.1 (j.own.st.ne j.own.ep (by decide) o),j.own.ex.keep fun k o=>n k (j.own.ex.typed o).2.1 (j.own.ex.ne j.own.ep (by decide) o),j.own.la.keep fun k o=>n k (j.own.la.typed o).2.1 (fun e=>j.own.apart k e o),fun k o Y=>E.elim (fun e=>j.own.apart k (by rw[←e];exact o) Y) fun e=>by have h1:=(j.own.la.typed Y).2.1;have h2:W.heap.size=k:=Option.some.inj (e.symm.trans o);omega⟩,⟨j.inv.pos,j.inv.rq,j.inv.im,by have:=j.inv.ep;simp;omega,j.inv.st,j.inv.ex⟩,zb0 j.tok (n U (zan j.tok).1 fun e=>j.gt_free (.inr (.inr (.inl e)))),j.few,Nat.le_trans j.base (by have:=z.size;omega)⟩,?_⟩
 refine⟨z.os.trans (M.os.trans J.os),z.tape.trans (M.tape.trans J.tape),z.output.trans (M.output.trans J.output),Nat.le_trans (Nat.le_trans V L) z.size,fun k o Z=>n k o fun e=>Z (.inr (.inr (.inl e))),fun k o=>?_⟩
 rcases o with h|h|h|h|h|h
 ·exact .inl (.inl h)
 ·exact .inl (.inr (.inl h))
 ·exact E.elim (fun e=>.inl (.inr (.inr (.inl (e.symm.trans h))))) fun e=>.inr (by have:W.heap.size=k:=Option.some.inj (e.symm.trans h);omega)
 ·exact .inl (.inr (.inr (.inr (.inl h))))
 ·exact .inl (.inr (.inr (.inr (.inr (.inl h)))))
 ·exact .inl (.inr (.inr (.inr (.inr (.inr h)))))
theorem Mem.grow_st {C:Cx} {U H A:Nat} {S:Sv} {q:PS} {w W Q E:World} (j:Mem C U H A S q w) (I:Below w.heap.size w W) (M:W.grownBy Q S.st.blk) {D:Rw} {x:Sm} (X:OwnR Q A 106 3 D (q.st.length+1) (q.st.flatMap smL++smL x)) (K:D.blk=S.st.blk∨D.blk=some W.heap.size) (z:Off w.heap.size W.heap.size Q E) (Y:q.st.length<80):
  Mem C U H A {S with st:=D} {q with st:=q.st++[x]} E∧Stp S w {S with st:=D} E:=by
 have V:=I.size
 have L:=M.size
 have n: ∀k,k<w.heap.size→S.st.blk≠some k→E.heap[k]? =w.heap[k]?:=fun k o O=>
  (z.block k (.inl o)).trans ((M.block k (by omega) fun e=>O e.symm).trans (I.block k o))
 have N:OwnR E A 106 3 D (q.st.length+1) (q.st.flatMap smL++smL x):=X.keep fun k o=>z.block k (by
  rcases K with e|e
  ·rw[e] at o
   exact .inl (j.own.st.typed o).2.1
  ·rw[e] at o
   obtain rfl:=Option.some.inj o
   exact .inr ⟨Nat.le_refl _,(X.typed e).2.1⟩)
 have J:(q.st++[x]).length=q.st.length+1:=by simp
 refine⟨⟨⟨j.own.rq.keep fun k o=>n k (j.own.rq.typed o).2.1 (j.own.rq.ne j.own.st (by decide) o),j.own.im.keep fun k o=>n k (j.own.im.typed o).2.1 (j.own.im.ne j.own.st (by decide) o),j.own.ep.keep fun k o=>n k (j.own.ep.typed o).2.1 (j.own.ep.ne j.own.st (by decide) o),by show OwnR E A 106 3 D (q.st++[x]).length _;rw[J];simpa using N,j.own.ex.keep fun k o=>n k (j.own.ex.typed o).2.1 (j.own.ex.ne j.own.st (by decide) o),j.own.la.keep fun k o=>n k (j.own.la.typed o).2.1 (j.own.la.ne j.own.st (by decide) o),j.own.apart⟩,⟨j.inv.pos,j.inv.rq,j.inv.im,j.inv.ep,by simp;omega,j.inv.ex⟩,zb0 j.tok (n U (zan j.tok).1 fun e=>j.gt_free (.inr (.inr (.inr (.inl e))))),j.few,Nat.le_trans j.base (by have:=z.size;omega)⟩,?_⟩
 refine⟨z.os.trans (M.os.trans I.os),z.tape.trans (M.tape.trans I.tape),z.output.trans (M.output.trans I.output),Nat.le_trans (Nat.le_trans V L) z.size,fun k o Y=>n k o fun e=>Y (.inr (.inr (.inr (.inl e)))),fun k o=>?_⟩
 rcases o with h|h|h|h|h|h
 ·exact .inl (.inl h)
 ·exact .inl (.inr (.inl h))
 ·exact .inl (.inr (.inr (.inl h)))
 ·exact K.elim (fun e=>.inl (.inr (.inr (.inr (.inl (e.symm.trans h)))))) fun e=>.inr (by have:W.heap.size=k:=Option.some.inj (e.symm.trans h);omega)
 ·exact .inl (.inr (.inr (.inr (.inr (.inl h)))))
 ·exact .inl (.inr (.inr (.inr (.inr (.inr h)))))
theorem Mem.grow_ex {C:Cx} {U H A:Nat} {S:Sv} {q:PS} {w W Q E:World} (j:Mem C U H A S q w) (I:Below w.heap.size w W) (M:W.grownBy Q S.ex.blk) {D:Rw} {x:Ex} (X:OwnR Q A 108 6 D (q.ex.length+1) (q.ex.flatMap exL++exL x)) (K:D.blk=S.ex.blk∨D.blk=some W.heap.size) (z:Off w.heap.size W.heap.size Q E) (Y:q.ex.length<300):
  Mem C U H A {S with ex:=D} {q with ex:=q.ex++[x]} E∧Stp S w {S with ex:=D} E:=by
 have V:=I.size
 have L:=M.size
 have n: ∀k,k<w.heap.size→S.ex.blk≠some k→E.heap[k]? =w.heap[k]?:=fun k o O=>
  (z.block k (.inl o)).trans ((M.block k (by omega) fun e=>O e.symm).trans (I.block k o))
 have N:OwnR E A 108 6 D (q.ex.length+1) (q.ex.flatMap exL++exL x):=X.keep fun k o=>z.block k (by
  rcases K with e|e
  ·rw[e] at o
   exact .inl (j.own.ex.typed o).2.1
  ·rw[e] at o
   obtain rfl:=Option.some.inj o
   exact .inr ⟨Nat.le_refl _,(X.typed e).2.1⟩)
 have J:(q.ex++[x]).length=q.ex.length+1:=by simp
 refine⟨⟨⟨j.own.rq.keep fun k o=>n k (j.own.rq.typed o).2.1 (j.own.rq.ne j.own.ex (by decide) o),j.own.im.keep fun k o=>n k (j.own.im.typed o).2.1 (j.own.im.ne j.own.ex (by decide) o),j.own.ep.keep fun k o=>n k (j.own.ep.typed o).2.1 (j.own.ep.ne j.own.ex (by decide) o),j.own.st.keep fun k o=>n k (j.own.st.typed o).2.1 (j.own.st.ne j.own.ex (by decide) o),by show OwnR E A 108 6 D (q.ex++[x]).length _;rw[J];simpa using N,j.own.la.keep fun k o=>n k (j.own.la.typed o).2.1 (j.own.la.ne j.own.ex (by decide) o),j.own.apart⟩,⟨j.inv.pos,j.inv.rq,j.inv.im,j.inv.ep,j.inv.st,by simp;omega⟩,zb0 j.tok (n U (zan j.tok).1 fun e=>j.gt_free (.inr (.inr (.inr (.inr (.inl e)))))),j.few,Nat.le_trans j.base (by have:=z.size;omega)⟩,?_⟩
 refine⟨z.os.trans (M.os.trans I.os),z.tape.trans (M.tape.trans I.tape),z.output.trans (M.output.trans I.output),Nat.le_trans (Nat.le_trans V L) z.size,fun k o Y=>n k o fun e=>Y (.inr (.inr (.inr (.inr (.inl e))))),fun k o=>?_⟩
 rcases o with h|h|h|h|h|h
 ·exact .inl (.inl h)
 ·exact .inl (.inr (.inl h))
 ·exact .inl (.inr (.inr (.inl h)))
 ·exact .inl (.inr (.inr (.inr (.inl h))))
 ·exact K.elim (fun e=>.inl (.inr (.inr (.inr (.inr (.inl (e.symm.trans h))))))) fun e=>.inr (by have:W.heap.size=k:=Option.some.inj (e.symm.trans h);omega)
 ·exact .inl (.inr (.inr (.inr (.inr (.inr h)))))
theorem Mem.grow_la {C:Cx} {U I A:Nat} {S:Sv} {q:PS} {w W Q H:World} (j:Mem C U I A S q w) (J:Below w.heap.size w W) (M:W.grownBy Q S.la.blk) {D:Rw} {x:Ep} (X:OwnR Q A 102 4 D (q.la.length+1) (q.la.flatMap epL++epL x)) (E:D.blk=S.la.blk∨D.blk=some W.heap.size) (z:Off w.heap.size W.heap.size Q H) (Z:q.ep.length+q.la.length<40):
  Mem C U I A {S with la:=D} {q with la:=q.la++[x]} H∧Stp S w {S with la:=D} H:=by
 have V:=J.size
 have L:=M.size
 have n: ∀k,k<w.heap.size→S.la.blk≠some k→H.heap[k]? =w.heap[k]?:=fun k o O=>
  (z.block k (.inl o)).trans ((M.block k (by omega) fun e=>O e.symm).trans (J.block k o))
 have N:OwnR H A 102 4 D (q.la.length+1) (q.la.flatMap epL++epL x):=X.keep fun k o=>z.block k (by
  rcases E with e|e
  ·rw[e] at o
   exact .inl (j.own.la.typed o).2.1
  ·rw[e] at o
   obtain rfl:=Option.some.inj o
   exact .inr ⟨Nat.le_refl _,(X.typed e).2.1⟩)
 have K:(q.la++[x]).length=q.la.length+1:=by simp
 refine⟨⟨⟨j.own.rq.keep fun k o=>n k (j.own.rq.typed o).2.1 (j.own.rq.ne j.own.la (by decide) o),j.own.im.keep fun k o=>n k (j.own.im.typed o).2.1 (j.own.im.ne j.own.la (by decide) o),j.own.ep.keep fun k o=>n k (j.own.ep.typed o).2.1 (fun e=>j.own.apart k o e),j.own.st.keep fun k o=>n k (j.own.st.typed o).2.1 (j.own.st.ne j.own.la (by decide) o),j.own.ex.keep fun k o=>n k (j.own.ex.typed o).2.1 (j.own.ex.ne j.own.la (by decide) o),by show OwnR H A 102 4 D (q.la++[x]).length _;rw[K];simpa using N,fun k o Y=>E.elim (fun e=>j.own.apart k o (by rw[←e];exact Y)) fun e=>by have h1:=(j.own.ep.typed o).2.1;have h2:W.heap.size=k:=Option.some.inj (e.symm.trans Y);omega⟩,⟨j.inv.pos,j.inv.rq,j.inv.im,by have:=j.inv.ep;simp;omega,j.inv.st,j.inv.ex⟩,zb0 j.tok (n U (zan j.tok).1 fun e=>j.gt_free (.inr (.inr (.inr (.inr (.inr e)))))),j.few,Nat.le_trans j.base (by have:=z.size;omega)⟩,?_⟩
 refine⟨z.os.trans (M.os.trans J.os),z.tape.trans (M.tape.trans J.tape),z.output.trans (M.output.trans J.output),Nat.le_trans (Nat.le_trans V L) z.size,fun k o Z=>n k o fun e=>Z (.inr (.inr (.inr (.inr (.inr e))))),fun k o=>?_⟩
 rcases o with h|h|h|h|h|h
 ·exact .inl (.inl h)
 ·exact .inl (.inr (.inl h))
 ·exact .inl (.inr (.inr (.inl h)))
 ·exact .inl (.inr (.inr (.inr (.inl h))))
 ·exact .inl (.inr (.inr (.inr (.inr (.inl h)))))
 ·exact E.elim (fun e=>.inl (.inr (.inr (.inr (.inr (.inr (e.symm.trans h))))))) fun e=>.inr (by have:W.heap.size=k:=Option.some.inj (e.symm.trans h);omega)
abbrev PRN:=Except Nat (PS×ByteArray)
def zaK (y:PRN):PR:=bd y fun a=>.ok a.1
def withN (y:PRN) (F:PR→ByteArray→PR):PRN:=bd y fun a=>bd (F (.ok a.1) a.2) fun q=>.ok (q,a.2)
def zcj (C:Cx) (q:PS):PRN:=withN (bd (zd C 1 zC q) (zj C false)) fun x n=>bd (bd (bd (bd x (zd C 4 cEq)) (pE C .sum 0)) (zd C 4 cSemi)) (zV C 1 n)
def fnP (C:Cx) (q:PS):PRN:=
 withN (bd (zd C 1 zT q) (zj C false)) fun x n=>bd (bd (bd (bd (bd (bd (bd (bd x (zd C 4 zn)) (zd C 4 za0)) (zd C 4 zJ)) (zd C 1 zdT)) (pE C .sum 0)) (zd C 4 cSemi)) (zd C 4 zbm)) (zV C 2 n)
def asP (C:Cx) (exp:Bool) (a:PS×ByteArray):PRN:=
 if isT C a.1.pos 1 sAs then zj C exp (adv a.1)
 else if (a.2.toList==[100,101,102,97,117,108,116])&& !exp then .error (zr C a.1.pos) else .ok a
abbrev PRL:=Except Nat (PS×List Ep)
def zcv (C:Cx) (exp:Bool):Nat→PS→List Ep→PRL
 |0,_,_=>.error 0
 |f+1,q,acc=>bd (zj C true q) fun a=>bd (asP C exp a) fun b=>
  if isT C b.1.pos 4 zbw then zcv C exp f (adv b.1) (acc++[⟨0,b.2,a.2,sNone⟩]) else bd (zd C 4 zbm b.1) fun q'=>.ok (q',acc++[⟨0,b.2,a.2,sNone⟩])
def zax (C:Cx) (exp:Bool) (q:PS) (acc:List Ep):PRL:=zcv C exp (C.ts.length-q.pos+1) q acc
def zcw (C:Cx) (exp:Bool) (q:PS):PRL:=bd (zd C 4 zJ q) fun q'=>zax C exp q' []
def za8 (l:List Ep):Bool:=l.any fun x=>x.loc.toList==[100,101,102,97,117,108,116]
theorem zeA {C:Cx} {j:Bool} {a b:PS×ByteArray} (h:asP C j a= .ok b):a.1.pos≤b.1.pos:=by
 unfold asP at h
 split at h
 ·obtain⟨rfl,_⟩:=zbd h
  show a.1.pos≤a.1.pos+1+1
  omega
 ·split at h
  ·cases h
  ·cases h
   exact Nat.le_refl _
theorem zls {C:Cx} {j:Bool} (f:Nat): ∀(g:Nat) (q:PS) (acc:List Ep),C.ts.length-q.pos<f→C.ts.length-q.pos<g→zcv C j f q acc=zcv C j g q acc:=by
 induction f with
 |zero=>intro g q acc h;omega
 |succ f z=>
  intro g q acc K L
  obtain⟨g,rfl⟩: ∃H,g=H+1:=⟨g-1,by omega⟩
  rw[zcv,zcv]
  refine zab fun a o=>zab fun b E=>?_
  split
  ·next A=>
   obtain⟨rfl,D⟩:=zbd o
   have n:=zeA E
   have I:=za1 A (by decide)
   have J:=ze4 D
   simp only[zx] at n
   exact z g _ _ (by rw[zx];omega) (by rw[zx];omega)
  ·rfl
theorem zfs (C:Cx) (j:Bool) (q:PS) (acc:List Ep):zax C j q acc=bd (zj C true q) fun a=>bd (asP C j a) fun b=>
  if isT C b.1.pos 4 zbw then zax C j (adv b.1) (acc++[⟨0,b.2,a.2,sNone⟩]) else bd (zd C 4 zbm b.1) fun q'=>.ok (q',acc++[⟨0,b.2,a.2,sNone⟩]):=by
 rw[zax,zcv]
 refine zab fun a o=>zab fun b D=>?_
 split
 ·next z=>
  obtain⟨rfl,A⟩:=zbd o
  have n:=zeA D
  have E:=za1 z (by decide)
  have H:=ze4 A
  simp only[zx] at n
  exact zls _ _ _ _ (by rw[zx];omega) (by rw[zx];omega)
 ·rfl
def zP {α:Type} (f:α→PS→PR):List α→PR→PR
 |[],x=>x
 |a::l,x=>zP f l (bd x (f a))
def zbF (s:ByteArray) (e:Ep):Im:=⟨s,e.loc,e.name⟩
def zaE (C:Cx) (x:PR):PRN:=bd (bd x (zd C 1 zU)) (zH C)
def zaR (C:Cx) (y:PRN):PRN:=bd y fun a=>bd (zd C 4 cSemi a.1) fun q=>.ok (q,a.2)
def zaQ (C:Cx) (q:PS):PR:=
 bd (zd C 1 zah q) fun q=>
  if isT C q.pos 4 zJ then bd (zcw C false q) fun a=>bd (zaR C (zaE C (.ok a.1))) fun b=>zP (fun e=>zak C (zbF b.2 e)) a.2 (.ok b.1)
  else if isT C q.pos 4 zw then bd (bd (bd (zd C 4 zw q) (zd C 1 sAs)) (zj C false)) fun a=>bd (zaR C (zaE C (.ok a.1))) fun b=>zak C ⟨b.2,zw,a.2⟩ b.1
  else if zD C q.pos false then bd (zj C false q) fun a=>bd (zaR C (zaE C (.ok a.1))) fun b=>zak C ⟨b.2,sDefault,a.2⟩ b.1
  else bd (zH C q) fun a=>zd C 4 cSemi a.1
def zA (e:Ep):Ep:=⟨1,e.name,e.loc,sNone⟩
def zai (s:ByteArray) (e:Ep):Ep:=⟨2,e.name,e.loc,s⟩
def zag (C:Cx) (q:PS):PR:=
 bd (zd C 1 zaf q) fun q=>
  if isT C q.pos 4 zJ then bd (zcw C true q) fun a=>
   if !za8 a.2&& !isT C a.1.pos 1 zU then bd (zd C 4 cSemi a.1) fun q=>zP (fun e=>zo C (zA e)) a.2 (.ok q)
   else bd (zaR C (zaE C (.ok a.1))) fun b=>zP (fun e=>zo C (zai b.2 e)) a.2 (.ok b.1)
  else if isT C q.pos 4 zw then bd (zaR C (zaE C (zd C 4 zw q))) fun b=>zo C ⟨3,sNone,sNone,b.2⟩ b.1
  else if isT C q.pos 1 sDefault then bd (bd (bd (bd (zd C 1 sDefault q) (pE C .sum 0)) (zd C 4 cSemi)) (zV C 1 zbN)) (zo C ⟨1,sDefault,zbN,sNone⟩)
  else if isT C q.pos 1 zC then bd (zcj C q) fun a=>zo C ⟨1,a.2,a.2,sNone⟩ a.1
  else if isT C q.pos 1 zT then bd (fnP C q) fun a=>zo C ⟨1,a.2,a.2,sNone⟩ a.1
  else .error (zr C q.pos)
def zy (C:Cx) (q:PS):PR:=
 if !C.scr&&isT C q.pos 1 zah then zaQ C q
 else if !C.scr&&isT C q.pos 1 zaf then zag C q
 else if isT C q.pos 1 zC then zaK (zcj C q)
 else if isT C q.pos 1 zT then zaK (fnP C q)
 else if isT C q.pos 1 zar then bd (bd (bd (bd (bd (zd C 1 zar q) (zd C 4 zn)) (pE C .sum 0)) (zd C 4 za0)) (zd C 4 cSemi)) (zV C 4 sNone)
 else if isT C q.pos 1 za3 then bd (bd (bd (zd C 1 za3 q) (pE C .sum 0)) (zd C 4 cSemi)) (zV C 5 sNone)
 else if C.scr&&isT C q.pos 1 zbA then bd (bd (bd (zd C 1 zbA q) (pE C .sum 0)) (zd C 4 cSemi)) (zV C 6 sNone)
 else bd (zj C false q) fun a=>bd (bd (bd (zd C 4 cEq a.1) (pE C .sum 0)) (zd C 4 cSemi)) (zV C 3 a.2)
theorem zay {C:Cx} {k:Int} {s:ByteArray} {q q':PS} (h:zd C k s q= .ok q'):q.pos+1=q'.pos:=by
 obtain⟨rfl,_⟩:=zb4 h
 rfl
theorem zdV {C:Cx} {o:Bool} {q:PS} {a:PS×ByteArray} (h:zj C o q= .ok a):q.pos+1=a.1.pos:=by
 obtain⟨rfl,_⟩:=zbd h
 rfl
theorem zhG {C:Cx} {q:PS} {a:PS×ByteArray} (h:zH C q= .ok a):q.pos+1=a.1.pos:=by
 unfold zH at h
 split at h
 ·split at h
  ·cases h;rfl
  ·split at h
   ·cases h
   ·cases h;rfl
 ·cases h
theorem zdW {C:Cx} {k:Int} {n:ByteArray} {q q':PS} (h:zV C k n q= .ok q'):q.pos=q'.pos:=by
 unfold zV at h
 split at h
 ·cases h
 ·cases h;rfl
theorem zgs {C:Cx} {y:Im} {q q':PS} (h:zak C y q= .ok q'):q.pos=q'.pos:=by
 unfold zak at h
 split at h
 ·cases h
 ·cases h;rfl
theorem zdX {C:Cx} {y:Ep} {q q':PS} (h:zo C y q= .ok q'):q.pos=q'.pos:=by
 unfold zo at h
 split at h
 ·cases h
 ·split at h
  ·cases h;rfl
  ·cases h;rfl
theorem zgt {α:Type} {f:α→PS→PR} (A: ∀a q q',f a q= .ok q'→q.pos=q'.pos) (l:List α): ∀(x:PR) (q':PS),zP f l x= .ok q'→∃q,x= .ok q∧q.pos=q'.pos:=by
 induction l with
 |nil=>intro x q' h;exact⟨q',h,rfl⟩
 |cons a l o=>
  intro x q' h
  obtain⟨b,z,D⟩:=o _ _ h
  obtain⟨c,j,n⟩:=zf z
  exact⟨c,j,(A _ _ _ n).trans D⟩
theorem zhH {C:Cx} {n:Bool} (m:Nat): ∀(q:PS) (acc:List Ep) (a:PS×List Ep),C.ts.length-q.pos<m→zax C n q acc= .ok a→q.pos≤a.1.pos:=by
 induction m with
 |zero=>intro q acc a h;omega
 |succ m D=>
  intro q acc a M h
  rw[zfs] at h
  obtain⟨b,I,J⟩:=zf h
  obtain⟨c,o,j⟩:=zf J
  have L:=zdV I
  have K:=zeA o
  split at j
  ·next E=>
   have A:=za1 E (by decide)
   have:=D _ _ _ (by rw[zx];omega) j
   rw[zx] at this
   omega
  ·obtain⟨d,z,H⟩:=zf j
   have A:=zay z
   cases H
   show q.pos≤d.pos
   omega
theorem zeB {C:Cx} {x:PR} {b:PS×ByteArray} (h:zaR C (zaE C x)= .ok b): ∃q,x= .ok q∧q.pos≤b.1.pos:=by
 obtain⟨a,A,H⟩:=zf h
 obtain⟨c,j,n⟩:=zf H
 obtain⟨d,o,z⟩:=zf A
 obtain⟨e,E,D⟩:=zf o
 have J:=zay j
 have K:=zhG z
 have I:=zay D
 cases n
 exact⟨e,E,by show e.pos≤c.pos;omega⟩
theorem zlt {C:Cx} {q q':PS} (h:zaQ C q= .ok q'):q.pos<q'.pos:=by
 obtain⟨U,N,z⟩:=zf h
 have O:=zay N
 split at z
 ·obtain⟨a,n,o⟩:=zf z
  obtain⟨b,A,H⟩:=zf o
  obtain⟨c,M,L⟩:=zf n
  obtain⟨d,J,D⟩:=zeB A
  obtain⟨f,j,E⟩:=zgt (fun _ _ _ h=>zgs h) _ _ _ H
  have K:=zay M
  have I:=zhH _ _ _ _ (Nat.lt_succ_self _) L
  cases J
  cases j
  omega
 ·split at z
  ·obtain⟨a,n,o⟩:=zf z
   obtain⟨b,A,H⟩:=zf o
   obtain⟨c,M,L⟩:=zf n
   obtain⟨d,J,D⟩:=zf M
   obtain⟨f,j,E⟩:=zeB A
   have K:=zgs H
   have I:=zdV L
   have Q:=zay J
   have V:=zay D
   cases j
   omega
  ·split at z
   ·obtain⟨a,n,o⟩:=zf z
    obtain⟨b,A,H⟩:=zf o
    obtain⟨f,j,E⟩:=zeB A
    have K:=zgs H
    have I:=zdV n
    cases j
    omega
   ·obtain⟨a,n,o⟩:=zf z
    have K:=zhG n
    have I:=zay o
    omega
theorem zhI {y:PRN} {F:PR→ByteArray→PR} {a:PS×ByteArray} (h:withN y F= .ok a): ∃b,y= .ok b∧F (.ok b.1) b.2= .ok a.1:=by
 obtain⟨b,o,q⟩:=zf h
 obtain⟨c,j,n⟩:=zf q
 cases n
 exact⟨b,o,j⟩
theorem zhJ {C:Cx} {q:PS} {a:PS×ByteArray} (h:zcj C q= .ok a):q.pos<a.1.pos:=by
 obtain⟨b,D,J⟩:=zhI h
 obtain⟨c,n,o⟩:=zf D
 obtain⟨d,z,A⟩:=zf J
 obtain⟨f,I,H⟩:=zf z
 obtain⟨g,E,j⟩:=zf I
 have L:=zay n
 have O:=zdV o
 have K:=zay (show zd C 4 cEq b.1= .ok g from E)
 have N:=zaY j
 have M:=zay H
 have Q:=zdW A
 omega
theorem zhK {C:Cx} {q:PS} {a:PS×ByteArray} (h:fnP C q= .ok a):q.pos<a.1.pos:=by
 obtain⟨b,K,V⟩:=zhI h
 obtain⟨c,U,M⟩:=zf K
 obtain⟨d,X,Y⟩:=zf V
 obtain⟨f,O,L⟩:=zf X
 obtain⟨g,Q,H⟩:=zf O
 obtain⟨i,E,A⟩:=zf Q
 obtain⟨j,z,n⟩:=zf E
 obtain⟨k,J,o⟩:=zf z
 obtain⟨l,D,I⟩:=zf J
 have e1:=zay U
 have e2:=zdV M
 have e3:=zay (show zd C 4 zn b.1= .ok l from D)
 have e4:=zay I
 have e5:=zay o
 have e6:=zay n
 have e7:=zaY A
 have Z:=zay H
 have e9:=zay L
 have N:=zdW Y
 omega
theorem zlu {C:Cx} {q q':PS} (h:zag C q= .ok q'):q.pos<q'.pos:=by
 obtain⟨Q,N,j⟩:=zf h
 have U:=zay N
 split at j
 ·obtain⟨a,o,n⟩:=zf j
  obtain⟨c,M,K⟩:=zf o
  have J:=zay M
  have I:=zhH _ _ _ _ (Nat.lt_succ_self _) K
  split at n
  ·obtain⟨b,z,D⟩:=zf n
   obtain⟨f,E,L⟩:=zgt (fun _ _ _ h=>zdX h) _ _ _ D
   have O:=zay z
   cases E
   omega
  ·obtain⟨b,z,D⟩:=zf n
   obtain⟨d,H,A⟩:=zeB z
   obtain⟨f,E,L⟩:=zgt (fun _ _ _ h=>zdX h) _ _ _ D
   cases H
   cases E
   omega
 ·split at j
  ·obtain⟨b,z,D⟩:=zf j
   obtain⟨d,H,A⟩:=zeB z
   have J:=zay H
   have I:=zdX D
   omega
  ·split at j
   ·obtain⟨a,o,n⟩:=zf j
    obtain⟨b,z,D⟩:=zf o
    obtain⟨c,M,K⟩:=zf z
    obtain⟨d,H,A⟩:=zf M
    have J:=zay H
    have I:=zaY A
    have O:=zay K
    have V:=zdW D
    have X:=zdX n
    omega
   ·split at j
    ·obtain⟨a,o,n⟩:=zf j
     have J:=zhJ o
     have I:=zdX n
     omega
    ·split at j
     ·obtain⟨a,o,n⟩:=zf j
      have J:=zhK o
      have I:=zdX n
      omega
     ·cases j
theorem zhL {C:Cx} {s:ByteArray} {k:Int} {n:ByteArray} {q q':PS} (h:bd (bd (bd (zd C 1 s q) (pE C .sum 0)) (zd C 4 cSemi)) (zV C k n)= .ok q'):q.pos<q'.pos:=by
 obtain⟨a,D,E⟩:=zf h
 obtain⟨b,j,z⟩:=zf D
 obtain⟨c,o,A⟩:=zf j
 have K:=zay o
 have J:=zaY A
 have H:=zay z
 have I:=zdW E
 omega
theorem zft {C:Cx} {q q':PS} (h:zy C q= .ok q'):q.pos<q'.pos:=by
 unfold zy at h
 split at h
 ·exact zlt h
 ·split at h
  ·exact zlu h
  ·split at h
   ·obtain⟨a,j,n⟩:=zf h
    cases n
    exact zhJ j
   ·split at h
    ·obtain⟨a,j,n⟩:=zf h
     cases n
     exact zhK j
    ·split at h
     ·obtain⟨a,j,n⟩:=zf h
      obtain⟨b,o,z⟩:=zf j
      obtain⟨c,A,E⟩:=zf o
      obtain⟨d,I,H⟩:=zf A
      obtain⟨e,O,D⟩:=zf I
      have K:=zay O
      have N:=zay D
      have J:=zaY H
      have M:=zay E
      have L:=zay z
      have Q:=zdW n
      omega
     ·split at h
      ·exact zhL h
      ·split at h
       ·exact zhL h
       ·obtain⟨a,j,n⟩:=zf h
        obtain⟨b,o,z⟩:=zf n
        obtain⟨c,A,E⟩:=zf o
        obtain⟨d,I,H⟩:=zf A
        have K:=zdV j
        have N:=zay I
        have J:=zaY H
        have M:=zay E
        have L:=zdW z
        omega
def zcx (C:Cx):Nat→PS→PR
 |0,_=>.error 0
 |f+1,q=>if q.pos<C.ts.length then bd (zy C q) (zcx C f) else .ok q
def zas (C:Cx) (q:PS):PR:=zcx C (C.ts.length-q.pos+1) q
theorem zlv {C:Cx} (f:Nat): ∀(g:Nat) (q:PS),C.ts.length-q.pos<f→C.ts.length-q.pos<g→zcx C f q=zcx C g q:=by
 induction f with
 |zero=>intro g q h;omega
 |succ f n=>
  intro g q z A
  obtain⟨g,rfl⟩: ∃o,g=o+1:=⟨g-1,by omega⟩
  rw[zcx,zcx]
  split
  ·refine zab fun a j=>?_
   have:=zft j
   exact n g a (by omega) (by omega)
  ·rfl
theorem zfu (C:Cx) (q:PS):zas C q=if q.pos<C.ts.length then bd (zy C q) (zas C) else .ok q:=by
 rw[zas,zcx]
 split
 ·refine zab fun a j=>?_
  have:=zft j
  exact zlv _ _ _ (by omega) (by omega)
 ·rfl
def zbC:PS:=⟨0,[],[],[],[],[],[]⟩
def zb7 (s:ByteArray) (scr:Bool) (y:PR):Prop:=∃r,zae s scr r∧y=match r with
 | .error p=>.error p
 | .ok ts=>zas ⟨ts,s.size,scr⟩ zbC
theorem zhM {s:ByteArray} {j:Bool} {o n:PR} (A:zb7 s j o) (z:zb7 s j n):o=n:=by
 obtain⟨H,D,rfl⟩:=A
 obtain⟨E,q,rfl⟩:=z
 obtain rfl:=zkH D q
 rfl
theorem zlw {s:ByteArray} {z:Bool} {a n:Nat} {r:Except Nat (List Tk)} (h:Lx s z a n r): ∀o,r= .ok o→n≤4000→o.length+n≤4000:=by
 induction h using Lx.ind with
 |done=>intro o q A;cases q;simpa using A
 |bad _ _=>intro o q A;cases q
 | @tok a n e b t r h A E H q D=>
  intro o j _
  cases r with
  |error p=>simp[Except.map] at j
  |ok l=>
   simp only[Except.map,Except.ok.injEq] at j
   subst j
   have:=D l rfl (by omega)
   simp only[List.length_cons]
   omega
theorem zhN {s:ByteArray} {n:Bool} {j:List Tk} (h:zae s n (.ok j)):j.length≤4000:=by
 obtain⟨a,_,o⟩:=h
 have:=zlw o j rfl (by omega)
 omega
def R0:Rw:=⟨none,0⟩
def S0:Sv:=⟨R0,R0,R0,R0,R0,R0⟩
theorem zcy (w:World) (j size:Nat) (e:TypeId):OwnR w j e size R0 0 []:=World.ownsRow_nil w j e size
theorem zlx (w:World) (j:Nat):Own w j S0 zbC:=
 ⟨zcy _ _ _ _,zcy _ _ _ _,zcy _ _ _ _,zcy _ _ _ _,zcy _ _ _ _,zcy _ _ _ _,fun k h=>by simp[S0,R0,Rw.blk,Value.ownBlock] at h⟩
theorem zhO {w:World} {j g o:Nat} {q:List Tk} {n:Nat} {z:Bool} (h:OwnT w j 111 g q.length o q) (A:q.length≤4000) (D:j≤w.heap.size):Mem ⟨q,n,z⟩ g o j S0 zbC w:=
 ⟨zlx _ _,⟨Nat.zero_le _,Nat.zero_le _,Nat.zero_le _,Nat.zero_le _,Nat.zero_le _,Nat.zero_le _⟩,h,A,D⟩
structure OwnMod (w:World) (base:Nat) (S:Sv) (q:PS):Prop where
 rq:OwnR w base 9 1 S.rq q.rq.length (q.rq.map .string)
 im:OwnR w base 100 3 S.im q.im.length (q.im.flatMap imL)
 ep:OwnR w base 102 4 S.ep (q.ep++q.la).length ((q.ep++q.la).flatMap epL)
 st:OwnR w base 106 3 S.st q.st.length (q.st.flatMap smL)
 ex:OwnR w base 108 6 S.ex q.ex.length (q.ex.flatMap exL)
 inv:q.rq.length≤40∧q.im.length≤40∧q.ep.length+q.la.length≤40∧q.st.length≤80∧q.ex.length≤300
def zfv (S:Sv) (q:PS):Value:=.agg #[.slice S.rq.a q.rq.length S.rq.cap,.slice S.im.a q.im.length S.im.cap,.slice S.ep.a (q.ep++q.la).length S.ep.cap,.slice S.st.a q.st.length S.st.cap,.slice S.ex.a q.ex.length S.ex.cap]
def ParseOut (s:ByteArray) (scr:Bool) (w:World) (e:Ending) (w':World):Prop:=
 ∃y,zb7 s scr y∧match y with
  | .ok q=>∃S,e= .returned (.tuple #[zfv S q,.int .i64 (-1)])∧OwnMod w' w.heap.size S q
  | .error p=>e= .returned (.tuple #[.agg #[.slice none 0 0,.slice none 0 0,.slice none 0 0,.slice none 0 0,.slice none 0 0],.int .i64 p])
theorem OwnR.low {w:World} {o j size n:Nat} {e:TypeId} {r:Rw} {xs:List Value} (h:OwnR w o e size r n xs) (E:j≤o):OwnR w j e size r n xs:=by
 refine⟨h.1,?_⟩
 rcases h.2 with A|⟨g,q,z,A,D,rest⟩
 ·exact .inl A
 ·exact .inr ⟨g,q,z,A,Nat.le_trans E D,rest⟩
theorem OwnR.nil_or {w:World} {o size n:Nat} {e:TypeId} {r:Rw} {xs:List Value} (h:OwnR w o e size r n xs):(r.a=none∧r.cap=0∧n=0)∨∃g,r.a=some ⟨g,0,none⟩:=by
 rcases h.2 with ⟨j,A⟩|⟨g,q,z,j,_⟩
 ·simp only[Value.slice.injEq] at j
  exact .inl ⟨j.1,j.2.2,A⟩
 ·simp only[Value.slice.injEq] at j
  exact .inr ⟨g,j.1⟩
theorem zly {P:Program} (W:World) {N:Array Oper} {rest:List Oper} {o:Oper} {a:Act} {Q:Exit→Act→World→Prop} (ab:o.guard=none) (s x:Operand) (t:TypeId)
  (ho:o.op= .call {callee:=.builtin .append,args:=#[s,x],argTypes:=#[t,t]})
  (D:Nat) (e:TypeId) (i:TypeInfo) (z:Value) (size q:Nat) (ht:P.underlying t=some (.slice e)) (hi:P.info? e=some i) (hz:i.zero=some z) (J:i.size=size) (ac:i.bytes=q) (Y:z.cells.size=size) (ad:0<size) (U:q≤100)
  (r:Rw) (n:Nat) (xs:List Value) (hs:a.eval s= .slice r.a n r.cap) (L:OwnR W D e size r n xs)
  (V m c H:Nat) (A:List Value) (hx:a.eval x= .slice (some ⟨V,0,none⟩) m c) (hg:OwnR W H e size ⟨some ⟨V,0,none⟩,c⟩ m A) (h1: ∀u∈A,u.oneCell'=true) (hn:n+m≤1000000) (I:D≤W.heap.size)
  (h: ∀O K,OwnR K D e size O (n+m) (xs++A)→W.grownBy K r.blk→(O.blk=r.blk∨O.blk=some W.heap.size)→wpList P N Q rest (a.put o.dst (.slice O.a (n+m:Nat) O.cap)) K):
  wpList P N Q (o::rest) a W:=by
 refine wpList_append_own_at _ ab s x t ho D e i z size q ht hi hz J ac Y ad _ n _ hs L ⟨V,0,none⟩ m c A hx hg.1 ?_ h1 ?_ ?_ I ?_
 ·intro j u hj
  have e1:(⟨V,0,none⟩:Addr).add j=⟨V,j,none⟩:=by simp[Addr.add];exact fun h=>h.symm
  have Z:j<A.length:=(List.getElem?_eq_some_iff.1 hj).1
  rw[e1,World.ownsRow.cellAt hg j (by rw[←hg.1];exact Z)]
  exact hj
 ·unfold maxLen;omega
 ·have:(n+m)*q≤1000000*100:=Nat.mul_le_mul hn U
  omega
 ·intro v' K X k2 k3 k4
  rcases X.2 with ⟨hv,M⟩|⟨g',E,ae,rfl,aa⟩
  ·subst hv
   have:=h ⟨none,0⟩ K (by rw[M] at X ⊢;exact X) (by rw[←zbo r n];exact k2) (by rw[←zbo r n];exact k4)
   rw[M] at this
   exact this
  ·refine h ⟨some ⟨g',0,none⟩,E⟩ K X ?_ ?_
   ·rw[←zbo r n];exact k2
   ·rw[←zbo r n,←zbo ⟨some ⟨g',0,none⟩,E⟩ (n+m)];exact k4
theorem zlz {P:Program} (W:World) {z:Array Oper} {rest:List Oper} {o:Oper} {a:Act} {Q:Exit→Act→World→Prop} (D:o.guard=none) (s x:Operand) (t:TypeId)
  (U:o.op= .call {callee:=.builtin .append,args:=#[s,x],argTypes:=#[t,t]})
  (e:TypeId) (i:TypeInfo) (E:P.underlying t=some (.slice e)) (H:P.info? e=some i) (j size n:Nat)
  (r:Rw) (xs:List Value) (M:a.eval s= .slice r.a n r.cap) (q:OwnR W j e size r n xs) (L:a.eval x= .slice none 0 0)
  (h:wpList P z Q rest (a.put o.dst (.slice r.a n r.cap)) W):wpList P z Q (o::rest) a W:=by
 have I:(Builtin.append_ #[t,t] o.type #[.slice r.a n r.cap,.slice none 0 0]).run P W= .ok (.slice r.a n r.cap) W:=by
  rcases q.2 with ⟨A,_⟩|⟨g,J,N,A,_,_,V,_⟩
  ·rw[A]
   simp[Builtin.append_,run_underlying E,sizeOf,typeInfo,H,Builtin.lenOf,Builtin.firstCells]
  ·rw[A]
   simp[Builtin.append_,run_underlying E,sizeOf,typeInfo,H,Builtin.lenOf,Builtin.firstCells,loadCells,V,storeCells]
 refine wpList_plain D fun K O=>?_
 unfold Oper.wp execOp
 simp only[U,resolve,invoke,builtin,Sem.run_bind,Sem.run_pure,Result.andThen_ok,List.map_toArray,List.map_cons,List.map_nil,M,L,I]
 exact O _ _ h
theorem zgu (l:List Ep): ∀u∈l.flatMap epL,u.oneCell'=true:=by
 intro u n
 rw[List.mem_flatMap] at n
 obtain⟨x,_,j⟩:=n
 simp[epL] at j
 rcases j with rfl|rfl|rfl|rfl<;>rfl
theorem Mem.whole {C:Cx} {V I j b B:Nat} {S:Sv} {q:PS} {W L J:World} {H:Rw} (A:Mem C V I j S q W) (Y:W.grownBy L S.ep.blk) (O:OwnR L j 102 4 H (q.ep.length+q.la.length) (q.ep.flatMap epL++q.la.flatMap epL)) (N:H.blk=S.ep.blk∨H.blk=some W.heap.size) (hB:B<j) (hb:b<W.heap.size) (o: ¬S.has b)
  (Q: ∀k,k≠B→k≠b→J.heap[k]? =L.heap[k]?):OwnMod J B {S with ep:=H} q:=by
 have D:(q.ep++q.la).length=q.ep.length+q.la.length:=by simp
 have E: ∀(r:Rw) (e:TypeId) (z n:Nat) (K:List Value),OwnR W j e z r n K→e≠102→(∀k,r.blk=some k→S.has k)→OwnR J B e z r n K:=fun r e z n K h X U=>
  ((h.keep fun k g=>(Q k (by have:=(h.typed g).1;omega) (fun M=>o (by rw[←M];exact U k g))).trans (Y.block k (h.typed g).2.1 fun Z=>(h.ne A.own.ep X g) Z.symm)).low (by omega))
 refine⟨E _ _ _ _ _ A.own.rq (by decide) fun k g=>.inl g,E _ _ _ _ _ A.own.im (by decide) fun k g=>.inr (.inl g),?_,E _ _ _ _ _ A.own.st (by decide) fun k g=>.inr (.inr (.inr (.inl g))),E _ _ _ _ _ A.own.ex (by decide) fun k g=>.inr (.inr (.inr (.inr (.inl g)))),A.inv.rq,A.inv.im,A.inv.ep,A.inv.st,A.inv.ex⟩
 rw[D,List.flatMap_append]
 refine (O.keep fun k g=>Q k (by have:=(O.typed g).1;omega) ?_).low (by omega)
 rcases N with e|e
 ·intro M
  exact o (by rw[←M];exact .inr (.inr (.inl (by rw[←e];exact g))))
 ·have:W.heap.size=k:=Option.some.inj (e.symm.trans g)
  omega
theorem Mem.whole0 {C:Cx} {J E j b B:Nat} {S:Sv} {q:PS} {W H:World} (z:Mem C J E j S q W) (K:q.la=[]) (O:B<j) (A: ¬S.has b)
  (N: ∀k,k≠B→k≠b→H.heap[k]? =W.heap[k]?):OwnMod H B S q:=by
 have D: ∀(r:Rw) (e:TypeId) (o n:Nat) (I:List Value),OwnR W j e o r n I→(∀k,r.blk=some k→S.has k)→OwnR H B e o r n I:=fun r e o n I h L=>
  ((h.keep fun k g=>N k (by have:=(h.typed g).1;omega) (fun M=>A (by rw[←M];exact L k g))).low (by omega))
 refine⟨D _ _ _ _ _ z.own.rq fun k g=>.inl g,D _ _ _ _ _ z.own.im fun k g=>.inr (.inl g),?_,D _ _ _ _ _ z.own.st fun k g=>.inr (.inr (.inr (.inl g))),D _ _ _ _ _ z.own.ex fun k g=>.inr (.inr (.inr (.inr (.inl g)))),z.inv.rq,z.inv.im,z.inv.ep,z.inv.st,z.inv.ex⟩
 rw[K,List.append_nil]
 exact D _ _ _ _ _ z.own.ep fun k g=>.inr (.inr (.inl g))
theorem zl {w:World} {b:Nat} {t:TypeId} {n q o z j:Value} (h:w.heap[b]? =some (.cells #[n,q,o,z,j] t (0,0))):
  w.cell? ⟨b,0,none⟩=some n∧w.cell? ⟨b,1,none⟩=some q∧w.cell? ⟨b,2,none⟩=some o∧w.cell? ⟨b,3,none⟩=some z∧w.cell? ⟨b,4,none⟩=some j∧∀i,w.frozen? ⟨b,i,none⟩=false:=by
 refine⟨?_,?_,?_,?_,?_,fun i=>?_⟩<;>simp[World.cell?,World.frozen?,h]
theorem za9 {w:World} {b i:Nat} {j:Array Value} {u:Value} {t:TypeId} (h:w.heap[b]? =some (.cells j t (0,0))):(w.setCell ⟨b,i,none⟩ u).heap[b]? =some (.cells (j.setIfInBounds i u) t (0,0)):=by
 simp only[World.setCell,Array.getElem?_modify]
 rw[if_pos trivial,h]
 rfl
theorem zcZ {w:World} {b:Nat} {D H E I A o z j n q:Value} {t:TypeId} (h:w.heap[b]? =some (.cells #[D,H,E,I,A] t (0,0))):
  (((((w.setCell ⟨b,0,none⟩ o).setCell ⟨b,1,none⟩ z).setCell ⟨b,2,none⟩ j).setCell ⟨b,3,none⟩ n).setCell ⟨b,4,none⟩ q).heap[b]? =some (.cells #[o,z,j,n,q] t (0,0)):=by
 have e:=za9 (i:=4) (u:=q) (za9 (i:=3) (u:=n) (za9 (i:=2) (u:=j) (za9 (i:=1) (u:=z) (za9 (i:=0) (u:=o) h))))
 rw[e]
 simp
theorem zd1 {B:Nat} {a w:World} {b:Nat} (h:Below B a w) (j:B≤b) (q A n o z:Value):Below B a (((((w.setCell ⟨b,0,none⟩ q).setCell ⟨b,1,none⟩ A).setCell ⟨b,2,none⟩ n).setCell ⟨b,3,none⟩ o).setCell ⟨b,4,none⟩ z):=
 ((((h.setCell j _).setCell j _).setCell j _).setCell j _).setCell j _
end Go.Proofs.YticdggnnpjachaaGreat
