/-
  A program under way in memory: its six rows,what a step leaves as it was. No program is spoken of but for the numbers of its types.
  One of the six rows of a program under way grows by one element: what holds behind it. No program is spoken of but for the numbers of its types.
  Items of programs,as plain functions. No program is spoken of.
  A whole program,as a plain function of its tokens: items one behind the other. No program is spoken of.
  A text has at most 4000 tokens. No program is spoken of.
  A program in memory,as Parse hands it back. No program is spoken of but for the numbers of its types.
-/
import Derived.Maps.AppendAt
import Derived.Test.YticdggnnpjachaaGreatCbSpoilBaseToTokMem
namespace Go.Proofs.YticdggnnpjachaaGreat
open Go.RowKit Go.PlainAid
def imL (x:Im):List Value:=[.string x.spec,.string x.first,.string x.loc]
def epL (x:Ep):List Value:=[.int .i64 x.kind,.string x.name,.string x.loc,.string x.spec]
def smL (x:Sm):List Value:=[.int .i64 x.kind,.string x.name,.int .i64 x.expr]
def exL (x:Ex):List Value:=[.int .i64 x.kind,.int .i64 x.num,.string x.name,.string x.field,.int .i64 x.l,.int .i64 x.r]
structure Rw where
 a:Option Addr
 cap:Nat
structure Sv where
 rq:Rw
 im:Rw
 ep:Rw
 st:Rw
 ex:Rw
 la:Rw
def Rw.blk (r:Rw):Option Nat:=(Value.slice r.a 0 r.cap).ownBlock
def Sv.has (S:Sv) (k:Nat):Prop:=S.rq.blk=some k∨S.im.blk=some k∨S.ep.blk=some k∨S.st.blk=some k∨S.ex.blk=some k∨S.la.blk=some k
def OwnR (w:World) (base:Nat) (e:TypeId) (size:Nat) (r:Rw) (n:Nat) (xs:List Value):Prop:=w.ownsRow base e size (.slice r.a n r.cap) n xs
theorem zbo (r:Rw) (n:Nat):(Value.slice r.a n r.cap).ownBlock=r.blk:=by
 unfold Rw.blk Value.ownBlock
 cases r.a<;>rfl
structure Own (w:World) (base:Nat) (S:Sv) (q:PS):Prop where
 rq:OwnR w base 9 1 S.rq q.rq.length (q.rq.map .string)
 im:OwnR w base 100 3 S.im q.im.length (q.im.flatMap imL)
 ep:OwnR w base 102 4 S.ep q.ep.length (q.ep.flatMap epL)
 st:OwnR w base 106 3 S.st q.st.length (q.st.flatMap smL)
 ex:OwnR w base 108 6 S.ex q.ex.length (q.ex.flatMap exL)
 la:OwnR w base 102 4 S.la q.la.length (q.la.flatMap epL)
 apart: ∀k,S.ep.blk=some k→S.la.blk≠some k
theorem OwnR.typed {w:World} {j size n:Nat} {e:TypeId} {r:Rw} {xs:List Value} (h:OwnR w j e size r n xs) {k:Nat} (q:r.blk=some k):j≤k∧k<w.heap.size∧∃o,w.heap[k]? =some (.cells o e (0,0)):=by
 rcases h.2 with ⟨z,_⟩|⟨g,E,o,z,D,A,_⟩
 ·rw[←zbo r n,z] at q
  simp[Value.ownBlock] at q
 ·rw[←zbo r n,z] at q
  simp only[Value.ownBlock,Option.some.injEq] at q
  subst q
  exact⟨D,(Array.getElem?_eq_some_iff.1 A).1,o,A⟩
theorem OwnR.ne {w:World} {A b2 N M H L:Nat} {n z:TypeId} {o q:Rw} {Q I:List Value} (K:OwnR w A n N o H Q) (O:OwnR w b2 z M q L I) (J:n≠z) {k:Nat} (E:o.blk=some k):q.blk≠some k:=by
 intro h
 obtain⟨_,_,V,D⟩:=K.typed E
 obtain⟨_,_,U,j⟩:=O.typed h
 rw[D] at j
 simp only[Option.some.injEq,Obj.cells.injEq] at j
 exact J j.2.1
theorem OwnR.keep {w A:World} {j size n:Nat} {e:TypeId} {r:Rw} {xs:List Value} (h:OwnR w j e size r n xs) (D: ∀k,r.blk=some k→A.heap[k]? =w.heap[k]?):OwnR A j e size r n xs:=by
 refine⟨h.1,?_⟩
 rcases h.2 with o|⟨g,z,q,o,H,E,rest⟩
 ·exact .inl o
 ·refine .inr ⟨g,z,q,o,H,?_,rest⟩
  rw[D g (by rw[←zbo r n,o];rfl)]
  exact E
theorem Own.keep {w o:World} {j:Nat} {S:Sv} {q:PS} (h:Own w j S q) (n: ∀k,S.has k→o.heap[k]? =w.heap[k]?):Own o j S q:=
 ⟨h.rq.keep fun k e=>n k (.inl e),h.im.keep fun k e=>n k (.inr (.inl e)),h.ep.keep fun k e=>n k (.inr (.inr (.inl e))),h.st.keep fun k e=>n k (.inr (.inr (.inr (.inl e)))),
  h.ex.keep fun k e=>n k (.inr (.inr (.inr (.inr (.inl e))))),h.la.keep fun k e=>n k (.inr (.inr (.inr (.inr (.inr e))))),h.apart⟩
theorem Own.has {w:World} {j:Nat} {S:Sv} {q:PS} (h:Own w j S q) {k:Nat} (n:S.has k):j≤k∧k<w.heap.size:=by
 rcases n with e|e|e|e|e|e
 ·exact⟨(h.rq.typed e).1,(h.rq.typed e).2.1⟩
 ·exact⟨(h.im.typed e).1,(h.im.typed e).2.1⟩
 ·exact⟨(h.ep.typed e).1,(h.ep.typed e).2.1⟩
 ·exact⟨(h.st.typed e).1,(h.st.typed e).2.1⟩
 ·exact⟨(h.ex.typed e).1,(h.ex.typed e).2.1⟩
 ·exact⟨(h.la.typed e).1,(h.la.typed e).2.1⟩
theorem Own.later {w n:World} {j:Nat} {S:Sv} {q:PS} (h:Own w j S q) (o:Below w.heap.size w n):Own n j S q:=h.keep fun k e=>o.block k (h.has e).2
theorem Own.other {w:World} {o:Nat} {S:Sv} {q:PS} (h:Own w o S q) {k:Nat} {A:Array Value} {e:TypeId} {z:Nat×Nat} (n:w.heap[k]? =some (.cells A e z)) (J:e≠9) (I:e≠100) (D:e≠102) (H:e≠106) (E:e≠108): ¬S.has k:=by
 rintro (g|g|g|g|g|g)
 ·obtain⟨_,_,c,j⟩:=h.rq.typed g
  rw[n] at j
  simp only[Option.some.injEq,Obj.cells.injEq] at j
  exact J j.2.1
 ·obtain⟨_,_,c,j⟩:=h.im.typed g
  rw[n] at j
  simp only[Option.some.injEq,Obj.cells.injEq] at j
  exact I j.2.1
 ·obtain⟨_,_,c,j⟩:=h.ep.typed g
  rw[n] at j
  simp only[Option.some.injEq,Obj.cells.injEq] at j
  exact D j.2.1
 ·obtain⟨_,_,c,j⟩:=h.st.typed g
  rw[n] at j
  simp only[Option.some.injEq,Obj.cells.injEq] at j
  exact H j.2.1
 ·obtain⟨_,_,c,j⟩:=h.ex.typed g
  rw[n] at j
  simp only[Option.some.injEq,Obj.cells.injEq] at j
  exact E j.2.1
 ·obtain⟨_,_,c,j⟩:=h.la.typed g
  rw[n] at j
  simp only[Option.some.injEq,Obj.cells.injEq] at j
  exact D j.2.1
structure Stp (S:Sv) (w:World) (S':Sv) (w':World):Prop where
 os:w'.os=w.os
 tape:w'.tape=w.tape
 output:w'.output=w.output
 size:w.heap.size≤w'.heap.size
 block: ∀k,k<w.heap.size→¬S.has k→w'.heap[k]? =w.heap[k]?
 sub: ∀k,S'.has k→S.has k∨w.heap.size≤k
theorem Stp.refl (S:Sv) (w:World):Stp S w S w:=⟨rfl,rfl,rfl,Nat.le_refl _,fun _ _ _=>rfl,fun _ h=>.inl h⟩
theorem Stp.trans {S q A:Sv} {w o n:World} (h:Stp S w q o) (k:Stp q o A n):Stp S w A n:=
 ⟨k.os.trans h.os,k.tape.trans h.tape,k.output.trans h.output,Nat.le_trans h.size k.size,
  fun i j z=>(k.block i (Nat.lt_of_lt_of_le j h.size) fun g=>(h.sub i g).elim z fun D=>by omega).trans (h.block i j z),
  fun i j=>(k.sub i j).elim (h.sub i) fun g=>.inr (Nat.le_trans h.size g)⟩
theorem Stp.below {S:Sv} {w j:World} (h:Below w.heap.size w j):Stp S w S j:=⟨h.os,h.tape,h.output,h.size,fun k n _=>h.block k n,fun _ g=>.inl g⟩
theorem Stp.under {S o:Sv} {w n:World} {j:Nat} {q:PS} (h:Stp S w o n) (D:j≤w.heap.size) (z:Own w j S q):Below j w n:=
 ⟨h.os,h.tape,h.output,h.size,fun k A=>h.block k (by omega) fun g=>by have:=(z.has g).1;omega⟩
theorem Stp.grown {S o:Sv} {w n:World} {row:Option Nat} (j:w.grownBy n row) (z: ∀k,row=some k→S.has k) (D: ∀k,o.has k→S.has k∨w.heap.size≤k):Stp S w o n:=
 ⟨j.os,j.tape,j.output,j.size,fun k q A=>j.block k q fun e=>A (z k e.symm),D⟩
structure Inv (C:Cx) (q:PS):Prop where
 pos:q.pos≤C.ts.length
 rq:q.rq.length≤40
 im:q.im.length≤40
 ep:q.ep.length+q.la.length≤40
 st:q.st.length≤80
 ex:q.ex.length≤300
structure Mem (C:Cx) (gt cap base:Nat) (S:Sv) (q:PS) (w:World):Prop where
 own:Own w base S q
 inv:Inv C q
 tok:OwnT w base 111 gt C.ts.length cap C.ts
 few:C.ts.length≤4000
 base:base≤w.heap.size
theorem Mem.later {C:Cx} {A n j:Nat} {S:Sv} {q:PS} {w z:World} (h:Mem C A n j S q w) (o:Below w.heap.size w z):Mem C A n j S q z:=
 ⟨h.own.later o,h.inv,zbV h.tok o,h.few,Nat.le_trans h.base o.size⟩
theorem Mem.alloc {C:Cx} {z n j:Nat} {S:Sv} {q:PS} {w:World} (h:Mem C z n j S q w) (o:Obj):Mem C z n j S q (w.alloc o):=h.later ((Below.refl _ _).alloc (Nat.le_refl _) _)
theorem Own.to {w:World} {j:Nat} {S:Sv} {q q':PS} (h:Own w j S q) (E:q'.rq=q.rq) (z:q'.im=q.im) (A:q'.ep=q.ep) (o:q'.st=q.st) (n:q'.ex=q.ex) (D:q'.la=q.la):Own w j S q':=
 ⟨by rw[E];exact h.rq,by rw[z];exact h.im,by rw[A];exact h.ep,by rw[o];exact h.st,by rw[n];exact h.ex,by rw[D];exact h.la,h.apart⟩
theorem Mem.adv {C:Cx} {o n j:Nat} {S:Sv} {q:PS} {w:World} (h:Mem C o n j S q w) (z:q.pos<C.ts.length):Mem C o n j S (adv q) w:=
 ⟨h.own.to rfl rfl rfl rfl rfl rfl,⟨z,h.inv.rq,h.inv.im,h.inv.ep,h.inv.st,h.inv.ex⟩,h.tok,h.few,h.base⟩
theorem OwnR.alloc {w:World} {j size n:Nat} {e:TypeId} {r:Rw} {xs:List Value} (h:OwnR w j e size r n xs) (o:Obj):OwnR (w.alloc o) j e size r n xs:=
 h.keep fun k q=>Below.heap_alloc w o k (h.typed q).2.1
theorem zfr {w:World} {o g n z:Nat} {e:TypeId} {E:List Tk} (h:OwnT w o e g n z E): ∃j,w.heap[g]? =some (.cells j e (0,0)):=by
 rcases h.1.2 with ⟨q,_⟩|⟨I,A,j,q,J,D,H,_⟩
 ·simp at q
 ·simp only[Value.slice.injEq,Option.some.injEq,Addr.mk.injEq,and_true,true_and] at q
  obtain⟨rfl,rfl⟩:=q
  exact⟨j,D⟩
theorem zb0 {w A:World} {j g n o:Nat} {e:TypeId} {H:List Tk} (h:OwnT w j e g n o H) (I:A.heap[g]? =w.heap[g]?):OwnT A j e g n o H:=by
 refine⟨⟨h.1.1,?_⟩,h.2⟩
 rcases h.1.2 with k|⟨L,D,z,E,q,J,K⟩
 ·exact .inl k
 ·simp only[Value.slice.injEq,Option.some.injEq,Addr.mk.injEq,and_true,true_and] at E
  obtain⟨rfl,rfl⟩:=E
  exact .inr ⟨g,o,z,rfl,q,I.trans J,K⟩
theorem Mem.gt_free {C:Cx} {o n j:Nat} {S:Sv} {q:PS} {w:World} (h:Mem C o n j S q w): ¬S.has o:=by
 obtain⟨z,A⟩:=zfr h.tok
 exact h.own.other A (by decide) (by decide) (by decide) (by decide) (by decide)
structure Off (lo hi:Nat) (w w':World):Prop where
 os:w'.os=w.os
 tape:w'.tape=w.tape
 output:w'.output=w.output
 size:w.heap.size≤w'.heap.size
 block: ∀k,k<lo∨hi≤k∧k<w.heap.size→w'.heap[k]? =w.heap[k]?
theorem Off.refl (j n:Nat) (w:World):Off j n w w:=⟨rfl,rfl,rfl,Nat.le_refl _,fun _ _=>rfl⟩
theorem Off.set {o n:Nat} {w j:World} (h:Off o n w j) {b:Nat} (A:o≤b) (z:b<n) (i:Nat) (u:Value):Off o n w (j.setCell ⟨b,i,none⟩ u):=
 ⟨h.os,h.tape,h.output,by show _≤(j.heap.modify _ _).size;simp;exact h.size,fun k q=>(Below.heap_setCell j ⟨b,i,none⟩ u k (by show k≠b;omega)).trans (h.block k q)⟩
theorem Off.below {o z:Nat} {w n q:World} (h:Off o z w n) (j:Below n.heap.size n q) (D:o≤w.heap.size):Off o z w q:=
 ⟨j.os.trans h.os,j.tape.trans h.tape,j.output.trans h.output,Nat.le_trans h.size j.size,fun k A=>(j.block k (by have:=h.size;omega)).trans (h.block k A)⟩
theorem Off.set12 {q z:Nat} {a w:World} (h:Off q z a w) {b:Nat} (n:q≤b) (j:b<z) (H N L K M O J D E I A o:Value):
  Off q z a ((((((((((((w.setCell ⟨b,0,none⟩ H).setCell ⟨b,1,none⟩ N).setCell ⟨b,2,none⟩ L).setCell ⟨b,3,none⟩ K).setCell ⟨b,4,none⟩ M).setCell ⟨b,5,none⟩ O).setCell ⟨b,6,none⟩ J).setCell ⟨b,7,none⟩ D).setCell ⟨b,8,none⟩ E).setCell ⟨b,9,none⟩ I).setCell ⟨b,10,none⟩ A).setCell ⟨b,11,none⟩ o):=
 (((((((((((h.set n j _ _).set n j _ _).set n j _ _).set n j _ _).set n j _ _).set n j _ _).set n j _ _).set n j _ _).set n j _ _).set n j _ _).set n j _ _).set n j _ _
theorem zcu {P:Program} (W:World) {M:Array Oper} {rest:List Oper} {o:Oper} {a:Act} {Q:Exit→Act→World→Prop} (U:o.guard=none) (s x:Operand) (t:TypeId)
  (ho:o.op= .call {callee:=.builtin .append,args:=#[s,x],argTypes:=#[t,t]})
  (D:Nat) (e:TypeId) (i:TypeInfo) (z:Value) (size q:Nat) (ht:P.underlying t=some (.slice e)) (hi:P.info? e=some i) (hz:i.zero=some z) (H:i.size=size) (Y:i.bytes=q) (V:z.cells.size=size) (X:0<size) (N:q≤100)
  (r:Rw) (n:Nat) (xs:List Value) (hs:a.eval s= .slice r.a n r.cap) (K:OwnR W D e size r n xs)
  (L:Nat) (A:List Value) (hx:a.eval x= .slice (some ⟨L,0,none⟩) 1 1) (hg:W.heap[L]? =some (.cells A.toArray e (0,0))) (hl:A.length=size) (h1: ∀u∈A,u.oneCell'=true) (hn:n+1≤1000000) (I:D≤W.heap.size)
  (h: ∀O J,OwnR J D e size O (n+1) (xs++A)→W.grownBy J r.blk→(O.blk=r.blk∨O.blk=some W.heap.size)→wpList P M Q rest (a.put o.dst (.slice O.a (n+1) O.cap)) J):
  wpList P M Q (o::rest) a W:=by
 refine wpList_append_own_at _ U s x t ho D e i z size q ht hi hz H Y V X _ n _ hs K ⟨L,0,none⟩ 1 1 A hx (by omega) ?_ h1 ?_ ?_ I ?_
 ·intro j u hj
  have:(⟨L,0,none⟩:Addr).add j=⟨L,j,none⟩:=by simp[Addr.add];exact fun h=>h.symm
  rw[this]
  simp[World.cell?,hg,hj]
 ·unfold maxLen;omega
 ·have:(n+1)*q≤1000000*100:=Nat.mul_le_mul hn N
  omega
 ·intro v' J k1 k2 k3 k4
  rcases k1.2 with ⟨hv,ab⟩|⟨g',E,aa,rfl,Z⟩
  ·omega
  ·refine h ⟨some ⟨g',0,none⟩,E⟩ J k1 ?_ ?_
   ·rw[←zbo r n];exact k2
   ·rw[←zbo r n,←zbo ⟨some ⟨g',0,none⟩,E⟩ (n+1)];exact k4
theorem Mem.grow_rq {C:Cx} {V K A:Nat} {S:Sv} {q:PS} {w W Q E:World} (j:Mem C V K A S q w) (M:Below w.heap.size w W) (N:W.grownBy Q S.rq.blk) {D:Rw} {x:ByteArray} (Y:OwnR Q A 9 1 D (q.rq.length+1) (q.rq.map .string++[.string x])) (L:D.blk=S.rq.blk∨D.blk=some W.heap.size) (z:Off w.heap.size W.heap.size Q E) (X:q.rq.length<40):
  Mem C V K A {S with rq:=D} {q with rq:=q.rq++[x]} E∧Stp S w {S with rq:=D} E:=by
 have O:=M.size
 have I:=N.size
 have n: ∀k,k<w.heap.size→S.rq.blk≠some k→E.heap[k]? =w.heap[k]?:=fun k o U=>
  (z.block k (.inl o)).trans ((N.block k (by omega) fun e=>U e.symm).trans (M.block k o))
 have H:OwnR E A 9 1 D (q.rq.length+1) (q.rq.map .string++[.string x]):=Y.keep fun k o=>z.block k (by
  rcases L with e|e
  ·rw[e] at o
   exact .inl (j.own.rq.typed o).2.1
  ·rw[e] at o
   obtain rfl:=Option.some.inj o
   exact .inr ⟨Nat.le_refl _,(Y.typed e).2.1⟩)
 have J:(q.rq++[x]).length=q.rq.length+1:=by simp
 refine⟨⟨⟨by show OwnR E A 9 1 D (q.rq++[x]).length _;rw[J];simpa using H,j.own.im.keep fun k o=>n k (j.own.im.typed o).2.1 (j.own.im.ne j.own.rq (by decide) o),j.own.ep.keep fun k o=>n k (j.own.ep.typed o).2.1 (j.own.ep.ne j.own.rq (by decide) o),j.own.st.keep fun k o=>n k (j.own.st.typed o).2.1 (j.own.st.ne j.own.rq (by decide) o),j.own.ex.keep fun k o=>n k (j.own.ex.typed o).2.1 (j.own.ex.ne j.own.rq (by decide) o),j.own.la.keep fun k o=>n k (j.own.la.typed o).2.1 (j.own.la.ne j.own.rq (by decide) o),j.own.apart⟩,⟨j.inv.pos,by simp;omega,j.inv.im,j.inv.ep,j.inv.st,j.inv.ex⟩,zb0 j.tok (n V (zan j.tok).1 fun e=>j.gt_free (.inl e)),j.few,Nat.le_trans j.base (by have:=z.size;omega)⟩,?_⟩
 refine⟨z.os.trans (N.os.trans M.os),z.tape.trans (N.tape.trans M.tape),z.output.trans (N.output.trans M.output),Nat.le_trans (Nat.le_trans O I) z.size,fun k o X=>n k o fun e=>X (.inl e),fun k o=>?_⟩
 rcases o with h|h|h|h|h|h
 ·exact L.elim (fun e=>.inl (.inl (e.symm.trans h))) fun e=>.inr (by have:W.heap.size=k:=Option.some.inj (e.symm.trans h);omega)
 ·exact .inl (.inr (.inl h))
 ·exact .inl (.inr (.inr (.inl h)))
 ·exact .inl (.inr (.inr (.inr (.inl h))))
 ·exact .inl (.inr (.inr (.inr (.inr (.inl h)))))
 ·exact .inl (.inr (.inr (.inr (.inr (.inr h)))))
theorem Mem.grow_im {C:Cx} {V K A:Nat} {S:Sv} {q:PS} {w W Q E:World} (j:Mem C V K A S q w) (M:Below w.heap.size w W) (N:W.grownBy Q S.im.blk) {D:Rw} {x:Im} (Y:OwnR Q A 100 3 D (q.im.length+1) (q.im.flatMap imL++imL x)) (L:D.blk=S.im.blk∨D.blk=some W.heap.size) (z:Off w.heap.size W.heap.size Q E) (X:q.im.length<40):
  Mem C V K A {S with im:=D} {q with im:=q.im++[x]} E∧Stp S w {S with im:=D} E:=by
 have O:=M.size
 have I:=N.size
 have n: ∀k,k<w.heap.size→S.im.blk≠some k→E.heap[k]? =w.heap[k]?:=fun k o U=>
  (z.block k (.inl o)).trans ((N.block k (by omega) fun e=>U e.symm).trans (M.block k o))
 have H:OwnR E A 100 3 D (q.im.length+1) (q.im.flatMap imL++imL x):=Y.keep fun k o=>z.block k (by
  rcases L with e|e
  ·rw[e] at o
   exact .inl (j.own.im.typed o).2.1
  ·rw[e] at o
   obtain rfl:=Option.some.inj o
   exact .inr ⟨Nat.le_refl _,(Y.typed e).2.1⟩)
 have J:(q.im++[x]).length=q.im.length+1:=by simp
 refine⟨⟨⟨j.own.rq.keep fun k o=>n k (j.own.rq.typed o).2.1 (j.own.rq.ne j.own.im (by decide) o),by show OwnR E A 100 3 D (q.im++[x]).length _;rw[J];simpa using H,j.own.ep.keep fun k o=>n k (j.own.ep.typed o).2.1 (j.own.ep.ne j.own.im (by decide) o),j.own.st.keep fun k o=>n k (j.own.st.typed o).2.1 (j.own.st.ne j.own.im (by decide) o),j.own.ex.keep fun k o=>n k (j.own.ex.typed o).2.1 (j.own.ex.ne j.own.im (by decide) o),j.own.la.keep fun k o=>n k (j.own.la.typed o).2.1 (j.own.la.ne j.own.im (by decide) o),j.own.apart⟩,⟨j.inv.pos,j.inv.rq,by simp;omega,j.inv.ep,j.inv.st,j.inv.ex⟩,zb0 j.tok (n V (zan j.tok).1 fun e=>j.gt_free (.inr (.inl e))),j.few,Nat.le_trans j.base (by have:=z.size;omega)⟩,?_⟩
 refine⟨z.os.trans (N.os.trans M.os),z.tape.trans (N.tape.trans M.tape),z.output.trans (N.output.trans M.output),Nat.le_trans (Nat.le_trans O I) z.size,fun k o X=>n k o fun e=>X (.inr (.inl e)),fun k o=>?_⟩
 rcases o with h|h|h|h|h|h
 ·exact .inl (.inl h)
 ·exact L.elim (fun e=>.inl (.inr (.inl (e.symm.trans h)))) fun e=>.inr (by have:W.heap.size=k:=Option.some.inj (e.symm.trans h);omega)
 ·exact .inl (.inr (.inr (.inl h)))
 ·exact .inl (.inr (.inr (.inr (.inl h))))
 ·exact .inl (.inr (.inr (.inr (.inr (.inl h)))))
 ·exact .inl (.inr (.inr (.inr (.inr (.inr h)))))
theorem Mem.grow_ep {C:Cx} {V L A:Nat} {S:Sv} {q:PS} {w W Q H:World} (j:Mem C V L A S q w) (M:Below w.heap.size w W) (N:W.grownBy Q S.ep.blk) {E:Rw} {x:Ep} (Z:OwnR Q A 102 4 E (q.ep.length+1) (q.ep.flatMap epL++epL x)) (D:E.blk=S.ep.blk∨E.blk=some W.heap.size) (z:Off w.heap.size W.heap.size Q H) (X:q.ep.length+q.la.length<40):
  Mem C V L A {S with ep:=E} {q with ep:=q.ep++[x]} H∧Stp S w {S with ep:=E} H:=by
 have O:=M.size
 have J:=N.size
 have n: ∀k,k<w.heap.size→S.ep.blk≠some k→H.heap[k]? =w.heap[k]?:=fun k o U=>
  (z.block k (.inl o)).trans ((N.block k (by omega) fun e=>U e.symm).trans (M.block k o))
 have I:OwnR H A 102 4 E (q.ep.length+1) (q.ep.flatMap epL++epL x):=Z.keep fun k o=>z.block k (by
  rcases D with e|e
  ·rw[e] at o
   exact .inl (j.own.ep.typed o).2.1
  ·rw[e] at o
   obtain rfl:=Option.some.inj o
   exact .inr ⟨Nat.le_refl _,(Z.typed e).2.1⟩)
 have K:(q.ep++[x]).length=q.ep.length+1:=by simp
 refine⟨⟨⟨j.own.rq.keep fun k o=>n k (j.own.rq.typed o).2.1 (j.own.rq.ne j.own.ep (by decide) o),j.own.im.keep fun k o=>n k (j.own.im.typed o).2.1 (j.own.im.ne j.own.ep (by decide) o),by show OwnR H A 102 4 E (q.ep++[x]).length _;rw[K];simpa using I,j.own.st.keep fun k o=>n k (j.own.st.typed o).2.1 (j.own.st.ne j.own.ep (by decide) o),j.own.ex.keep fun k o=>n k (j.own.ex.typed o).2.1 (j.own.ex.ne j.own.ep (by decide) o),j.own.la.keep fun k o=>n k (j.own.la.typed o).2.1 (fun e=>j.own.apart k e o),fun k o Y=>D.elim (fun e=>j.own.apart k (by rw[←e];exact o) Y) fun e=>by have h1:=(j.own.la.typed Y).2.1;have h2:W.heap.size=k:=Option.some.inj (e.symm.trans o);omega⟩,⟨j.inv.pos,j.inv.rq,j.inv.im,by have:=j.inv.ep;simp;omega,j.inv.st,j.inv.ex⟩,zb0 j.tok (n V (zan j.tok).1 fun e=>j.gt_free (.inr (.inr (.inl e)))),j.few,Nat.le_trans j.base (by have:=z.size;omega)⟩,?_⟩
 refine⟨z.os.trans (N.os.trans M.os),z.tape.trans (N.tape.trans M.tape),z.output.trans (N.output.trans M.output),Nat.le_trans (Nat.le_trans O J) z.size,fun k o X=>n k o fun e=>X (.inr (.inr (.inl e))),fun k o=>?_⟩
 rcases o with h|h|h|h|h|h
 ·exact .inl (.inl h)
 ·exact .inl (.inr (.inl h))
 ·exact D.elim (fun e=>.inl (.inr (.inr (.inl (e.symm.trans h))))) fun e=>.inr (by have:W.heap.size=k:=Option.some.inj (e.symm.trans h);omega)
 ·exact .inl (.inr (.inr (.inr (.inl h))))
 ·exact .inl (.inr (.inr (.inr (.inr (.inl h)))))
 ·exact .inl (.inr (.inr (.inr (.inr (.inr h)))))
theorem Mem.grow_st {C:Cx} {V K A:Nat} {S:Sv} {q:PS} {w W Q E:World} (j:Mem C V K A S q w) (M:Below w.heap.size w W) (N:W.grownBy Q S.st.blk) {D:Rw} {x:Sm} (Y:OwnR Q A 106 3 D (q.st.length+1) (q.st.flatMap smL++smL x)) (L:D.blk=S.st.blk∨D.blk=some W.heap.size) (z:Off w.heap.size W.heap.size Q E) (X:q.st.length<80):
  Mem C V K A {S with st:=D} {q with st:=q.st++[x]} E∧Stp S w {S with st:=D} E:=by
 have O:=M.size
 have I:=N.size
 have n: ∀k,k<w.heap.size→S.st.blk≠some k→E.heap[k]? =w.heap[k]?:=fun k o U=>
  (z.block k (.inl o)).trans ((N.block k (by omega) fun e=>U e.symm).trans (M.block k o))
 have H:OwnR E A 106 3 D (q.st.length+1) (q.st.flatMap smL++smL x):=Y.keep fun k o=>z.block k (by
  rcases L with e|e
  ·rw[e] at o
   exact .inl (j.own.st.typed o).2.1
  ·rw[e] at o
   obtain rfl:=Option.some.inj o
   exact .inr ⟨Nat.le_refl _,(Y.typed e).2.1⟩)
 have J:(q.st++[x]).length=q.st.length+1:=by simp
 refine⟨⟨⟨j.own.rq.keep fun k o=>n k (j.own.rq.typed o).2.1 (j.own.rq.ne j.own.st (by decide) o),j.own.im.keep fun k o=>n k (j.own.im.typed o).2.1 (j.own.im.ne j.own.st (by decide) o),j.own.ep.keep fun k o=>n k (j.own.ep.typed o).2.1 (j.own.ep.ne j.own.st (by decide) o),by show OwnR E A 106 3 D (q.st++[x]).length _;rw[J];simpa using H,j.own.ex.keep fun k o=>n k (j.own.ex.typed o).2.1 (j.own.ex.ne j.own.st (by decide) o),j.own.la.keep fun k o=>n k (j.own.la.typed o).2.1 (j.own.la.ne j.own.st (by decide) o),j.own.apart⟩,⟨j.inv.pos,j.inv.rq,j.inv.im,j.inv.ep,by simp;omega,j.inv.ex⟩,zb0 j.tok (n V (zan j.tok).1 fun e=>j.gt_free (.inr (.inr (.inr (.inl e))))),j.few,Nat.le_trans j.base (by have:=z.size;omega)⟩,?_⟩
 refine⟨z.os.trans (N.os.trans M.os),z.tape.trans (N.tape.trans M.tape),z.output.trans (N.output.trans M.output),Nat.le_trans (Nat.le_trans O I) z.size,fun k o X=>n k o fun e=>X (.inr (.inr (.inr (.inl e)))),fun k o=>?_⟩
 rcases o with h|h|h|h|h|h
 ·exact .inl (.inl h)
 ·exact .inl (.inr (.inl h))
 ·exact .inl (.inr (.inr (.inl h)))
 ·exact L.elim (fun e=>.inl (.inr (.inr (.inr (.inl (e.symm.trans h)))))) fun e=>.inr (by have:W.heap.size=k:=Option.some.inj (e.symm.trans h);omega)
 ·exact .inl (.inr (.inr (.inr (.inr (.inl h)))))
 ·exact .inl (.inr (.inr (.inr (.inr (.inr h)))))
theorem Mem.grow_ex {C:Cx} {V K A:Nat} {S:Sv} {q:PS} {w W Q E:World} (j:Mem C V K A S q w) (M:Below w.heap.size w W) (N:W.grownBy Q S.ex.blk) {D:Rw} {x:Ex} (Y:OwnR Q A 108 6 D (q.ex.length+1) (q.ex.flatMap exL++exL x)) (L:D.blk=S.ex.blk∨D.blk=some W.heap.size) (z:Off w.heap.size W.heap.size Q E) (X:q.ex.length<300):
  Mem C V K A {S with ex:=D} {q with ex:=q.ex++[x]} E∧Stp S w {S with ex:=D} E:=by
 have O:=M.size
 have I:=N.size
 have n: ∀k,k<w.heap.size→S.ex.blk≠some k→E.heap[k]? =w.heap[k]?:=fun k o U=>
  (z.block k (.inl o)).trans ((N.block k (by omega) fun e=>U e.symm).trans (M.block k o))
 have H:OwnR E A 108 6 D (q.ex.length+1) (q.ex.flatMap exL++exL x):=Y.keep fun k o=>z.block k (by
  rcases L with e|e
  ·rw[e] at o
   exact .inl (j.own.ex.typed o).2.1
  ·rw[e] at o
   obtain rfl:=Option.some.inj o
   exact .inr ⟨Nat.le_refl _,(Y.typed e).2.1⟩)
 have J:(q.ex++[x]).length=q.ex.length+1:=by simp
 refine⟨⟨⟨j.own.rq.keep fun k o=>n k (j.own.rq.typed o).2.1 (j.own.rq.ne j.own.ex (by decide) o),j.own.im.keep fun k o=>n k (j.own.im.typed o).2.1 (j.own.im.ne j.own.ex (by decide) o),j.own.ep.keep fun k o=>n k (j.own.ep.typed o).2.1 (j.own.ep.ne j.own.ex (by decide) o),j.own.st.keep fun k o=>n k (j.own.st.typed o).2.1 (j.own.st.ne j.own.ex (by decide) o),by show OwnR E A 108 6 D (q.ex++[x]).length _;rw[J];simpa using H,j.own.la.keep fun k o=>n k (j.own.la.typed o).2.1 (j.own.la.ne j.own.ex (by decide) o),j.own.apart⟩,⟨j.inv.pos,j.inv.rq,j.inv.im,j.inv.ep,j.inv.st,by simp;omega⟩,zb0 j.tok (n V (zan j.tok).1 fun e=>j.gt_free (.inr (.inr (.inr (.inr (.inl e)))))),j.few,Nat.le_trans j.base (by have:=z.size;omega)⟩,?_⟩
 refine⟨z.os.trans (N.os.trans M.os),z.tape.trans (N.tape.trans M.tape),z.output.trans (N.output.trans M.output),Nat.le_trans (Nat.le_trans O I) z.size,fun k o X=>n k o fun e=>X (.inr (.inr (.inr (.inr (.inl e))))),fun k o=>?_⟩
 rcases o with h|h|h|h|h|h
 ·exact .inl (.inl h)
 ·exact .inl (.inr (.inl h))
 ·exact .inl (.inr (.inr (.inl h)))
 ·exact .inl (.inr (.inr (.inr (.inl h))))
 ·exact L.elim (fun e=>.inl (.inr (.inr (.inr (.inr (.inl (e.symm.trans h))))))) fun e=>.inr (by have:W.heap.size=k:=Option.some.inj (e.symm.trans h);omega)
 ·exact .inl (.inr (.inr (.inr (.inr (.inr h)))))
theorem Mem.grow_la {C:Cx} {V L A:Nat} {S:Sv} {q:PS} {w W Q H:World} (j:Mem C V L A S q w) (M:Below w.heap.size w W) (N:W.grownBy Q S.la.blk) {E:Rw} {x:Ep} (Z:OwnR Q A 102 4 E (q.la.length+1) (q.la.flatMap epL++epL x)) (D:E.blk=S.la.blk∨E.blk=some W.heap.size) (z:Off w.heap.size W.heap.size Q H) (X:q.ep.length+q.la.length<40):
  Mem C V L A {S with la:=E} {q with la:=q.la++[x]} H∧Stp S w {S with la:=E} H:=by
 have O:=M.size
 have J:=N.size
 have n: ∀k,k<w.heap.size→S.la.blk≠some k→H.heap[k]? =w.heap[k]?:=fun k o U=>
  (z.block k (.inl o)).trans ((N.block k (by omega) fun e=>U e.symm).trans (M.block k o))
 have I:OwnR H A 102 4 E (q.la.length+1) (q.la.flatMap epL++epL x):=Z.keep fun k o=>z.block k (by
  rcases D with e|e
  ·rw[e] at o
   exact .inl (j.own.la.typed o).2.1
  ·rw[e] at o
   obtain rfl:=Option.some.inj o
   exact .inr ⟨Nat.le_refl _,(Z.typed e).2.1⟩)
 have K:(q.la++[x]).length=q.la.length+1:=by simp
 refine⟨⟨⟨j.own.rq.keep fun k o=>n k (j.own.rq.typed o).2.1 (j.own.rq.ne j.own.la (by decide) o),j.own.im.keep fun k o=>n k (j.own.im.typed o).2.1 (j.own.im.ne j.own.la (by decide) o),j.own.ep.keep fun k o=>n k (j.own.ep.typed o).2.1 (fun e=>j.own.apart k o e),j.own.st.keep fun k o=>n k (j.own.st.typed o).2.1 (j.own.st.ne j.own.la (by decide) o),j.own.ex.keep fun k o=>n k (j.own.ex.typed o).2.1 (j.own.ex.ne j.own.la (by decide) o),by show OwnR H A 102 4 E (q.la++[x]).length _;rw[K];simpa using I,fun k o Y=>D.elim (fun e=>j.own.apart k o (by rw[←e];exact Y)) fun e=>by have h1:=(j.own.ep.typed o).2.1;have h2:W.heap.size=k:=Option.some.inj (e.symm.trans Y);omega⟩,⟨j.inv.pos,j.inv.rq,j.inv.im,by have:=j.inv.ep;simp;omega,j.inv.st,j.inv.ex⟩,zb0 j.tok (n V (zan j.tok).1 fun e=>j.gt_free (.inr (.inr (.inr (.inr (.inr e)))))),j.few,Nat.le_trans j.base (by have:=z.size;omega)⟩,?_⟩
 refine⟨z.os.trans (N.os.trans M.os),z.tape.trans (N.tape.trans M.tape),z.output.trans (N.output.trans M.output),Nat.le_trans (Nat.le_trans O J) z.size,fun k o X=>n k o fun e=>X (.inr (.inr (.inr (.inr (.inr e))))),fun k o=>?_⟩
 rcases o with h|h|h|h|h|h
 ·exact .inl (.inl h)
 ·exact .inl (.inr (.inl h))
 ·exact .inl (.inr (.inr (.inl h)))
 ·exact .inl (.inr (.inr (.inr (.inl h))))
 ·exact .inl (.inr (.inr (.inr (.inr (.inl h)))))
 ·exact D.elim (fun e=>.inl (.inr (.inr (.inr (.inr (.inr (e.symm.trans h))))))) fun e=>.inr (by have:W.heap.size=k:=Option.some.inj (e.symm.trans h);omega)
abbrev PRN:=Except Nat (PS×ByteArray)
def zaK (y:PRN):PR:=bd y fun a=>.ok a.1
def withN (y:PRN) (F:PR→ByteArray→PR):PRN:=bd y fun a=>bd (F (.ok a.1) a.2) fun q=>.ok (q,a.2)
def zcj (C:Cx) (q:PS):PRN:=withN (bd (zd C 1 zC q) (zj C false)) fun x n=>bd (bd (bd (bd x (zd C 4 cEq)) (pE C .sum 0)) (zd C 4 cSemi)) (zV C 1 n)
def fnP (C:Cx) (q:PS):PRN:=
 withN (bd (zd C 1 zT q) (zj C false)) fun x n=>bd (bd (bd (bd (bd (bd (bd (bd x (zd C 4 zn)) (zd C 4 za0)) (zd C 4 zJ)) (zd C 1 zdT)) (pE C .sum 0)) (zd C 4 cSemi)) (zd C 4 zbm)) (zV C 2 n)
def asP (C:Cx) (exp:Bool) (a:PS×ByteArray):PRN:=
 if isT C a.1.pos 1 sAs then zj C exp (adv a.1)
 else if (a.2.toList==[100,101,102,97,117,108,116])&& !exp then .error (zr C a.1.pos) else .ok a
abbrev PRL:=Except Nat (PS×List Ep)
def zcv (C:Cx) (exp:Bool):Nat→PS→List Ep→PRL
 |0,_,_=>.error 0
 |f+1,q,acc=>bd (zj C true q) fun a=>bd (asP C exp a) fun b=>
  if isT C b.1.pos 4 zbw then zcv C exp f (adv b.1) (acc++[⟨0,b.2,a.2,sNone⟩]) else bd (zd C 4 zbm b.1) fun q'=>.ok (q',acc++[⟨0,b.2,a.2,sNone⟩])
def zax (C:Cx) (exp:Bool) (q:PS) (acc:List Ep):PRL:=zcv C exp (C.ts.length-q.pos+1) q acc
def zcw (C:Cx) (exp:Bool) (q:PS):PRL:=bd (zd C 4 zJ q) fun q'=>zax C exp q' []
def za8 (l:List Ep):Bool:=l.any fun x=>x.loc.toList==[100,101,102,97,117,108,116]
theorem zeA {C:Cx} {j:Bool} {a b:PS×ByteArray} (h:asP C j a= .ok b):a.1.pos≤b.1.pos:=by
 unfold asP at h
 split at h
 ·obtain⟨rfl,_⟩:=zbd h
  show a.1.pos≤a.1.pos+1+1
  omega
 ·split at h
  ·cases h
  ·cases h
   exact Nat.le_refl _
theorem zls {C:Cx} {j:Bool} (f:Nat): ∀(g:Nat) (q:PS) (acc:List Ep),C.ts.length-q.pos<f→C.ts.length-q.pos<g→zcv C j f q acc=zcv C j g q acc:=by
 induction f with
 |zero=>intro g q acc h;omega
 |succ f o=>
  intro g q acc L K
  obtain⟨g,rfl⟩: ∃A,g=A+1:=⟨g-1,by omega⟩
  rw[zcv,zcv]
  refine zab fun a z=>zab fun b E=>?_
  split
  ·next n=>
   obtain⟨rfl,H⟩:=zbd z
   have D:=zeA E
   have J:=za1 n (by decide)
   have I:=ze4 H
   simp only[zx] at D
   exact o g _ _ (by rw[zx];omega) (by rw[zx];omega)
  ·rfl
theorem zfs (C:Cx) (j:Bool) (q:PS) (acc:List Ep):zax C j q acc=bd (zj C true q) fun a=>bd (asP C j a) fun b=>
  if isT C b.1.pos 4 zbw then zax C j (adv b.1) (acc++[⟨0,b.2,a.2,sNone⟩]) else bd (zd C 4 zbm b.1) fun q'=>.ok (q',acc++[⟨0,b.2,a.2,sNone⟩]):=by
 rw[zax,zcv]
 refine zab fun a o=>zab fun b A=>?_
 split
 ·next n=>
  obtain⟨rfl,D⟩:=zbd o
  have z:=zeA A
  have H:=za1 n (by decide)
  have E:=ze4 D
  simp only[zx] at z
  exact zls _ _ _ _ (by rw[zx];omega) (by rw[zx];omega)
 ·rfl
def zP {α:Type} (f:α→PS→PR):List α→PR→PR
 |[],x=>x
 |a::l,x=>zP f l (bd x (f a))
def zbF (s:ByteArray) (e:Ep):Im:=⟨s,e.loc,e.name⟩
def zaE (C:Cx) (x:PR):PRN:=bd (bd x (zd C 1 zU)) (zH C)
def zaR (C:Cx) (y:PRN):PRN:=bd y fun a=>bd (zd C 4 cSemi a.1) fun q=>.ok (q,a.2)
def zaQ (C:Cx) (q:PS):PR:=
 bd (zd C 1 zah q) fun q=>
  if isT C q.pos 4 zJ then bd (zcw C false q) fun a=>bd (zaR C (zaE C (.ok a.1))) fun b=>zP (fun e=>zak C (zbF b.2 e)) a.2 (.ok b.1)
  else if isT C q.pos 4 zw then bd (bd (bd (zd C 4 zw q) (zd C 1 sAs)) (zj C false)) fun a=>bd (zaR C (zaE C (.ok a.1))) fun b=>zak C ⟨b.2,zw,a.2⟩ b.1
  else if zD C q.pos false then bd (zj C false q) fun a=>bd (zaR C (zaE C (.ok a.1))) fun b=>zak C ⟨b.2,sDefault,a.2⟩ b.1
  else bd (zH C q) fun a=>zd C 4 cSemi a.1
def zA (e:Ep):Ep:=⟨1,e.name,e.loc,sNone⟩
def zai (s:ByteArray) (e:Ep):Ep:=⟨2,e.name,e.loc,s⟩
def zag (C:Cx) (q:PS):PR:=
 bd (zd C 1 zaf q) fun q=>
  if isT C q.pos 4 zJ then bd (zcw C true q) fun a=>
   if !za8 a.2&& !isT C a.1.pos 1 zU then bd (zd C 4 cSemi a.1) fun q=>zP (fun e=>zo C (zA e)) a.2 (.ok q)
   else bd (zaR C (zaE C (.ok a.1))) fun b=>zP (fun e=>zo C (zai b.2 e)) a.2 (.ok b.1)
  else if isT C q.pos 4 zw then bd (zaR C (zaE C (zd C 4 zw q))) fun b=>zo C ⟨3,sNone,sNone,b.2⟩ b.1
  else if isT C q.pos 1 sDefault then bd (bd (bd (bd (zd C 1 sDefault q) (pE C .sum 0)) (zd C 4 cSemi)) (zV C 1 zbN)) (zo C ⟨1,sDefault,zbN,sNone⟩)
  else if isT C q.pos 1 zC then bd (zcj C q) fun a=>zo C ⟨1,a.2,a.2,sNone⟩ a.1
  else if isT C q.pos 1 zT then bd (fnP C q) fun a=>zo C ⟨1,a.2,a.2,sNone⟩ a.1
  else .error (zr C q.pos)
def zy (C:Cx) (q:PS):PR:=
 if !C.scr&&isT C q.pos 1 zah then zaQ C q
 else if !C.scr&&isT C q.pos 1 zaf then zag C q
 else if isT C q.pos 1 zC then zaK (zcj C q)
 else if isT C q.pos 1 zT then zaK (fnP C q)
 else if isT C q.pos 1 zar then bd (bd (bd (bd (bd (zd C 1 zar q) (zd C 4 zn)) (pE C .sum 0)) (zd C 4 za0)) (zd C 4 cSemi)) (zV C 4 sNone)
 else if isT C q.pos 1 za3 then bd (bd (bd (zd C 1 za3 q) (pE C .sum 0)) (zd C 4 cSemi)) (zV C 5 sNone)
 else if C.scr&&isT C q.pos 1 zbA then bd (bd (bd (zd C 1 zbA q) (pE C .sum 0)) (zd C 4 cSemi)) (zV C 6 sNone)
 else bd (zj C false q) fun a=>bd (bd (bd (zd C 4 cEq a.1) (pE C .sum 0)) (zd C 4 cSemi)) (zV C 3 a.2)
theorem zay {C:Cx} {k:Int} {s:ByteArray} {q q':PS} (h:zd C k s q= .ok q'):q.pos+1=q'.pos:=by
 obtain⟨rfl,_⟩:=zb4 h
 rfl
theorem zdV {C:Cx} {o:Bool} {q:PS} {a:PS×ByteArray} (h:zj C o q= .ok a):q.pos+1=a.1.pos:=by
 obtain⟨rfl,_⟩:=zbd h
 rfl
theorem zhG {C:Cx} {q:PS} {a:PS×ByteArray} (h:zH C q= .ok a):q.pos+1=a.1.pos:=by
 unfold zH at h
 split at h
 ·split at h
  ·cases h;rfl
  ·split at h
   ·cases h
   ·cases h;rfl
 ·cases h
theorem zdW {C:Cx} {k:Int} {n:ByteArray} {q q':PS} (h:zV C k n q= .ok q'):q.pos=q'.pos:=by
 unfold zV at h
 split at h
 ·cases h
 ·cases h;rfl
theorem zgs {C:Cx} {y:Im} {q q':PS} (h:zak C y q= .ok q'):q.pos=q'.pos:=by
 unfold zak at h
 split at h
 ·cases h
 ·cases h;rfl
theorem zdX {C:Cx} {y:Ep} {q q':PS} (h:zo C y q= .ok q'):q.pos=q'.pos:=by
 unfold zo at h
 split at h
 ·cases h
 ·split at h
  ·cases h;rfl
  ·cases h;rfl
theorem zgt {α:Type} {f:α→PS→PR} (D: ∀a q q',f a q= .ok q'→q.pos=q'.pos) (l:List α): ∀(x:PR) (q':PS),zP f l x= .ok q'→∃q,x= .ok q∧q.pos=q'.pos:=by
 induction l with
 |nil=>intro x q' h;exact⟨q',h,rfl⟩
 |cons a l j=>
  intro x q' h
  obtain⟨b,A,o⟩:=j _ _ h
  obtain⟨c,z,n⟩:=zf A
  exact⟨c,z,(D _ _ _ n).trans o⟩
theorem zhH {C:Cx} {n:Bool} (m:Nat): ∀(q:PS) (acc:List Ep) (a:PS×List Ep),C.ts.length-q.pos<m→zax C n q acc= .ok a→q.pos≤a.1.pos:=by
 induction m with
 |zero=>intro q acc a h;omega
 |succ m z=>
  intro q acc a L h
  rw[zfs] at h
  obtain⟨b,J,D⟩:=zf h
  obtain⟨c,E,j⟩:=zf D
  have K:=zdV J
  have M:=zeA E
  split at j
  ·next o=>
   have I:=za1 o (by decide)
   have:=z _ _ _ (by rw[zx];omega) j
   rw[zx] at this
   omega
  ·obtain⟨d,A,H⟩:=zf j
   have I:=zay A
   cases H
   show q.pos≤d.pos
   omega
theorem zeB {C:Cx} {x:PR} {b:PS×ByteArray} (h:zaR C (zaE C x)= .ok b): ∃q,x= .ok q∧q.pos≤b.1.pos:=by
 obtain⟨a,H,A⟩:=zf h
 obtain⟨c,D,o⟩:=zf A
 obtain⟨d,n,E⟩:=zf H
 obtain⟨e,z,j⟩:=zf n
 have I:=zay D
 have K:=zhG E
 have J:=zay j
 cases o
 exact⟨e,z,by show e.pos≤c.pos;omega⟩
theorem zlt {C:Cx} {q q':PS} (h:zaQ C q= .ok q'):q.pos<q'.pos:=by
 obtain⟨Q,N,o⟩:=zf h
 have O:=zay N
 split at o
 ·obtain⟨a,z,n⟩:=zf o
  obtain⟨b,A,E⟩:=zf n
  obtain⟨c,K,I⟩:=zf z
  obtain⟨d,L,D⟩:=zeB A
  obtain⟨f,j,H⟩:=zgt (fun _ _ _ h=>zgs h) _ _ _ E
  have J:=zay K
  have M:=zhH _ _ _ _ (Nat.lt_succ_self _) I
  cases L
  cases j
  omega
 ·split at o
  ·obtain⟨a,z,n⟩:=zf o
   obtain⟨b,A,E⟩:=zf n
   obtain⟨c,K,I⟩:=zf z
   obtain⟨d,L,D⟩:=zf K
   obtain⟨f,j,H⟩:=zeB A
   have J:=zgs E
   have M:=zdV I
   have V:=zay L
   have U:=zay D
   cases j
   omega
  ·split at o
   ·obtain⟨a,z,n⟩:=zf o
    obtain⟨b,A,E⟩:=zf n
    obtain⟨f,j,H⟩:=zeB A
    have J:=zgs E
    have M:=zdV z
    cases j
    omega
   ·obtain⟨a,z,n⟩:=zf o
    have J:=zhG z
    have M:=zay n
    omega
theorem zhI {y:PRN} {F:PR→ByteArray→PR} {a:PS×ByteArray} (h:withN y F= .ok a): ∃b,y= .ok b∧F (.ok b.1) b.2= .ok a.1:=by
 obtain⟨b,q,n⟩:=zf h
 obtain⟨c,o,j⟩:=zf n
 cases j
 exact⟨b,q,o⟩
theorem zhJ {C:Cx} {q:PS} {a:PS×ByteArray} (h:zcj C q= .ok a):q.pos<a.1.pos:=by
 obtain⟨b,J,D⟩:=zhI h
 obtain⟨c,E,z⟩:=zf J
 obtain⟨d,o,I⟩:=zf D
 obtain⟨f,A,n⟩:=zf o
 obtain⟨g,H,j⟩:=zf A
 have K:=zay E
 have L:=zdV z
 have O:=zay (show zd C 4 cEq b.1= .ok g from H)
 have Q:=zaY j
 have M:=zay n
 have N:=zdW I
 omega
theorem zhK {C:Cx} {q:PS} {a:PS×ByteArray} (h:fnP C q= .ok a):q.pos<a.1.pos:=by
 obtain⟨b,M,Y⟩:=zhI h
 obtain⟨c,O,N⟩:=zf M
 obtain⟨d,U,L⟩:=zf Y
 obtain⟨f,X,K⟩:=zf U
 obtain⟨g,V,D⟩:=zf X
 obtain⟨i,A,I⟩:=zf V
 obtain⟨j,J,o⟩:=zf A
 obtain⟨k,E,n⟩:=zf J
 obtain⟨l,z,H⟩:=zf E
 have e1:=zay O
 have e2:=zdV N
 have e3:=zay (show zd C 4 zn b.1= .ok l from z)
 have e4:=zay H
 have e5:=zay n
 have e6:=zay o
 have e7:=zaY I
 have Z:=zay D
 have e9:=zay K
 have Q:=zdW L
 omega
theorem zlu {C:Cx} {q q':PS} (h:zag C q= .ok q'):q.pos<q'.pos:=by
 obtain⟨Q,N,j⟩:=zf h
 have U:=zay N
 split at j
 ·obtain⟨a,D,n⟩:=zf j
  obtain⟨c,M,K⟩:=zf D
  have J:=zay M
  have I:=zhH _ _ _ _ (Nat.lt_succ_self _) K
  split at n
  ·obtain⟨b,E,o⟩:=zf n
   obtain⟨f,z,L⟩:=zgt (fun _ _ _ h=>zdX h) _ _ _ o
   have O:=zay E
   cases z
   omega
  ·obtain⟨b,E,o⟩:=zf n
   obtain⟨d,H,A⟩:=zeB E
   obtain⟨f,z,L⟩:=zgt (fun _ _ _ h=>zdX h) _ _ _ o
   cases H
   cases z
   omega
 ·split at j
  ·obtain⟨b,E,o⟩:=zf j
   obtain⟨d,H,A⟩:=zeB E
   have J:=zay H
   have I:=zdX o
   omega
  ·split at j
   ·obtain⟨a,D,n⟩:=zf j
    obtain⟨b,E,o⟩:=zf D
    obtain⟨c,M,K⟩:=zf E
    obtain⟨d,H,A⟩:=zf M
    have J:=zay H
    have I:=zaY A
    have O:=zay K
    have X:=zdW o
    have V:=zdX n
    omega
   ·split at j
    ·obtain⟨a,D,n⟩:=zf j
     have J:=zhJ D
     have I:=zdX n
     omega
    ·split at j
     ·obtain⟨a,D,n⟩:=zf j
      have J:=zhK D
      have I:=zdX n
      omega
     ·cases j
theorem zhL {C:Cx} {s:ByteArray} {k:Int} {n:ByteArray} {q q':PS} (h:bd (bd (bd (zd C 1 s q) (pE C .sum 0)) (zd C 4 cSemi)) (zV C k n)= .ok q'):q.pos<q'.pos:=by
 obtain⟨a,E,z⟩:=zf h
 obtain⟨b,A,o⟩:=zf E
 obtain⟨c,j,D⟩:=zf A
 have H:=zay j
 have I:=zaY D
 have J:=zay o
 have K:=zdW z
 omega
theorem zft {C:Cx} {q q':PS} (h:zy C q= .ok q'):q.pos<q'.pos:=by
 unfold zy at h
 split at h
 ·exact zlt h
 ·split at h
  ·exact zlu h
  ·split at h
   ·obtain⟨a,n,j⟩:=zf h
    cases j
    exact zhJ n
   ·split at h
    ·obtain⟨a,n,j⟩:=zf h
     cases j
     exact zhK n
    ·split at h
     ·obtain⟨a,n,j⟩:=zf h
      obtain⟨b,E,A⟩:=zf n
      obtain⟨c,z,I⟩:=zf E
      obtain⟨d,D,o⟩:=zf z
      obtain⟨e,M,H⟩:=zf D
      have J:=zay M
      have K:=zay H
      have N:=zaY o
      have O:=zay I
      have L:=zay A
      have Q:=zdW j
      omega
     ·split at h
      ·exact zhL h
      ·split at h
       ·exact zhL h
       ·obtain⟨a,n,j⟩:=zf h
        obtain⟨b,E,A⟩:=zf j
        obtain⟨c,z,I⟩:=zf E
        obtain⟨d,D,o⟩:=zf z
        have J:=zdV n
        have K:=zay D
        have N:=zaY o
        have O:=zay I
        have L:=zdW A
        omega
def zcx (C:Cx):Nat→PS→PR
 |0,_=>.error 0
 |f+1,q=>if q.pos<C.ts.length then bd (zy C q) (zcx C f) else .ok q
def zas (C:Cx) (q:PS):PR:=zcx C (C.ts.length-q.pos+1) q
theorem zlv {C:Cx} (f:Nat): ∀(g:Nat) (q:PS),C.ts.length-q.pos<f→C.ts.length-q.pos<g→zcx C f q=zcx C g q:=by
 induction f with
 |zero=>intro g q h;omega
 |succ f j=>
  intro g q A z
  obtain⟨g,rfl⟩: ∃o,g=o+1:=⟨g-1,by omega⟩
  rw[zcx,zcx]
  split
  ·refine zab fun a n=>?_
   have:=zft n
   exact j g a (by omega) (by omega)
  ·rfl
theorem zfu (C:Cx) (q:PS):zas C q=if q.pos<C.ts.length then bd (zy C q) (zas C) else .ok q:=by
 rw[zas,zcx]
 split
 ·refine zab fun a j=>?_
  have:=zft j
  exact zlv _ _ _ (by omega) (by omega)
 ·rfl
def zbC:PS:=⟨0,[],[],[],[],[],[]⟩
def zb7 (s:ByteArray) (scr:Bool) (y:PR):Prop:=∃r,zae s scr r∧y=match r with
 | .error p=>.error p
 | .ok ts=>zas ⟨ts,s.size,scr⟩ zbC
theorem zhM {s:ByteArray} {j:Bool} {n o:PR} (D:zb7 s j n) (A:zb7 s j o):n=o:=by
 obtain⟨H,z,rfl⟩:=D
 obtain⟨E,q,rfl⟩:=A
 obtain rfl:=zkH z q
 rfl
theorem zlw {s:ByteArray} {z:Bool} {a n:Nat} {r:Except Nat (List Tk)} (h:Lx s z a n r): ∀o,r= .ok o→n≤4000→o.length+n≤4000:=by
 induction h using Lx.ind with
 |done=>intro o q A;cases q;simpa using A
 |bad _ _=>intro o q A;cases q
 | @tok a n e b t r h A E H q D=>
  intro o j _
  cases r with
  |error p=>simp[Except.map] at j
  |ok l=>
   simp only[Except.map,Except.ok.injEq] at j
   subst j
   have:=D l rfl (by omega)
   simp only[List.length_cons]
   omega
theorem zhN {s:ByteArray} {j:Bool} {n:List Tk} (h:zae s j (.ok n)):n.length≤4000:=by
 obtain⟨a,_,o⟩:=h
 have:=zlw o n rfl (by omega)
 omega
def R0:Rw:=⟨none,0⟩
def S0:Sv:=⟨R0,R0,R0,R0,R0,R0⟩
theorem zcy (w:World) (j size:Nat) (e:TypeId):OwnR w j e size R0 0 []:=World.ownsRow_nil w j e size
theorem zlx (w:World) (j:Nat):Own w j S0 zbC:=
 ⟨zcy _ _ _ _,zcy _ _ _ _,zcy _ _ _ _,zcy _ _ _ _,zcy _ _ _ _,zcy _ _ _ _,fun k h=>by simp[S0,R0,Rw.blk,Value.ownBlock] at h⟩
theorem zhO {w:World} {j g o:Nat} {q:List Tk} {n:Nat} {z:Bool} (h:OwnT w j 111 g q.length o q) (D:q.length≤4000) (A:j≤w.heap.size):Mem ⟨q,n,z⟩ g o j S0 zbC w:=
 ⟨zlx _ _,⟨Nat.zero_le _,Nat.zero_le _,Nat.zero_le _,Nat.zero_le _,Nat.zero_le _,Nat.zero_le _⟩,h,D,A⟩
structure OwnMod (w:World) (base:Nat) (S:Sv) (q:PS):Prop where
 rq:OwnR w base 9 1 S.rq q.rq.length (q.rq.map .string)
 im:OwnR w base 100 3 S.im q.im.length (q.im.flatMap imL)
 ep:OwnR w base 102 4 S.ep (q.ep++q.la).length ((q.ep++q.la).flatMap epL)
 st:OwnR w base 106 3 S.st q.st.length (q.st.flatMap smL)
 ex:OwnR w base 108 6 S.ex q.ex.length (q.ex.flatMap exL)
 inv:q.rq.length≤40∧q.im.length≤40∧q.ep.length+q.la.length≤40∧q.st.length≤80∧q.ex.length≤300
def zfv (S:Sv) (q:PS):Value:=.agg #[.slice S.rq.a q.rq.length S.rq.cap,.slice S.im.a q.im.length S.im.cap,.slice S.ep.a (q.ep++q.la).length S.ep.cap,.slice S.st.a q.st.length S.st.cap,.slice S.ex.a q.ex.length S.ex.cap]
def ParseOut (s:ByteArray) (scr:Bool) (w:World) (e:Ending) (w':World):Prop:=
 ∃y,zb7 s scr y∧match y with
  | .ok q=>∃S,e= .returned (.tuple #[zfv S q,.int .i64 (-1)])∧OwnMod w' w.heap.size S q
  | .error p=>e= .returned (.tuple #[.agg #[.slice none 0 0,.slice none 0 0,.slice none 0 0,.slice none 0 0,.slice none 0 0],.int .i64 p])
theorem OwnR.low {w:World} {o j size n:Nat} {e:TypeId} {r:Rw} {xs:List Value} (h:OwnR w o e size r n xs) (D:j≤o):OwnR w j e size r n xs:=by
 refine⟨h.1,?_⟩
 rcases h.2 with A|⟨g,z,q,A,E,rest⟩
 ·exact .inl A
 ·exact .inr ⟨g,z,q,A,Nat.le_trans D E,rest⟩
theorem OwnR.nil_or {w:World} {o size n:Nat} {e:TypeId} {r:Rw} {xs:List Value} (h:OwnR w o e size r n xs):(r.a=none∧r.cap=0∧n=0)∨∃g,r.a=some ⟨g,0,none⟩:=by
 rcases h.2 with ⟨j,z⟩|⟨g,A,q,j,_⟩
 ·simp only[Value.slice.injEq] at j
  exact .inl ⟨j.1,j.2.2,z⟩
 ·simp only[Value.slice.injEq] at j
  exact .inr ⟨g,j.1⟩
theorem zly {P:Program} (W:World) {U:Array Oper} {rest:List Oper} {o:Oper} {a:Act} {Q:Exit→Act→World→Prop} (Y:o.guard=none) (s x:Operand) (t:TypeId)
  (ho:o.op= .call {callee:=.builtin .append,args:=#[s,x],argTypes:=#[t,t]})
  (D:Nat) (e:TypeId) (i:TypeInfo) (z:Value) (size q:Nat) (ht:P.underlying t=some (.slice e)) (hi:P.info? e=some i) (hz:i.zero=some z) (H:i.size=size) (ab:i.bytes=q) (Z:z.cells.size=size) (aa:0<size) (V:q≤100)
  (r:Rw) (n:Nat) (xs:List Value) (hs:a.eval s= .slice r.a n r.cap) (N:OwnR W D e size r n xs)
  (O m c I:Nat) (A:List Value) (hx:a.eval x= .slice (some ⟨O,0,none⟩) m c) (hg:OwnR W I e size ⟨some ⟨O,0,none⟩,c⟩ m A) (h1: ∀u∈A,u.oneCell'=true) (hn:n+m≤1000000) (J:D≤W.heap.size)
  (h: ∀M K,OwnR K D e size M (n+m) (xs++A)→W.grownBy K r.blk→(M.blk=r.blk∨M.blk=some W.heap.size)→wpList P U Q rest (a.put o.dst (.slice M.a (n+m:Nat) M.cap)) K):
  wpList P U Q (o::rest) a W:=by
 refine wpList_append_own_at _ Y s x t ho D e i z size q ht hi hz H ab Z aa _ n _ hs N ⟨O,0,none⟩ m c A hx hg.1 ?_ h1 ?_ ?_ J ?_
 ·intro j u hj
  have e1:(⟨O,0,none⟩:Addr).add j=⟨O,j,none⟩:=by simp[Addr.add];exact fun h=>h.symm
  have ad:j<A.length:=(List.getElem?_eq_some_iff.1 hj).1
  rw[e1,World.ownsRow.cellAt hg j (by rw[←hg.1];exact ad)]
  exact hj
 ·unfold maxLen;omega
 ·have:(n+m)*q≤1000000*100:=Nat.mul_le_mul hn V
  omega
 ·intro v' K X k2 k3 k4
  rcases X.2 with ⟨hv,L⟩|⟨g',E,ae,rfl,ac⟩
  ·subst hv
   have:=h ⟨none,0⟩ K (by rw[L] at X ⊢;exact X) (by rw[←zbo r n];exact k2) (by rw[←zbo r n];exact k4)
   rw[L] at this
   exact this
  ·refine h ⟨some ⟨g',0,none⟩,E⟩ K X ?_ ?_
   ·rw[←zbo r n];exact k2
   ·rw[←zbo r n,←zbo ⟨some ⟨g',0,none⟩,E⟩ (n+m)];exact k4
theorem zlz {P:Program} (W:World) {z:Array Oper} {rest:List Oper} {o:Oper} {a:Act} {Q:Exit→Act→World→Prop} (A:o.guard=none) (s x:Operand) (t:TypeId)
  (O:o.op= .call {callee:=.builtin .append,args:=#[s,x],argTypes:=#[t,t]})
  (e:TypeId) (i:TypeInfo) (E:P.underlying t=some (.slice e)) (H:P.info? e=some i) (j size n:Nat)
  (r:Rw) (xs:List Value) (V:a.eval s= .slice r.a n r.cap) (q:OwnR W j e size r n xs) (M:a.eval x= .slice none 0 0)
  (h:wpList P z Q rest (a.put o.dst (.slice r.a n r.cap)) W):wpList P z Q (o::rest) a W:=by
 have U:(Builtin.append_ #[t,t] o.type #[.slice r.a n r.cap,.slice none 0 0]).run P W= .ok (.slice r.a n r.cap) W:=by
  rcases q.2 with ⟨D,_⟩|⟨g,L,I,D,_,_,N,_⟩
  ·rw[D]
   simp[Builtin.append_,run_underlying E,sizeOf,typeInfo,H,Builtin.lenOf,Builtin.firstCells]
  ·rw[D]
   simp[Builtin.append_,run_underlying E,sizeOf,typeInfo,H,Builtin.lenOf,Builtin.firstCells,loadCells,N,storeCells]
 refine wpList_plain A fun K J=>?_
 unfold Oper.wp execOp
 simp only[O,resolve,invoke,builtin,Sem.run_bind,Sem.run_pure,Result.andThen_ok,List.map_toArray,List.map_cons,List.map_nil,V,M,U]
 exact J _ _ h
theorem zgu (l:List Ep): ∀u∈l.flatMap epL,u.oneCell'=true:=by
 intro u n
 rw[List.mem_flatMap] at n
 obtain⟨x,_,j⟩:=n
 simp[epL] at j
 rcases j with rfl|rfl|rfl|rfl<;>rfl
theorem Mem.whole {C:Cx} {Z I j b B:Nat} {S:Sv} {q:PS} {W K N:World} {H:Rw} (A:Mem C Z I j S q W) (Y:W.grownBy K S.ep.blk) (O:OwnR K j 102 4 H (q.ep.length+q.la.length) (q.ep.flatMap epL++q.la.flatMap epL)) (J:H.blk=S.ep.blk∨H.blk=some W.heap.size) (hB:B<j) (hb:b<W.heap.size) (o: ¬S.has b)
  (Q: ∀k,k≠B→k≠b→N.heap[k]? =K.heap[k]?):OwnMod N B {S with ep:=H} q:=by
 have D:(q.ep++q.la).length=q.ep.length+q.la.length:=by simp
 have E: ∀(r:Rw) (e:TypeId) (z n:Nat) (L:List Value),OwnR W j e z r n L→e≠102→(∀k,r.blk=some k→S.has k)→OwnR N B e z r n L:=fun r e z n L h U V=>
  ((h.keep fun k g=>(Q k (by have:=(h.typed g).1;omega) (fun M=>o (by rw[←M];exact V k g))).trans (Y.block k (h.typed g).2.1 fun X=>(h.ne A.own.ep U g) X.symm)).low (by omega))
 refine⟨E _ _ _ _ _ A.own.rq (by decide) fun k g=>.inl g,E _ _ _ _ _ A.own.im (by decide) fun k g=>.inr (.inl g),?_,E _ _ _ _ _ A.own.st (by decide) fun k g=>.inr (.inr (.inr (.inl g))),E _ _ _ _ _ A.own.ex (by decide) fun k g=>.inr (.inr (.inr (.inr (.inl g)))),A.inv.rq,A.inv.im,A.inv.ep,A.inv.st,A.inv.ex⟩
 rw[D,List.flatMap_append]
 refine (O.keep fun k g=>Q k (by have:=(O.typed g).1;omega) ?_).low (by omega)
 rcases J with e|e
 ·intro M
  exact o (by rw[←M];exact .inr (.inr (.inl (by rw[←e];exact g))))
 ·have:W.heap.size=k:=Option.some.inj (e.symm.trans g)
  omega
theorem Mem.whole0 {C:Cx} {N I j b B:Nat} {S:Sv} {q:PS} {W E:World} (z:Mem C N I j S q W) (L:q.la=[]) (O:B<j) (A: ¬S.has b)
  (K: ∀k,k≠B→k≠b→E.heap[k]? =W.heap[k]?):OwnMod E B S q:=by
 have D: ∀(r:Rw) (e:TypeId) (o n:Nat) (H:List Value),OwnR W j e o r n H→(∀k,r.blk=some k→S.has k)→OwnR E B e o r n H:=fun r e o n H h M=>
  ((h.keep fun k g=>K k (by have:=(h.typed g).1;omega) (fun J=>A (by rw[←J];exact M k g))).low (by omega))
 refine⟨D _ _ _ _ _ z.own.rq fun k g=>.inl g,D _ _ _ _ _ z.own.im fun k g=>.inr (.inl g),?_,D _ _ _ _ _ z.own.st fun k g=>.inr (.inr (.inr (.inl g))),D _ _ _ _ _ z.own.ex fun k g=>.inr (.inr (.inr (.inr (.inl g)))),z.inv.rq,z.inv.im,z.inv.ep,z.inv.st,z.inv.ex⟩
 rw[L,List.append_nil]
 exact D _ _ _ _ _ z.own.ep fun k g=>.inr (.inr (.inl g))
theorem zl {w:World} {b:Nat} {t:TypeId} {q z n o j:Value} (h:w.heap[b]? =some (.cells #[q,z,n,o,j] t (0,0))):
  w.cell? ⟨b,0,none⟩=some q∧w.cell? ⟨b,1,none⟩=some z∧w.cell? ⟨b,2,none⟩=some n∧w.cell? ⟨b,3,none⟩=some o∧w.cell? ⟨b,4,none⟩=some j∧∀i,w.frozen? ⟨b,i,none⟩=false:=by
 refine⟨?_,?_,?_,?_,?_,fun i=>?_⟩<;>simp[World.cell?,World.frozen?,h]
theorem za9 {w:World} {b i:Nat} {j:Array Value} {u:Value} {t:TypeId} (h:w.heap[b]? =some (.cells j t (0,0))):(w.setCell ⟨b,i,none⟩ u).heap[b]? =some (.cells (j.setIfInBounds i u) t (0,0)):=by
 simp only[World.setCell,Array.getElem?_modify]
 rw[if_pos trivial,h]
 rfl
theorem zcZ {w:World} {b:Nat} {H I D E A j z n o q:Value} {t:TypeId} (h:w.heap[b]? =some (.cells #[H,I,D,E,A] t (0,0))):
  (((((w.setCell ⟨b,0,none⟩ j).setCell ⟨b,1,none⟩ z).setCell ⟨b,2,none⟩ n).setCell ⟨b,3,none⟩ o).setCell ⟨b,4,none⟩ q).heap[b]? =some (.cells #[j,z,n,o,q] t (0,0)):=by
 have e:=za9 (i:=4) (u:=q) (za9 (i:=3) (u:=o) (za9 (i:=2) (u:=n) (za9 (i:=1) (u:=z) (za9 (i:=0) (u:=j) h))))
 rw[e]
 simp
theorem zd1 {B:Nat} {a w:World} {b:Nat} (h:Below B a w) (j:B≤b) (n A o q z:Value):Below B a (((((w.setCell ⟨b,0,none⟩ n).setCell ⟨b,1,none⟩ A).setCell ⟨b,2,none⟩ o).setCell ⟨b,3,none⟩ q).setCell ⟨b,4,none⟩ z):=
 ((((h.setCell j _).setCell j _).setCell j _).setCell j _).setCell j _
end Go.Proofs.YticdggnnpjachaaGreat
