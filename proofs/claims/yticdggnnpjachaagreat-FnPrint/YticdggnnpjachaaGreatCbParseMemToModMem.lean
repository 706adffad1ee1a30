/-
  A program under way in memory: its six rows,what a step leaves as it was. No program is spoken of but for the numbers of its types.
  One of the six rows of a program under way grows by one element: what holds behind it. No program is spoken of but for the numbers of its types.
  Items of programs,as plain functions. No program is spoken of.
  A whole program,as a plain function of its tokens: items one behind the other. No program is spoken of.
  A text has at most 4000 tokens. No program is spoken of.
  A program in memory,as Parse hands it back. No program is spoken of but for the numbers of its types.
-/
import Derived.Maps.AppendAt
import Derived.Test.YticdggnnpjachaaGreatCbDrawProgCToTokMem
namespace Go.Proofs.YticdggnnpjachaaGreat
open Go.RowKit Go.PlainAid
def imL (x:Im):List Value:=[.string x.spec,.string x.first,.string x.loc]
def epL (x:Ep):List Value:=[.int .i64 x.kind,.string x.name,.string x.loc,.string x.spec]
def smL (x:Sm):List Value:=[.int .i64 x.kind,.string x.name,.int .i64 x.expr]
def exL (x:Ex):List Value:=[.int .i64 x.kind,.int .i64 x.num,.string x.name,.string x.field,.int .i64 x.l,.int .i64 x.r]
structure Rw where
 a:Option Addr
 cap:Nat
structure Sv where
 rq:Rw
 im:Rw
 ep:Rw
 st:Rw
 ex:Rw
 la:Rw
def Rw.blk (r:Rw):Option Nat:=(Value.slice r.a 0 r.cap).ownBlock
def Sv.has (S:Sv) (k:Nat):Prop:=S.rq.blk=some k∨S.im.blk=some k∨S.ep.blk=some k∨S.st.blk=some k∨S.ex.blk=some k∨S.la.blk=some k
def OwnR (w:World) (base:Nat) (e:TypeId) (size:Nat) (r:Rw) (n:Nat) (xs:List Value):Prop:=w.ownsRow base e size (.slice r.a n r.cap) n xs
theorem zbo (r:Rw) (n:Nat):(Value.slice r.a n r.cap).ownBlock=r.blk:=by
 unfold Rw.blk Value.ownBlock
 cases r.a<;>rfl
structure Own (w:World) (base:Nat) (S:Sv) (q:PS):Prop where
 rq:OwnR w base 9 1 S.rq q.rq.length (q.rq.map .string)
 im:OwnR w base 100 3 S.im q.im.length (q.im.flatMap imL)
 ep:OwnR w base 102 4 S.ep q.ep.length (q.ep.flatMap epL)
 st:OwnR w base 106 3 S.st q.st.length (q.st.flatMap smL)
 ex:OwnR w base 108 6 S.ex q.ex.length (q.ex.flatMap exL)
 la:OwnR w base 102 4 S.la q.la.length (q.la.flatMap epL)
 apart: ∀k,S.ep.blk=some k→S.la.blk≠some k
theorem OwnR.typed {w:World} {j size n:Nat} {e:TypeId} {r:Rw} {xs:List Value} (h:OwnR w j e size r n xs) {k:Nat} (q:r.blk=some k):j≤k∧k<w.heap.size∧∃o,w.heap[k]? =some (.cells o e (0,0)):=by
 rcases h.2 with ⟨z,_⟩|⟨g,D,o,z,E,A,_⟩
 ·rw[←zbo r n,z] at q
  simp[Value.ownBlock] at q
 ·rw[←zbo r n,z] at q
  simp only[Value.ownBlock,Option.some.injEq] at q
  subst q
  exact⟨E,(Array.getElem?_eq_some_iff.1 A).1,o,A⟩
theorem OwnR.ne {w:World} {N b2 D I H A:Nat} {o q:TypeId} {z n:Rw} {O E:List Value} (Q:OwnR w N o D z H O) (J:OwnR w b2 q I n A E) (K:o≠q) {k:Nat} (L:z.blk=some k):n.blk≠some k:=by
 intro h
 obtain⟨_,_,V,M⟩:=Q.typed L
 obtain⟨_,_,U,j⟩:=J.typed h
 rw[M] at j
 simp only[Option.some.injEq,Obj.cells.injEq] at j
 exact K j.2.1
theorem OwnR.keep {w A:World} {j size n:Nat} {e:TypeId} {r:Rw} {xs:List Value} (h:OwnR w j e size r n xs) (D: ∀k,r.blk=some k→A.heap[k]? =w.heap[k]?):OwnR A j e size r n xs:=by
 refine⟨h.1,?_⟩
 rcases h.2 with o|⟨g,z,q,o,H,E,rest⟩
 ·exact .inl o
 ·refine .inr ⟨g,z,q,o,H,?_,rest⟩
  rw[D g (by rw[←zbo r n,o];rfl)]
  exact E
theorem Own.keep {w o:World} {j:Nat} {S:Sv} {q:PS} (h:Own w j S q) (n: ∀k,S.has k→o.heap[k]? =w.heap[k]?):Own o j S q:=
 ⟨h.rq.keep fun k e=>n k (.inl e),h.im.keep fun k e=>n k (.inr (.inl e)),h.ep.keep fun k e=>n k (.inr (.inr (.inl e))),h.st.keep fun k e=>n k (.inr (.inr (.inr (.inl e)))),
  h.ex.keep fun k e=>n k (.inr (.inr (.inr (.inr (.inl e))))),h.la.keep fun k e=>n k (.inr (.inr (.inr (.inr (.inr e))))),h.apart⟩
theorem Own.has {w:World} {j:Nat} {S:Sv} {q:PS} (h:Own w j S q) {k:Nat} (n:S.has k):j≤k∧k<w.heap.size:=by
 rcases n with e|e|e|e|e|e
 ·exact⟨(h.rq.typed e).1,(h.rq.typed e).2.1⟩
 ·exact⟨(h.im.typed e).1,(h.im.typed e).2.1⟩
 ·exact⟨(h.ep.typed e).1,(h.ep.typed e).2.1⟩
 ·exact⟨(h.st.typed e).1,(h.st.typed e).2.1⟩
 ·exact⟨(h.ex.typed e).1,(h.ex.typed e).2.1⟩
 ·exact⟨(h.la.typed e).1,(h.la.typed e).2.1⟩
theorem Own.later {w n:World} {j:Nat} {S:Sv} {q:PS} (h:Own w j S q) (o:Below w.heap.size w n):Own n j S q:=h.keep fun k e=>o.block k (h.has e).2
theorem Own.other {w:World} {o:Nat} {S:Sv} {q:PS} (h:Own w o S q) {k:Nat} {A:Array Value} {e:TypeId} {z:Nat×Nat} (n:w.heap[k]? =some (.cells A e z)) (I:e≠9) (E:e≠100) (D:e≠102) (H:e≠106) (J:e≠108): ¬S.has k:=by
 rintro (g|g|g|g|g|g)
 ·obtain⟨_,_,c,j⟩:=h.rq.typed g
  rw[n] at j
  simp only[Option.some.injEq,Obj.cells.injEq] at j
  exact I j.2.1
 ·obtain⟨_,_,c,j⟩:=h.im.typed g
  rw[n] at j
  simp only[Option.some.injEq,Obj.cells.injEq] at j
  exact E j.2.1
 ·obtain⟨_,_,c,j⟩:=h.ep.typed g
  rw[n] at j
  simp only[Option.some.injEq,Obj.cells.injEq] at j
  exact D j.2.1
 ·obtain⟨_,_,c,j⟩:=h.st.typed g
  rw[n] at j
  simp only[Option.some.injEq,Obj.cells.injEq] at j
  exact H j.2.1
 ·obtain⟨_,_,c,j⟩:=h.ex.typed g
  rw[n] at j
  simp only[Option.some.injEq,Obj.cells.injEq] at j
  exact J j.2.1
 ·obtain⟨_,_,c,j⟩:=h.la.typed g
  rw[n] at j
  simp only[Option.some.injEq,Obj.cells.injEq] at j
  exact D j.2.1
structure Stp (S:Sv) (w:World) (S':Sv) (w':World):Prop where
 os:w'.os=w.os
 tape:w'.tape=w.tape
 output:w'.output=w.output
 size:w.heap.size≤w'.heap.size
 block: ∀k,k<w.heap.size→¬S.has k→w'.heap[k]? =w.heap[k]?
 sub: ∀k,S'.has k→S.has k∨w.heap.size≤k
theorem Stp.refl (S:Sv) (w:World):Stp S w S w:=⟨rfl,rfl,rfl,Nat.le_refl _,fun _ _ _=>rfl,fun _ h=>.inl h⟩
theorem Stp.trans {S z n:Sv} {w A q:World} (h:Stp S w z A) (k:Stp z A n q):Stp S w n q:=
 ⟨k.os.trans h.os,k.tape.trans h.tape,k.output.trans h.output,Nat.le_trans h.size k.size,
  fun i j o=>(k.block i (Nat.lt_of_lt_of_le j h.size) fun g=>(h.sub i g).elim o fun D=>by omega).trans (h.block i j o),
  fun i j=>(k.sub i j).elim (h.sub i) fun g=>.inr (Nat.le_trans h.size g)⟩
theorem Stp.below {S:Sv} {w j:World} (h:Below w.heap.size w j):Stp S w S j:=⟨h.os,h.tape,h.output,h.size,fun k n _=>h.block k n,fun _ g=>.inl g⟩
theorem Stp.under {S z:Sv} {w n:World} {j:Nat} {q:PS} (h:Stp S w z n) (D:j≤w.heap.size) (o:Own w j S q):Below j w n:=
 ⟨h.os,h.tape,h.output,h.size,fun k A=>h.block k (by omega) fun g=>by have:=(o.has g).1;omega⟩
theorem Stp.grown {S n:Sv} {w o:World} {row:Option Nat} (j:w.grownBy o row) (D: ∀k,row=some k→S.has k) (q: ∀k,n.has k→S.has k∨w.heap.size≤k):Stp S w n o:=
 ⟨j.os,j.tape,j.output,j.size,fun k A z=>j.block k A fun e=>z (D k e.symm),q⟩
structure Inv (C:Cx) (q:PS):Prop where
 pos:q.pos≤C.ts.length
 rq:q.rq.length≤40
 im:q.im.length≤40
 ep:q.ep.length+q.la.length≤40
 st:q.st.length≤80
 ex:q.ex.length≤300
structure Mem (C:Cx) (gt cap base:Nat) (S:Sv) (q:PS) (w:World):Prop where
 own:Own w base S q
 inv:Inv C q
 tok:OwnT w base 111 gt C.ts.length cap C.ts
 few:C.ts.length≤4000
 base:base≤w.heap.size
theorem Mem.later {C:Cx} {z n j:Nat} {S:Sv} {q:PS} {w A:World} (h:Mem C z n j S q w) (o:Below w.heap.size w A):Mem C z n j S q A:=
 ⟨h.own.later o,h.inv,zbV h.tok o,h.few,Nat.le_trans h.base o.size⟩
theorem Mem.alloc {C:Cx} {z n j:Nat} {S:Sv} {q:PS} {w:World} (h:Mem C z n j S q w) (o:Obj):Mem C z n j S q (w.alloc o):=h.later ((Below.refl _ _).alloc (Nat.le_refl _) _)
theorem Own.to {w:World} {j:Nat} {S:Sv} {q q':PS} (h:Own w j S q) (D:q'.rq=q.rq) (o:q'.im=q.im) (n:q'.ep=q.ep) (z:q'.st=q.st) (E:q'.ex=q.ex) (A:q'.la=q.la):Own w j S q':=
 ⟨by rw[D];exact h.rq,by rw[o];exact h.im,by rw[n];exact h.ep,by rw[z];exact h.st,by rw[E];exact h.ex,by rw[A];exact h.la,h.apart⟩
theorem Mem.adv {C:Cx} {o n j:Nat} {S:Sv} {q:PS} {w:World} (h:Mem C o n j S q w) (z:q.pos<C.ts.length):Mem C o n j S (adv q) w:=
 ⟨h.own.to rfl rfl rfl rfl rfl rfl,⟨z,h.inv.rq,h.inv.im,h.inv.ep,h.inv.st,h.inv.ex⟩,h.tok,h.few,h.base⟩
theorem OwnR.alloc {w:World} {j size n:Nat} {e:TypeId} {r:Rw} {xs:List Value} (h:OwnR w j e size r n xs) (o:Obj):OwnR (w.alloc o) j e size r n xs:=
 h.keep fun k q=>Below.heap_alloc w o k (h.typed q).2.1
theorem zfr {w:World} {o g n z:Nat} {e:TypeId} {D:List Tk} (h:OwnT w o e g n z D): ∃j,w.heap[g]? =some (.cells j e (0,0)):=by
 rcases h.1.2 with ⟨q,_⟩|⟨I,A,j,q,J,E,H,_⟩
 ·simp at q
 ·simp only[Value.slice.injEq,Option.some.injEq,Addr.mk.injEq,and_true,true_and] at q
  obtain⟨rfl,rfl⟩:=q
  exact⟨j,E⟩
theorem zb0 {w H:World} {j g n o:Nat} {e:TypeId} {A:List Tk} (h:OwnT w j e g n o A) (I:H.heap[g]? =w.heap[g]?):OwnT H j e g n o A:=by
 refine⟨⟨h.1.1,?_⟩,h.2⟩
 rcases h.1.2 with k|⟨L,E,z,D,q,J,K⟩
 ·exact .inl k
 ·simp only[Value.slice.injEq,Option.some.injEq,Addr.mk.injEq,and_true,true_and] at D
  obtain⟨rfl,rfl⟩:=D
  exact .inr ⟨g,o,z,rfl,q,I.trans J,K⟩
theorem Mem.gt_free {C:Cx} {o n j:Nat} {S:Sv} {q:PS} {w:World} (h:Mem C o n j S q w): ¬S.has o:=by
 obtain⟨z,A⟩:=zfr h.tok
 exact h.own.other A (by decide) (by decide) (by decide) (by decide) (by decide)
structure Off (lo hi:Nat) (w w':World):Prop where
 os:w'.os=w.os
 tape:w'.tape=w.tape
 output:w'.output=w.output
 size:w.heap.size≤w'.heap.size
 block: ∀k,k<lo∨hi≤k∧k<w.heap.size→w'.heap[k]? =w.heap[k]?
theorem Off.refl (n j:Nat) (w:World):Off n j w w:=⟨rfl,rfl,rfl,Nat.le_refl _,fun _ _=>rfl⟩
theorem Off.set {o n:Nat} {w j:World} (h:Off o n w j) {b:Nat} (A:o≤b) (z:b<n) (i:Nat) (u:Value):Off o n w (j.setCell ⟨b,i,none⟩ u):=
 ⟨h.os,h.tape,h.output,by show _≤(j.heap.modify _ _).size;simp;exact h.size,fun k q=>(Below.heap_setCell j ⟨b,i,none⟩ u k (by show k≠b;omega)).trans (h.block k q)⟩
theorem Off.below {o q:Nat} {w n z:World} (h:Off o q w n) (j:Below n.heap.size n z) (D:o≤w.heap.size):Off o q w z:=
 ⟨j.os.trans h.os,j.tape.trans h.tape,j.output.trans h.output,Nat.le_trans h.size j.size,fun k A=>(j.block k (by have:=h.size;omega)).trans (h.block k A)⟩
theorem Off.set12 {A o:Nat} {a w:World} (h:Off A o a w) {b:Nat} (n:A≤b) (j:b<o) (H L E N K D J I O M z q:Value):
  Off A o a ((((((((((((w.setCell ⟨b,0,none⟩ H).setCell ⟨b,1,none⟩ L).setCell ⟨b,2,none⟩ E).setCell ⟨b,3,none⟩ N).setCell ⟨b,4,none⟩ K).setCell ⟨b,5,none⟩ D).setCell ⟨b,6,none⟩ J).setCell ⟨b,7,none⟩ I).setCell ⟨b,8,none⟩ O).setCell ⟨b,9,none⟩ M).setCell ⟨b,10,none⟩ z).setCell ⟨b,11,none⟩ q):=
 (((((((((((h.set n j _ _).set n j _ _).set n j _ _).set n j _ _).set n j _ _).set n j _ _).set n j _ _).set n j _ _).set n j _ _).set n j _ _).set n j _ _).set n j _ _
theorem zcu {P:Program} (W:World) {L:Array Oper} {rest:List Oper} {o:Oper} {a:Act} {Q:Exit→Act→World→Prop} (X:o.guard=none) (s x:Operand) (t:TypeId)
  (ho:o.op= .call {callee:=.builtin .append,args:=#[s,x],argTypes:=#[t,t]})
  (D:Nat) (e:TypeId) (i:TypeInfo) (z:Value) (size q:Nat) (ht:P.underlying t=some (.slice e)) (hi:P.info? e=some i) (hz:i.zero=some z) (H:i.size=size) (V:i.bytes=q) (Z:z.cells.size=size) (Y:0<size) (N:q≤100)
  (r:Rw) (n:Nat) (xs:List Value) (hs:a.eval s= .slice r.a n r.cap) (M:OwnR W D e size r n xs)
  (J:Nat) (A:List Value) (hx:a.eval x= .slice (some ⟨J,0,none⟩) 1 1) (hg:W.heap[J]? =some (.cells A.toArray e (0,0))) (hl:A.length=size) (h1: ∀u∈A,u.oneCell'=true) (hn:n+1≤1000000) (I:D≤W.heap.size)
  (h: ∀O K,OwnR K D e size O (n+1) (xs++A)→W.grownBy K r.blk→(O.blk=r.blk∨O.blk=some W.heap.size)→wpList P L Q rest (a.put o.dst (.slice O.a (n+1) O.cap)) K):
  wpList P L Q (o::rest) a W:=by
 refine wpList_append_own_at _ X s x t ho D e i z size q ht hi hz H V Z Y _ n _ hs M ⟨J,0,none⟩ 1 1 A hx (by omega) ?_ h1 ?_ ?_ I ?_
 ·intro j u hj
  have:(⟨J,0,none⟩:Addr).add j=⟨J,j,none⟩:=by simp[Addr.add];exact fun h=>h.symm
  rw[this]
  simp[World.cell?,hg,hj]
 ·unfold maxLen;omega
 ·have:(n+1)*q≤1000000*100:=Nat.mul_le_mul hn N
  omega
 ·intro v' K k1 k2 k3 k4
  rcases k1.2 with ⟨hv,aa⟩|⟨g',E,ab,rfl,U⟩
  ·omega
  ·refine h ⟨some ⟨g',0,none⟩,E⟩ K k1 ?_ ?_
   ·rw[←zbo r n];exact k2
   ·rw[←zbo r n,←zbo ⟨some ⟨g',0,none⟩,E⟩ (n+1)];exact k4
theorem Mem.grow_rq {C:Cx} {O I A:Nat} {S:Sv} {q:PS} {w W V E:World} (j:Mem C O I A S q w) (L:Below w.heap.size w W) (H:W.grownBy V S.rq.blk) {D:Rw} {x:ByteArray} (Y:OwnR V A 9 1 D (q.rq.length+1) (q.rq.map .string++[.string x])) (M:D.blk=S.rq.blk∨D.blk=some W.heap.size) (z:Off w.heap.size W.heap.size V E) (X:q.rq.length<40):
  Mem C O I A {S with rq:=D} {q with rq:=q.rq++[x]} E∧Stp S w {S with rq:=D} E:=by
 have Q:=L.size
 have K:=H.size
 have n: ∀k,k<w.heap.size→S.rq.blk≠some k→E.heap[k]? =w.heap[k]?:=fun k o U=>
  (z.block k (.inl o)).trans ((H.block k (by omega) fun e=>U e.symm).trans (L.block k o))
 have N:OwnR E A 9 1 D (q.rq.length+1) (q.rq.map .string++[.string x]):=Y.keep fun k o=>z.block k (by
  rcases M with e|e
  ·rw[e] at o
   exact .inl (j.own.rq.typed o).2.1
  ·rw[e] at o
   obtain rfl:=Option.some.inj o
   exact .inr ⟨Nat.le_refl _,(Y.typed e).2.1⟩)
 have J:(q.rq++[x]).length=q.rq.length+1:=by simp
 refine⟨⟨⟨by show OwnR E A 9 1 D (q.rq++[x]).length _;rw[J];simpa using N,j.own.im.keep fun k o=>n k (j.own.im.typed o).2.1 (j.own.im.ne j.own.rq (by decide) o),j.own.ep.keep fun k o=>n k (j.own.ep.typed o).2.1 (j.own.ep.ne j.own.rq (by decide) o),j.own.st.keep fun k o=>n k (j.own.st.typed o).2.1 (j.own.st.ne j.own.rq (by decide) o),j.own.ex.keep fun k o=>n k (j.own.ex.typed o).2.1 (j.own.ex.ne j.own.rq (by decide) o),j.own.la.keep fun k o=>n k (j.own.la.typed o).2.1 (j.own.la.ne j.own.rq (by decide) o),j.own.apart⟩,⟨j.inv.pos,by simp;omega,j.inv.im,j.inv.ep,j.inv.st,j.inv.ex⟩,zb0 j.tok (n O (zan j.tok).1 fun e=>j.gt_free (.inl e)),j.few,Nat.le_trans j.base (by have:=z.size;omega)⟩,?_⟩
 refine⟨z.os.trans (H.os.trans L.os),z.tape.trans (H.tape.trans L.tape),z.output.trans (H.output.trans L.output),Nat.le_trans (Nat.le_trans Q K) z.size,fun k o X=>n k o fun e=>X (.inl e),fun k o=>?_⟩
 rcases o with h|h|h|h|h|h
 ·exact M.elim (fun e=>.inl (.inl (e.symm.trans h))) fun e=>.inr (by have:W.heap.size=k:=Option.some.inj (e.symm.trans h);omega)
 ·exact .inl (.inr (.inl h))
 ·exact .inl (.inr (.inr (.inl h)))
 ·exact .inl (.inr (.inr (.inr (.inl h))))
 ·exact .inl (.inr (.inr (.inr (.inr (.inl h)))))
 ·exact .inl (.inr (.inr (.inr (.inr (.inr h)))))
theorem Mem.grow_im {C:Cx} {O I A:Nat} {S:Sv} {q:PS} {w W V E:World} (j:Mem C O I A S q w) (L:Below w.heap.size w W) (H:W.grownBy V S.im.blk) {D:Rw} {x:Im} (Y:OwnR V A 100 3 D (q.im.length+1) (q.im.flatMap imL++imL x)) (M:D.blk=S.im.blk∨D.blk=some W.heap.size) (z:Off w.heap.size W.heap.size V E) (X:q.im.length<40):
  Mem C O I A {S with im:=D} {q with im:=q.im++[x]} E∧Stp S w {S with im:=D} E:=by
 have Q:=L.size
 have K:=H.size
 have n: ∀k,k<w.heap.size→S.im.blk≠some k→E.heap[k]? =w.heap[k]?:=fun k o U=>
  (z.block k (.inl o)).trans ((H.block k (by omega) fun e=>U e.symm).trans (L.block k o))
 have N:OwnR E A 100 3 D (q.im.length+1) (q.im.flatMap imL++imL x):=Y.keep fun k o=>z.block k (by
  rcases M with e|e
  ·rw[e] at o
   exact .inl (j.own.im.typed o).2.1
  ·rw[e] at o
   obtain rfl:=Option.some.inj o
   exact .inr ⟨Nat.le_refl _,(Y.typed e).2.1⟩)
 have J:(q.im++[x]).length=q.im.length+1:=by simp
 refine⟨⟨⟨j.own.rq.keep fun k o=>n k (j.own.rq.typed o).2.1 (j.own.rq.ne j.own.im (by decide) o),by show OwnR E A 100 3 D (q.im++[x]).length _;rw[J];simpa using N,j.own.ep.keep fun k o=>n k (j.own.ep.typed o).2.1 (j.own.ep.ne j.own.im (by decide) o),j.own.st.keep fun k o=>n k (j.own.st.typed o).2.1 (j.own.st.ne j.own.im (by decide) o),j.own.ex.keep fun k o=>n k (j.own.ex.typed o).2.1 (j.own.ex.ne j.own.im (by decide) o),j.own.la.keep fun k o=>n k (j.own.la.typed o).2.1 (j.own.la.ne j.own.im (by decide) o),j.own.apart⟩,⟨j.inv.pos,j.inv.rq,by simp;omega,j.inv.ep,j.inv.st,j.inv.ex⟩,zb0 j.tok (n O (zan j.tok).1 fun e=>j.gt_free (.inr (.inl e))),j.few,Nat.le_trans j.base (by have:=z.size;omega)⟩,?_⟩
 refine⟨z.os.trans (H.os.trans L.os),z.tape.trans (H.tape.trans L.tape),z.output.trans (H.output.trans L.output),Nat.le_trans (Nat.le_trans Q K) z.size,fun k o X=>n k o fun e=>X (.inr (.inl e)),fun k o=>?_⟩
 rcases o with h|h|h|h|h|h
 ·exact .inl (.inl h)
 ·exact M.elim (fun e=>.inl (.inr (.inl (e.symm.trans h)))) fun e=>.inr (by have:W.heap.size=k:=Option.some.inj (e.symm.trans h);omega)
 ·exact .inl (.inr (.inr (.inl h)))
 ·exact .inl (.inr (.inr (.inr (.inl h))))
 ·exact .inl (.inr (.inr (.inr (.inr (.inl h)))))
 ·exact .inl (.inr (.inr (.inr (.inr (.inr h)))))
theorem Mem.grow_ep {C:Cx} {O J A:Nat} {S:Sv} {q:PS} {w W V H:World} (j:Mem C O J A S q w) (M:Below w.heap.size w W) (I:W.grownBy V S.ep.blk) {E:Rw} {x:Ep} (Z:OwnR V A 102 4 E (q.ep.length+1) (q.ep.flatMap epL++epL x)) (D:E.blk=S.ep.blk∨E.blk=some W.heap.size) (z:Off w.heap.size W.heap.size V H) (Y:q.ep.length+q.la.length<40):
  Mem C O J A {S with ep:=E} {q with ep:=q.ep++[x]} H∧Stp S w {S with ep:=E} H:=by
 have Q:=M.size
 have L:=I.size
 have n: ∀k,k<w.heap.size→S.ep.blk≠some k→H.heap[k]? =w.heap[k]?:=fun k o U=>
  (z.block k (.inl o)).trans ((I.block k (by omega) fun e=>U e.symm).trans (M.block k o))
 have N:OwnR H A 102 4 E (q.ep.length+1) (q.ep.flatMap epL++epL x):=Z.keep fun k o=>z.block k (by
  rcases D with e|e
  ·rw[e] at o
   exact .inl (j.own.ep.typed o).2.1
  ·rw[e] at o
   obtain rfl:=Option.some.inj o
   exact .inr ⟨Nat.le_refl _,(Z.typed e).2.1⟩)
 have K:(q.ep++[x]).length=q.ep.length+1:=by simp
 refine⟨⟨⟨j.own.rq.keep fun k o=>n k (j.own.rq.typed o).2.1 (j.own.rq.ne j.own.ep (by decide) o),j.own.im.keep fun k o=>n k (j.own.im.typed o).2.1 (j.own.im.ne j.own.ep (by decide) o),by show OwnR H A 102 4 E (q.ep++[x]).length _;rw[K];simpa using N,j.own.st.keep fun k o=>n k (j.own.st.typed o).2.1 (j.own.st.ne j.own.ep (by decide) o),j.own.ex.keep fun k o=>n k (j.own.ex.typed o).2.1 (j.own.ex.ne j.own.ep (by decide) o),j.own.la.keep fun k o=>n k (j.own.la.typed o).2.1 (fun e=>j.own.apart k e o),fun k o X=>D.elim (fun e=>j.own.apart k (by rw[←e];exact o) X) fun e=>by have h1:=(j.own.la.typed X).2.1;have h2:W.heap.size=k:=Option.some.inj (e.symm.trans o);omega⟩,⟨j.inv.pos,j.inv.rq,j.inv.im,by have:=j.inv.ep;simp;omega,j.inv.st,j.inv.ex⟩,zb0 j.tok (n O (zan j.tok).1 fun e=>j.gt_free (.inr (.inr (.inl e)))),j.few,Nat.le_trans j.base (by have:=z.size;omega)⟩,?_⟩
 refine⟨z.os.trans (I.os.trans M.os),z.tape.trans (I.tape.trans M.tape),z.output.trans (I.output.trans M.output),Nat.le_trans (Nat.le_trans Q L) z.size,fun k o Y=>n k o fun e=>Y (.inr (.inr (.inl e))),fun k o=>?_⟩
 rcases o with h|h|h|h|h|h
 ·exact .inl (.inl h)
 ·exact .inl (.inr (.inl h))
 ·exact D.elim (fun e=>.inl (.inr (.inr (.inl (e.symm.trans h))))) fun e=>.inr (by have:W.heap.size=k:=Option.some.inj (e.symm.trans h);omega)
 ·exact .inl (.inr (.inr (.inr (.inl h))))
 ·exact .inl (.inr (.inr (.inr (.inr (.inl h)))))
 ·exact .inl (.inr (.inr (.inr (.inr (.inr h)))))
theorem Mem.grow_st {C:Cx} {O I A:Nat} {S:Sv} {q:PS} {w W V E:World} (j:Mem C O I A S q w) (L:Below w.heap.size w W) (H:W.grownBy V S.st.blk) {D:Rw} {x:Sm} (Y:OwnR V A 106 3 D (q.st.length+1) (q.st.flatMap smL++smL x)) (M:D.blk=S.st.blk∨D.blk=some W.heap.size) (z:Off w.heap.size W.heap.size V E) (X:q.st.length<80):
  Mem C O I A {S with st:=D} {q with st:=q.st++[x]} E∧Stp S w {S with st:=D} E:=by
 have Q:=L.size
 have K:=H.size
 have n: ∀k,k<w.heap.size→S.st.blk≠some k→E.heap[k]? =w.heap[k]?:=fun k o U=>
  (z.block k (.inl o)).trans ((H.block k (by omega) fun e=>U e.symm).trans (L.block k o))
 have N:OwnR E A 106 3 D (q.st.length+1) (q.st.flatMap smL++smL x):=Y.keep fun k o=>z.block k (by
  rcases M with e|e
  ·rw[e] at o
   exact .inl (j.own.st.typed o).2.1
  ·rw[e] at o
   obtain rfl:=Option.some.inj o
   exact .inr ⟨Nat.le_refl _,(Y.typed e).2.1⟩)
 have J:(q.st++[x]).length=q.st.length+1:=by simp
 refine⟨⟨⟨j.own.rq.keep fun k o=>n k (j.own.rq.typed o).2.1 (j.own.rq.ne j.own.st (by decide) o),j.own.im.keep fun k o=>n k (j.own.im.typed o).2.1 (j.own.im.ne j.own.st (by decide) o),j.own.ep.keep fun k o=>n k (j.own.ep.typed o).2.1 (j.own.ep.ne j.own.st (by decide) o),by show OwnR E A 106 3 D (q.st++[x]).length _;rw[J];simpa using N,j.own.ex.keep fun k o=>n k (j.own.ex.typed o).2.1 (j.own.ex.ne j.own.st (by decide) o),j.own.la.keep fun k o=>n k (j.own.la.typed o).2.1 (j.own.la.ne j.own.st (by decide) o),j.own.apart⟩,⟨j.inv.pos,j.inv.rq,j.inv.im,j.inv.ep,by simp;omega,j.inv.ex⟩,zb0 j.tok (n O (zan j.tok).1 fun e=>j.gt_free (.inr (.inr (.inr (.inl e))))),j.few,Nat.le_trans j.base (by have:=z.size;omega)⟩,?_⟩
 refine⟨z.os.trans (H.os.trans L.os),z.tape.trans (H.tape.trans L.tape),z.output.trans (H.output.trans L.output),Nat.le_trans (Nat.le_trans Q K) z.size,fun k o X=>n k o fun e=>X (.inr (.inr (.inr (.inl e)))),fun k o=>?_⟩
 rcases o with h|h|h|h|h|h
 ·exact .inl (.inl h)
 ·exact .inl (.inr (.inl h))
 ·exact .inl (.inr (.inr (.inl h)))
 ·exact M.elim (fun e=>.inl (.inr (.inr (.inr (.inl (e.symm.trans h)))))) fun e=>.inr (by have:W.heap.size=k:=Option.some.inj (e.symm.trans h);omega)
 ·exact .inl (.inr (.inr (.inr (.inr (.inl h)))))
 ·exact .inl (.inr (.inr (.inr (.inr (.inr h)))))
theorem Mem.grow_ex {C:Cx} {O I A:Nat} {S:Sv} {q:PS} {w W V E:World} (j:Mem C O I A S q w) (L:Below w.heap.size w W) (H:W.grownBy V S.ex.blk) {D:Rw} {x:Ex} (Y:OwnR V A 108 6 D (q.ex.length+1) (q.ex.flatMap exL++exL x)) (M:D.blk=S.ex.blk∨D.blk=some W.heap.size) (z:Off w.heap.size W.heap.size V E) (X:q.ex.length<300):
  Mem C O I A {S with ex:=D} {q with ex:=q.ex++[x]} E∧Stp S w {S with ex:=D} E:=by
 have Q:=L.size
 have K:=H.size
 have n: ∀k,k<w.heap.size→S.ex.blk≠some k→E.heap[k]? =w.heap[k]?:=fun k o U=>
  (z.block k (.inl o)).trans ((H.block k (by omega) fun e=>U e.symm).trans (L.block k o))
 have N:OwnR E A 108 6 D (q.ex.length+1) (q.ex.flatMap exL++exL x):=Y.keep fun k o=>z.block k (by
  rcases M with e|e
  ·rw[e] at o
   exact .inl (j.own.ex.typed o).2.1
  ·rw[e] at o
   obtain rfl:=Option.some.inj o
   exact .inr ⟨Nat.le_refl _,(Y.typed e).2.1⟩)
 have J:(q.ex++[x]).length=q.ex.length+1:=by simp
 refine⟨⟨⟨j.own.rq.keep fun k o=>n k (j.own.rq.typed o).2.1 (j.own.rq.ne j.own.ex (by decide) o),j.own.im.keep fun k o=>n k (j.own.im.typed o).2.1 (j.own.im.ne j.own.ex (by decide) o),j.own.ep.keep fun k o=>n k (j.own.ep.typed o).2.1 (j.own.ep.ne j.own.ex (by decide) o),j.own.st.keep fun k o=>n k (j.own.st.typed o).2.1 (j.own.st.ne j.own.ex (by decide) o),by show OwnR E A 108 6 D (q.ex++[x]).length _;rw[J];simpa using N,j.own.la.keep fun k o=>n k (j.own.la.typed o).2.1 (j.own.la.ne j.own.ex (by decide) o),j.own.apart⟩,⟨j.inv.pos,j.inv.rq,j.inv.im,j.inv.ep,j.inv.st,by simp;omega⟩,zb0 j.tok (n O (zan j.tok).1 fun e=>j.gt_free (.inr (.inr (.inr (.inr (.inl e)))))),j.few,Nat.le_trans j.base (by have:=z.size;omega)⟩,?_⟩
 refine⟨z.os.trans (H.os.trans L.os),z.tape.trans (H.tape.trans L.tape),z.output.trans (H.output.trans L.output),Nat.le_trans (Nat.le_trans Q K) z.size,fun k o X=>n k o fun e=>X (.inr (.inr (.inr (.inr (.inl e))))),fun k o=>?_⟩
 rcases o with h|h|h|h|h|h
 ·exact .inl (.inl h)
 ·exact .inl (.inr (.inl h))
 ·exact .inl (.inr (.inr (.inl h)))
 ·exact .inl (.inr (.inr (.inr (.inl h))))
 ·exact M.elim (fun e=>.inl (.inr (.inr (.inr (.inr (.inl (e.symm.trans h))))))) fun e=>.inr (by have:W.heap.size=k:=Option.some.inj (e.symm.trans h);omega)
 ·exact .inl (.inr (.inr (.inr (.inr (.inr h)))))
theorem Mem.grow_la {C:Cx} {O J A:Nat} {S:Sv} {q:PS} {w W V H:World} (j:Mem C O J A S q w) (M:Below w.heap.size w W) (I:W.grownBy V S.la.blk) {E:Rw} {x:Ep} (Z:OwnR V A 102 4 E (q.la.length+1) (q.la.flatMap epL++epL x)) (D:E.blk=S.la.blk∨E.blk=some W.heap.size) (z:Off w.heap.size W.heap.size V H) (Y:q.ep.length+q.la.length<40):
  Mem C O J A {S with la:=E} {q with la:=q.la++[x]} H∧Stp S w {S with la:=E} H:=by
 have Q:=M.size
 have L:=I.size
 have n: ∀k,k<w.heap.size→S.la.blk≠some k→H.heap[k]? =w.heap[k]?:=fun k o U=>
  (z.block k (.inl o)).trans ((I.block k (by omega) fun e=>U e.symm).trans (M.block k o))
 have N:OwnR H A 102 4 E (q.la.length+1) (q.la.flatMap epL++epL x):=Z.keep fun k o=>z.block k (by
  rcases D with e|e
  ·rw[e] at o
   exact .inl (j.own.la.typed o).2.1
  ·rw[e] at o
   obtain rfl:=Option.some.inj o
   exact .inr ⟨Nat.le_refl _,(Z.typed e).2.1⟩)
 have K:(q.la++[x]).length=q.la.length+1:=by simp
 refine⟨⟨⟨j.own.rq.keep fun k o=>n k (j.own.rq.typed o).2.1 (j.own.rq.ne j.own.la (by decide) o),j.own.im.keep fun k o=>n k (j.own.im.typed o).2.1 (j.own.im.ne j.own.la (by decide) o),j.own.ep.keep fun k o=>n k (j.own.ep.typed o).2.1 (fun e=>j.own.apart k o e),j.own.st.keep fun k o=>n k (j.own.st.typed o).2.1 (j.own.st.ne j.own.la (by decide) o),j.own.ex.keep fun k o=>n k (j.own.ex.typed o).2.1 (j.own.ex.ne j.own.la (by decide) o),by show OwnR H A 102 4 E (q.la++[x]).length _;rw[K];simpa using N,fun k o X=>D.elim (fun e=>j.own.apart k o (by rw[←e];exact X)) fun e=>by have h1:=(j.own.ep.typed o).2.1;have h2:W.heap.size=k:=Option.some.inj (e.symm.trans X);omega⟩,⟨j.inv.pos,j.inv.rq,j.inv.im,by have:=j.inv.ep;simp;omega,j.inv.st,j.inv.ex⟩,zb0 j.tok (n O (zan j.tok).1 fun e=>j.gt_free (.inr (.inr (.inr (.inr (.inr e)))))),j.few,Nat.le_trans j.base (by have:=z.size;omega)⟩,?_⟩
 refine⟨z.os.trans (I.os.trans M.os),z.tape.trans (I.tape.trans M.tape),z.output.trans (I.output.trans M.output),Nat.le_trans (Nat.le_trans Q L) z.size,fun k o Y=>n k o fun e=>Y (.inr (.inr (.inr (.inr (.inr e))))),fun k o=>?_⟩
 rcases o with h|h|h|h|h|h
 ·exact .inl (.inl h)
 ·exact .inl (.inr (.inl h))
 ·exact .inl (.inr (.inr (.inl h)))
 ·exact .inl (.inr (.inr (.inr (.inl h))))
 ·exact .inl (.inr (.inr (.inr (.inr (.inl h)))))
 ·exact D.elim (fun e=>.inl (.inr (.inr (.inr (.inr (.inr (e.symm.trans h))))))) fun e=>.inr (by have:W.heap.size=k:=Option.some.inj (e.symm.trans h);omega)
abbrev PRN:=Except Nat (PS×ByteArray)
def zaK (y:PRN):PR:=bd y fun a=>.ok a.1
def withN (y:PRN) (F:PR→ByteArray→PR):PRN:=bd y fun a=>bd (F (.ok a.1) a.2) fun q=>.ok (q,a.2)
def zcj (C:Cx) (q:PS):PRN:=withN (bd (zd C 1 zC q) (zj C false)) fun x n=>bd (bd (bd (bd x (zd C 4 cEq)) (pE C .sum 0)) (zd C 4 cSemi)) (zV C 1 n)
def fnP (C:Cx) (q:PS):PRN:=
 withN (bd (zd C 1 zT q) (zj C false)) fun x n=>bd (bd (bd (bd (bd (bd (bd (bd x (zd C 4 zn)) (zd C 4 za0)) (zd C 4 zJ)) (zd C 1 zdT)) (pE C .sum 0)) (zd C 4 cSemi)) (zd C 4 zbm)) (zV C 2 n)
def asP (C:Cx) (exp:Bool) (a:PS×ByteArray):PRN:=
 if isT C a.1.pos 1 sAs then zj C exp (adv a.1)
 else if (a.2.toList==[100,101,102,97,117,108,116])&& !exp then .error (zr C a.1.pos) else .ok a
abbrev PRL:=Except Nat (PS×List Ep)
def zcv (C:Cx) (exp:Bool):Nat→PS→List Ep→PRL
 |0,_,_=>.error 0
 |f+1,q,acc=>bd (zj C true q) fun a=>bd (asP C exp a) fun b=>
  if isT C b.1.pos 4 zbw then zcv C exp f (adv b.1) (acc++[⟨0,b.2,a.2,sNone⟩]) else bd (zd C 4 zbm b.1) fun q'=>.ok (q',acc++[⟨0,b.2,a.2,sNone⟩])
def zax (C:Cx) (exp:Bool) (q:PS) (acc:List Ep):PRL:=zcv C exp (C.ts.length-q.pos+1) q acc
def zcw (C:Cx) (exp:Bool) (q:PS):PRL:=bd (zd C 4 zJ q) fun q'=>zax C exp q' []
def za8 (l:List Ep):Bool:=l.any fun x=>x.loc.toList==[100,101,102,97,117,108,116]
theorem zeA {C:Cx} {j:Bool} {a b:PS×ByteArray} (h:asP C j a= .ok b):a.1.pos≤b.1.pos:=by
 unfold asP at h
 split at h
 ·obtain⟨rfl,_⟩:=zbd h
  show a.1.pos≤a.1.pos+1+1
  omega
 ·split at h
  ·cases h
  ·cases h
   exact Nat.le_refl _
theorem zls {C:Cx} {j:Bool} (f:Nat): ∀(g:Nat) (q:PS) (acc:List Ep),C.ts.length-q.pos<f→C.ts.length-q.pos<g→zcv C j f q acc=zcv C j g q acc:=by
 induction f with
 |zero=>intro g q acc h;omega
 |succ f A=>
  intro g q acc K I
  obtain⟨g,rfl⟩: ∃D,g=D+1:=⟨g-1,by omega⟩
  rw[zcv,zcv]
  refine zab fun a z=>zab fun b H=>?_
  split
  ·next n=>
   obtain⟨rfl,E⟩:=zbd z
   have o:=zeA H
   have J:=za1 n (by decide)
   have L:=ze4 E
   simp only[zx] at o
   exact A g _ _ (by rw[zx];omega) (by rw[zx];omega)
  ·rfl
theorem zfs (C:Cx) (j:Bool) (q:PS) (acc:List Ep):zax C j q acc=bd (zj C true q) fun a=>bd (asP C j a) fun b=>
  if isT C b.1.pos 4 zbw then zax C j (adv b.1) (acc++[⟨0,b.2,a.2,sNone⟩]) else bd (zd C 4 zbm b.1) fun q'=>.ok (q',acc++[⟨0,b.2,a.2,sNone⟩]):=by
 rw[zax,zcv]
 refine zab fun a o=>zab fun b D=>?_
 split
 ·next n=>
  obtain⟨rfl,A⟩:=zbd o
  have z:=zeA D
  have E:=za1 n (by decide)
  have H:=ze4 A
  simp only[zx] at z
  exact zls _ _ _ _ (by rw[zx];omega) (by rw[zx];omega)
 ·rfl
def zP {α:Type} (f:α→PS→PR):List α→PR→PR
 |[],x=>x
 |a::l,x=>zP f l (bd x (f a))
def zbF (s:ByteArray) (e:Ep):Im:=⟨s,e.loc,e.name⟩
def zaE (C:Cx) (x:PR):PRN:=bd (bd x (zd C 1 zU)) (zH C)
def zaR (C:Cx) (y:PRN):PRN:=bd y fun a=>bd (zd C 4 cSemi a.1) fun q=>.ok (q,a.2)
def zaQ (C:Cx) (q:PS):PR:=
 bd (zd C 1 zah q) fun q=>
  if isT C q.pos 4 zJ then bd (zcw C false q) fun a=>bd (zaR C (zaE C (.ok a.1))) fun b=>zP (fun e=>zak C (zbF b.2 e)) a.2 (.ok b.1)
  else if isT C q.pos 4 zw then bd (bd (bd (zd C 4 zw q) (zd C 1 sAs)) (zj C false)) fun a=>bd (zaR C (zaE C (.ok a.1))) fun b=>zak C ⟨b.2,zw,a.2⟩ b.1
  else if zD C q.pos false then bd (zj C false q) fun a=>bd (zaR C (zaE C (.ok a.1))) fun b=>zak C ⟨b.2,sDefault,a.2⟩ b.1
  else bd (zH C q) fun a=>zd C 4 cSemi a.1
def zA (e:Ep):Ep:=⟨1,e.name,e.loc,sNone⟩
def zai (s:ByteArray) (e:Ep):Ep:=⟨2,e.name,e.loc,s⟩
def zag (C:Cx) (q:PS):PR:=
 bd (zd C 1 zaf q) fun q=>
  if isT C q.pos 4 zJ then bd (zcw C true q) fun a=>
   if !za8 a.2&& !isT C a.1.pos 1 zU then bd (zd C 4 cSemi a.1) fun q=>zP (fun e=>zo C (zA e)) a.2 (.ok q)
   else bd (zaR C (zaE C (.ok a.1))) fun b=>zP (fun e=>zo C (zai b.2 e)) a.2 (.ok b.1)
  else if isT C q.pos 4 zw then bd (zaR C (zaE C (zd C 4 zw q))) fun b=>zo C ⟨3,sNone,sNone,b.2⟩ b.1
  else if isT C q.pos 1 sDefault then bd (bd (bd (bd (zd C 1 sDefault q) (pE C .sum 0)) (zd C 4 cSemi)) (zV C 1 zbN)) (zo C ⟨1,sDefault,zbN,sNone⟩)
  else if isT C q.pos 1 zC then bd (zcj C q) fun a=>zo C ⟨1,a.2,a.2,sNone⟩ a.1
  else if isT C q.pos 1 zT then bd (fnP C q) fun a=>zo C ⟨1,a.2,a.2,sNone⟩ a.1
  else .error (zr C q.pos)
def zy (C:Cx) (q:PS):PR:=
 if !C.scr&&isT C q.pos 1 zah then zaQ C q
 else if !C.scr&&isT C q.pos 1 zaf then zag C q
 else if isT C q.pos 1 zC then zaK (zcj C q)
 else if isT C q.pos 1 zT then zaK (fnP C q)
 else if isT C q.pos 1 zar then bd (bd (bd (bd (bd (zd C 1 zar q) (zd C 4 zn)) (pE C .sum 0)) (zd C 4 za0)) (zd C 4 cSemi)) (zV C 4 sNone)
 else if isT C q.pos 1 za3 then bd (bd (bd (zd C 1 za3 q) (pE C .sum 0)) (zd C 4 cSemi)) (zV C 5 sNone)
 else if C.scr&&isT C q.pos 1 zbA then bd (bd (bd (zd C 1 zbA q) (pE C .sum 0)) (zd C 4 cSemi)) (zV C 6 sNone)
 else bd (zj C false q) fun a=>bd (bd (bd (zd C 4 cEq a.1) (pE C .sum 0)) (zd C 4 cSemi)) (zV C 3 a.2)
theorem zay {C:Cx} {k:Int} {s:ByteArray} {q q':PS} (h:zd C k s q= .ok q'):q.pos+1=q'.pos:=by
 obtain⟨rfl,_⟩:=zb4 h
 rfl
theorem zdV {C:Cx} {o:Bool} {q:PS} {a:PS×ByteArray} (h:zj C o q= .ok a):q.pos+1=a.1.pos:=by
 obtain⟨rfl,_⟩:=zbd h
 rfl
theorem zhG {C:Cx} {q:PS} {a:PS×ByteArray} (h:zH C q= .ok a):q.pos+1=a.1.pos:=by
 unfold zH at h
 split at h
 ·split at h
  ·cases h;rfl
  ·split at h
   ·cases h
   ·cases h;rfl
 ·cases h
theorem zdW {C:Cx} {k:Int} {n:ByteArray} {q q':PS} (h:zV C k n q= .ok q'):q.pos=q'.pos:=by
 unfold zV at h
 split at h
 ·cases h
 ·cases h;rfl
theorem zgs {C:Cx} {y:Im} {q q':PS} (h:zak C y q= .ok q'):q.pos=q'.pos:=by
 unfold zak at h
 split at h
 ·cases h
 ·cases h;rfl
theorem zdX {C:Cx} {y:Ep} {q q':PS} (h:zo C y q= .ok q'):q.pos=q'.pos:=by
 unfold zo at h
 split at h
 ·cases h
 ·split at h
  ·cases h;rfl
  ·cases h;rfl
theorem zgt {α:Type} {f:α→PS→PR} (D: ∀a q q',f a q= .ok q'→q.pos=q'.pos) (l:List α): ∀(x:PR) (q':PS),zP f l x= .ok q'→∃q,x= .ok q∧q.pos=q'.pos:=by
 induction l with
 |nil=>intro x q' h;exact⟨q',h,rfl⟩
 |cons a l j=>
  intro x q' h
  obtain⟨b,A,o⟩:=j _ _ h
  obtain⟨c,n,z⟩:=zf A
  exact⟨c,n,(D _ _ _ z).trans o⟩
theorem zhH {C:Cx} {j:Bool} (m:Nat): ∀(q:PS) (acc:List Ep) (a:PS×List Ep),C.ts.length-q.pos<m→zax C j q acc= .ok a→q.pos≤a.1.pos:=by
 induction m with
 |zero=>intro q acc a h;omega
 |succ m A=>
  intro q acc a K h
  rw[zfs] at h
  obtain⟨b,I,D⟩:=zf h
  obtain⟨c,o,n⟩:=zf D
  have L:=zdV I
  have M:=zeA o
  split at n
  ·next z=>
   have E:=za1 z (by decide)
   have:=A _ _ _ (by rw[zx];omega) n
   rw[zx] at this
   omega
  ·obtain⟨d,J,H⟩:=zf n
   have E:=zay J
   cases H
   show q.pos≤d.pos
   omega
theorem zeB {C:Cx} {x:PR} {b:PS×ByteArray} (h:zaR C (zaE C x)= .ok b): ∃q,x= .ok q∧q.pos≤b.1.pos:=by
 obtain⟨a,E,o⟩:=zf h
 obtain⟨c,n,z⟩:=zf o
 obtain⟨d,H,D⟩:=zf E
 obtain⟨e,j,A⟩:=zf H
 have J:=zay n
 have K:=zhG D
 have I:=zay A
 cases z
 exact⟨e,j,by show e.pos≤c.pos;omega⟩
theorem zlt {C:Cx} {q q':PS} (h:zaQ C q= .ok q'):q.pos<q'.pos:=by
 obtain⟨O,N,o⟩:=zf h
 have V:=zay N
 split at o
 ·obtain⟨a,n,z⟩:=zf o
  obtain⟨b,H,E⟩:=zf z
  obtain⟨c,J,L⟩:=zf n
  obtain⟨d,I,A⟩:=zeB H
  obtain⟨f,j,D⟩:=zgt (fun _ _ _ h=>zgs h) _ _ _ E
  have M:=zay J
  have K:=zhH _ _ _ _ (Nat.lt_succ_self _) L
  cases I
  cases j
  omega
 ·split at o
  ·obtain⟨a,n,z⟩:=zf o
   obtain⟨b,H,E⟩:=zf z
   obtain⟨c,J,L⟩:=zf n
   obtain⟨d,I,A⟩:=zf J
   obtain⟨f,j,D⟩:=zeB H
   have M:=zgs E
   have K:=zdV L
   have Q:=zay I
   have U:=zay A
   cases j
   omega
  ·split at o
   ·obtain⟨a,n,z⟩:=zf o
    obtain⟨b,H,E⟩:=zf z
    obtain⟨f,j,D⟩:=zeB H
    have M:=zgs E
    have K:=zdV n
    cases j
    omega
   ·obtain⟨a,n,z⟩:=zf o
    have M:=zhG n
    have K:=zay z
    omega
theorem zhI {y:PRN} {F:PR→ByteArray→PR} {a:PS×ByteArray} (h:withN y F= .ok a): ∃b,y= .ok b∧F (.ok b.1) b.2= .ok a.1:=by
 obtain⟨b,o,n⟩:=zf h
 obtain⟨c,q,j⟩:=zf n
 cases j
 exact⟨b,o,q⟩
theorem zhJ {C:Cx} {q:PS} {a:PS×ByteArray} (h:zcj C q= .ok a):q.pos<a.1.pos:=by
 obtain⟨b,H,A⟩:=zhI h
 obtain⟨c,z,D⟩:=zf H
 obtain⟨d,J,I⟩:=zf A
 obtain⟨f,o,E⟩:=zf J
 obtain⟨g,n,j⟩:=zf o
 have O:=zay z
 have Q:=zdV D
 have M:=zay (show zd C 4 cEq b.1= .ok g from n)
 have K:=zaY j
 have N:=zay E
 have L:=zdW I
 omega
theorem zhK {C:Cx} {q:PS} {a:PS×ByteArray} (h:fnP C q= .ok a):q.pos<a.1.pos:=by
 obtain⟨b,V,M⟩:=zhI h
 obtain⟨c,U,N⟩:=zf V
 obtain⟨d,Q,Y⟩:=zf M
 obtain⟨f,L,O⟩:=zf Q
 obtain⟨g,K,n⟩:=zf L
 obtain⟨i,I,A⟩:=zf K
 obtain⟨j,J,D⟩:=zf I
 obtain⟨k,z,o⟩:=zf J
 obtain⟨l,E,H⟩:=zf z
 have e1:=zay U
 have e2:=zdV N
 have e3:=zay (show zd C 4 zn b.1= .ok l from E)
 have e4:=zay H
 have e5:=zay o
 have e6:=zay D
 have Z:=zaY A
 have e8:=zay n
 have e9:=zay O
 have X:=zdW Y
 omega
theorem zlu {C:Cx} {q q':PS} (h:zag C q= .ok q'):q.pos<q'.pos:=by
 obtain⟨X,N,j⟩:=zf h
 have V:=zay N
 split at j
 ·obtain⟨a,A,n⟩:=zf j
  obtain⟨c,L,M⟩:=zf A
  have I:=zay L
  have J:=zhH _ _ _ _ (Nat.lt_succ_self _) M
  split at n
  ·obtain⟨b,z,D⟩:=zf n
   obtain⟨f,E,K⟩:=zgt (fun _ _ _ h=>zdX h) _ _ _ D
   have O:=zay z
   cases E
   omega
  ·obtain⟨b,z,D⟩:=zf n
   obtain⟨d,H,o⟩:=zeB z
   obtain⟨f,E,K⟩:=zgt (fun _ _ _ h=>zdX h) _ _ _ D
   cases H
   cases E
   omega
 ·split at j
  ·obtain⟨b,z,D⟩:=zf j
   obtain⟨d,H,o⟩:=zeB z
   have I:=zay H
   have J:=zdX D
   omega
  ·split at j
   ·obtain⟨a,A,n⟩:=zf j
    obtain⟨b,z,D⟩:=zf A
    obtain⟨c,L,M⟩:=zf z
    obtain⟨d,H,o⟩:=zf L
    have I:=zay H
    have J:=zaY o
    have O:=zay M
    have Q:=zdW D
    have U:=zdX n
    omega
   ·split at j
    ·obtain⟨a,A,n⟩:=zf j
     have I:=zhJ A
     have J:=zdX n
     omega
    ·split at j
     ·obtain⟨a,A,n⟩:=zf j
      have I:=zhK A
      have J:=zdX n
      omega
     ·cases j
theorem zhL {C:Cx} {s:ByteArray} {k:Int} {n:ByteArray} {q q':PS} (h:bd (bd (bd (zd C 1 s q) (pE C .sum 0)) (zd C 4 cSemi)) (zV C k n)= .ok q'):q.pos<q'.pos:=by
 obtain⟨a,D,o⟩:=zf h
 obtain⟨b,j,z⟩:=zf D
 obtain⟨c,E,A⟩:=zf j
 have J:=zay E
 have K:=zaY A
 have I:=zay z
 have H:=zdW o
 omega
theorem zft {C:Cx} {q q':PS} (h:zy C q= .ok q'):q.pos<q'.pos:=by
 unfold zy at h
 split at h
 ·exact zlt h
 ·split at h
  ·exact zlu h
  ·split at h
   ·obtain⟨a,n,j⟩:=zf h
    cases j
    exact zhJ n
   ·split at h
    ·obtain⟨a,n,j⟩:=zf h
     cases j
     exact zhK n
    ·split at h
     ·obtain⟨a,n,j⟩:=zf h
      obtain⟨b,A,D⟩:=zf n
      obtain⟨c,I,H⟩:=zf A
      obtain⟨d,z,E⟩:=zf I
      obtain⟨e,J,o⟩:=zf z
      have N:=zay J
      have O:=zay o
      have L:=zaY E
      have K:=zay H
      have M:=zay D
      have Q:=zdW j
      omega
     ·split at h
      ·exact zhL h
      ·split at h
       ·exact zhL h
       ·obtain⟨a,n,j⟩:=zf h
        obtain⟨b,A,D⟩:=zf j
        obtain⟨c,I,H⟩:=zf A
        obtain⟨d,z,E⟩:=zf I
        have N:=zdV n
        have O:=zay z
        have L:=zaY E
        have K:=zay H
        have M:=zdW D
        omega
def zcx (C:Cx):Nat→PS→PR
 |0,_=>.error 0
 |f+1,q=>if q.pos<C.ts.length then bd (zy C q) (zcx C f) else .ok q
def zas (C:Cx) (q:PS):PR:=zcx C (C.ts.length-q.pos+1) q
theorem zlv {C:Cx} (f:Nat): ∀(g:Nat) (q:PS),C.ts.length-q.pos<f→C.ts.length-q.pos<g→zcx C f q=zcx C g q:=by
 induction f with
 |zero=>intro g q h;omega
 |succ f j=>
  intro g q A z
  obtain⟨g,rfl⟩: ∃o,g=o+1:=⟨g-1,by omega⟩
  rw[zcx,zcx]
  split
  ·refine zab fun a n=>?_
   have:=zft n
   exact j g a (by omega) (by omega)
  ·rfl
theorem zfu (C:Cx) (q:PS):zas C q=if q.pos<C.ts.length then bd (zy C q) (zas C) else .ok q:=by
 rw[zas,zcx]
 split
 ·refine zab fun a j=>?_
  have:=zft j
  exact zlv _ _ _ (by omega) (by omega)
 ·rfl
def zbC:PS:=⟨0,[],[],[],[],[],[]⟩
def zb7 (s:ByteArray) (scr:Bool) (y:PR):Prop:=∃r,zae s scr r∧y=match r with
 | .error p=>.error p
 | .ok ts=>zas ⟨ts,s.size,scr⟩ zbC
theorem zhM {s:ByteArray} {j:Bool} {n o:PR} (A:zb7 s j n) (q:zb7 s j o):n=o:=by
 obtain⟨E,D,rfl⟩:=A
 obtain⟨H,z,rfl⟩:=q
 obtain rfl:=zkH D z
 rfl
theorem zlw {s:ByteArray} {A:Bool} {a n:Nat} {r:Except Nat (List Tk)} (h:Lx s A a n r): ∀o,r= .ok o→n≤4000→o.length+n≤4000:=by
 induction h using Lx.ind with
 |done=>intro o q z;cases q;simpa using z
 |bad _ _=>intro o q z;cases q
 | @tok a n e b t r h z H E q D=>
  intro o j _
  cases r with
  |error p=>simp[Except.map] at j
  |ok l=>
   simp only[Except.map,Except.ok.injEq] at j
   subst j
   have:=D l rfl (by omega)
   simp only[List.length_cons]
   omega
theorem zhN {s:ByteArray} {j:Bool} {n:List Tk} (h:zae s j (.ok n)):n.length≤4000:=by
 obtain⟨a,_,o⟩:=h
 have:=zlw o n rfl (by omega)
 omega
def R0:Rw:=⟨none,0⟩
def S0:Sv:=⟨R0,R0,R0,R0,R0,R0⟩
theorem zcy (w:World) (j size:Nat) (e:TypeId):OwnR w j e size R0 0 []:=World.ownsRow_nil w j e size
theorem zlx (w:World) (j:Nat):Own w j S0 zbC:=
 ⟨zcy _ _ _ _,zcy _ _ _ _,zcy _ _ _ _,zcy _ _ _ _,zcy _ _ _ _,zcy _ _ _ _,fun k h=>by simp[S0,R0,Rw.blk,Value.ownBlock] at h⟩
theorem zhO {w:World} {j g o:Nat} {q:List Tk} {n:Nat} {z:Bool} (h:OwnT w j 111 g q.length o q) (A:q.length≤4000) (D:j≤w.heap.size):Mem ⟨q,n,z⟩ g o j S0 zbC w:=
 ⟨zlx _ _,⟨Nat.zero_le _,Nat.zero_le _,Nat.zero_le _,Nat.zero_le _,Nat.zero_le _,Nat.zero_le _⟩,h,A,D⟩
structure OwnMod (w:World) (base:Nat) (S:Sv) (q:PS):Prop where
 rq:OwnR w base 9 1 S.rq q.rq.length (q.rq.map .string)
 im:OwnR w base 100 3 S.im q.im.length (q.im.flatMap imL)
 ep:OwnR w base 102 4 S.ep (q.ep++q.la).length ((q.ep++q.la).flatMap epL)
 st:OwnR w base 106 3 S.st q.st.length (q.st.flatMap smL)
 ex:OwnR w base 108 6 S.ex q.ex.length (q.ex.flatMap exL)
 inv:q.rq.length≤40∧q.im.length≤40∧q.ep.length+q.la.length≤40∧q.st.length≤80∧q.ex.length≤300
def zfv (S:Sv) (q:PS):Value:=.agg #[.slice S.rq.a q.rq.length S.rq.cap,.slice S.im.a q.im.length S.im.cap,.slice S.ep.a (q.ep++q.la).length S.ep.cap,.slice S.st.a q.st.length S.st.cap,.slice S.ex.a q.ex.length S.ex.cap]
def ParseOut (s:ByteArray) (scr:Bool) (w:World) (e:Ending) (w':World):Prop:=
 ∃y,zb7 s scr y∧match y with
  | .ok q=>∃S,e= .returned (.tuple #[zfv S q,.int .i64 (-1)])∧OwnMod w' w.heap.size S q
  | .error p=>e= .returned (.tuple #[.agg #[.slice none 0 0,.slice none 0 0,.slice none 0 0,.slice none 0 0,.slice none 0 0],.int .i64 p])
theorem OwnR.low {w:World} {o j size n:Nat} {e:TypeId} {r:Rw} {xs:List Value} (h:OwnR w o e size r n xs) (E:j≤o):OwnR w j e size r n xs:=by
 refine⟨h.1,?_⟩
 rcases h.2 with A|⟨g,z,q,A,D,rest⟩
 ·exact .inl A
 ·exact .inr ⟨g,z,q,A,Nat.le_trans E D,rest⟩
theorem OwnR.nil_or {w:World} {o size n:Nat} {e:TypeId} {r:Rw} {xs:List Value} (h:OwnR w o e size r n xs):(r.a=none∧r.cap=0∧n=0)∨∃g,r.a=some ⟨g,0,none⟩:=by
 rcases h.2 with ⟨j,q⟩|⟨g,A,z,j,_⟩
 ·simp only[Value.slice.injEq] at j
  exact .inl ⟨j.1,j.2.2,q⟩
 ·simp only[Value.slice.injEq] at j
  exact .inr ⟨g,j.1⟩
theorem zly {P:Program} (W:World) {M:Array Oper} {rest:List Oper} {o:Oper} {a:Act} {Q:Exit→Act→World→Prop} (ac:o.guard=none) (s x:Operand) (t:TypeId)
  (ho:o.op= .call {callee:=.builtin .append,args:=#[s,x],argTypes:=#[t,t]})
  (D:Nat) (e:TypeId) (i:TypeInfo) (z:Value) (size q:Nat) (ht:P.underlying t=some (.slice e)) (hi:P.info? e=some i) (hz:i.zero=some z) (H:i.size=size) (aa:i.bytes=q) (ae:z.cells.size=size) (ad:0<size) (U:q≤100)
  (r:Rw) (n:Nat) (xs:List Value) (hs:a.eval s= .slice r.a n r.cap) (O:OwnR W D e size r n xs)
  (L m c J:Nat) (A:List Value) (hx:a.eval x= .slice (some ⟨L,0,none⟩) m c) (Y:OwnR W J e size ⟨some ⟨L,0,none⟩,c⟩ m A) (h1: ∀u∈A,u.oneCell'=true) (hn:n+m≤1000000) (I:D≤W.heap.size)
  (h: ∀V K,OwnR K D e size V (n+m) (xs++A)→W.grownBy K r.blk→(V.blk=r.blk∨V.blk=some W.heap.size)→wpList P M Q rest (a.put o.dst (.slice V.a (n+m:Nat) V.cap)) K):
  wpList P M Q (o::rest) a W:=by
 refine wpList_append_own_at _ ac s x t ho D e i z size q ht hi hz H aa ae ad _ n _ hs O ⟨L,0,none⟩ m c A hx Y.1 ?_ h1 ?_ ?_ I ?_
 ·intro j u hj
  have e1:(⟨L,0,none⟩:Addr).add j=⟨L,j,none⟩:=by simp[Addr.add];exact fun h=>h.symm
  have ab:j<A.length:=(List.getElem?_eq_some_iff.1 hj).1
  rw[e1,World.ownsRow.cellAt Y j (by rw[←Y.1];exact ab)]
  exact hj
 ·unfold maxLen;omega
 ·have:(n+m)*q≤1000000*100:=Nat.mul_le_mul hn U
  omega
 ·intro v' K X k2 k3 k4
  rcases X.2 with ⟨hv,N⟩|⟨g',E,af,rfl,Z⟩
  ·subst hv
   have:=h ⟨none,0⟩ K (by rw[N] at X ⊢;exact X) (by rw[←zbo r n];exact k2) (by rw[←zbo r n];exact k4)
   rw[N] at this
   exact this
  ·refine h ⟨some ⟨g',0,none⟩,E⟩ K X ?_ ?_
   ·rw[←zbo r n];exact k2
   ·rw[←zbo r n,←zbo ⟨some ⟨g',0,none⟩,E⟩ (n+m)];exact k4
theorem zlz {P:Program} (W:World) {j:Array Oper} {rest:List Oper} {o:Oper} {a:Act} {Q:Exit→Act→World→Prop} (A:o.guard=none) (s x:Operand) (t:TypeId)
  (I:o.op= .call {callee:=.builtin .append,args:=#[s,x],argTypes:=#[t,t]})
  (e:TypeId) (i:TypeInfo) (H:P.underlying t=some (.slice e)) (E:P.info? e=some i) (q size n:Nat)
  (r:Rw) (xs:List Value) (J:a.eval s= .slice r.a n r.cap) (z:OwnR W q e size r n xs) (U:a.eval x= .slice none 0 0)
  (h:wpList P j Q rest (a.put o.dst (.slice r.a n r.cap)) W):wpList P j Q (o::rest) a W:=by
 have V:(Builtin.append_ #[t,t] o.type #[.slice r.a n r.cap,.slice none 0 0]).run P W= .ok (.slice r.a n r.cap) W:=by
  rcases z.2 with ⟨D,_⟩|⟨g,N,M,D,_,_,L,_⟩
  ·rw[D]
   simp[Builtin.append_,run_underlying H,sizeOf,typeInfo,E,Builtin.lenOf,Builtin.firstCells]
  ·rw[D]
   simp[Builtin.append_,run_underlying H,sizeOf,typeInfo,E,Builtin.lenOf,Builtin.firstCells,loadCells,L,storeCells]
 refine wpList_plain A fun K O=>?_
 unfold Oper.wp execOp
 simp only[I,resolve,invoke,builtin,Sem.run_bind,Sem.run_pure,Result.andThen_ok,List.map_toArray,List.map_cons,List.map_nil,J,U,V]
 exact O _ _ h
theorem zgu (l:List Ep): ∀u∈l.flatMap epL,u.oneCell'=true:=by
 intro u j
 rw[List.mem_flatMap] at j
 obtain⟨x,_,n⟩:=j
 simp[epL] at n
 rcases n with rfl|rfl|rfl|rfl<;>rfl
theorem Mem.whole {C:Cx} {V I j b B:Nat} {S:Sv} {q:PS} {W N K:World} {H:Rw} (A:Mem C V I j S q W) (U:W.grownBy N S.ep.blk) (Q:OwnR N j 102 4 H (q.ep.length+q.la.length) (q.ep.flatMap epL++q.la.flatMap epL)) (J:H.blk=S.ep.blk∨H.blk=some W.heap.size) (hB:B<j) (hb:b<W.heap.size) (o: ¬S.has b)
  (O: ∀k,k≠B→k≠b→K.heap[k]? =N.heap[k]?):OwnMod K B {S with ep:=H} q:=by
 have D:(q.ep++q.la).length=q.ep.length+q.la.length:=by simp
 have E: ∀(r:Rw) (e:TypeId) (z n:Nat) (M:List Value),OwnR W j e z r n M→e≠102→(∀k,r.blk=some k→S.has k)→OwnR K B e z r n M:=fun r e z n M h X Z=>
  ((h.keep fun k g=>(O k (by have:=(h.typed g).1;omega) (fun L=>o (by rw[←L];exact Z k g))).trans (U.block k (h.typed g).2.1 fun Y=>(h.ne A.own.ep X g) Y.symm)).low (by omega))
 refine⟨E _ _ _ _ _ A.own.rq (by decide) fun k g=>.inl g,E _ _ _ _ _ A.own.im (by decide) fun k g=>.inr (.inl g),?_,E _ _ _ _ _ A.own.st (by decide) fun k g=>.inr (.inr (.inr (.inl g))),E _ _ _ _ _ A.own.ex (by decide) fun k g=>.inr (.inr (.inr (.inr (.inl g)))),A.inv.rq,A.inv.im,A.inv.ep,A.inv.st,A.inv.ex⟩
 rw[D,List.flatMap_append]
 refine (Q.keep fun k g=>O k (by have:=(Q.typed g).1;omega) ?_).low (by omega)
 rcases J with e|e
 ·intro L
  exact o (by rw[←L];exact .inr (.inr (.inl (by rw[←e];exact g))))
 ·have:W.heap.size=k:=Option.some.inj (e.symm.trans g)
  omega
theorem Mem.whole0 {C:Cx} {J I j b B:Nat} {S:Sv} {q:PS} {W E:World} (z:Mem C J I j S q W) (M:q.la=[]) (O:B<j) (A: ¬S.has b)
  (K: ∀k,k≠B→k≠b→E.heap[k]? =W.heap[k]?):OwnMod E B S q:=by
 have D: ∀(r:Rw) (e:TypeId) (o n:Nat) (H:List Value),OwnR W j e o r n H→(∀k,r.blk=some k→S.has k)→OwnR E B e o r n H:=fun r e o n H h L=>
  ((h.keep fun k g=>K k (by have:=(h.typed g).1;omega) (fun N=>A (by rw[←N];exact L k g))).low (by omega))
 refine⟨D _ _ _ _ _ z.own.rq fun k g=>.inl g,D _ _ _ _ _ z.own.im fun k g=>.inr (.inl g),?_,D _ _ _ _ _ z.own.st fun k g=>.inr (.inr (.inr (.inl g))),D _ _ _ _ _ z.own.ex fun k g=>.inr (.inr (.inr (.inr (.inl g)))),z.inv.rq,z.inv.im,z.inv.ep,z.inv.st,z.inv.ex⟩
 rw[M,List.append_nil]
 exact D _ _ _ _ _ z.own.ep fun k g=>.inr (.inr (.inl g))
theorem zl {w:World} {b:Nat} {t:TypeId} {o n j z q:Value} (h:w.heap[b]? =some (.cells #[o,n,j,z,q] t (0,0))):
  w.cell? ⟨b,0,none⟩=some o∧w.cell? ⟨b,1,none⟩=some n∧w.cell? ⟨b,2,none⟩=some j∧w.cell? ⟨b,3,none⟩=some z∧w.cell? ⟨b,4,none⟩=some q∧∀i,w.frozen? ⟨b,i,none⟩=false:=by
 refine⟨?_,?_,?_,?_,?_,fun i=>?_⟩<;>simp[World.cell?,World.frozen?,h]
theorem za9 {w:World} {b i:Nat} {j:Array Value} {u:Value} {t:TypeId} (h:w.heap[b]? =some (.cells j t (0,0))):(w.setCell ⟨b,i,none⟩ u).heap[b]? =some (.cells (j.setIfInBounds i u) t (0,0)):=by
 simp only[World.setCell,Array.getElem?_modify]
 rw[if_pos trivial,h]
 rfl
theorem zcZ {w:World} {b:Nat} {E D A I H z o j q n:Value} {t:TypeId} (h:w.heap[b]? =some (.cells #[E,D,A,I,H] t (0,0))):
  (((((w.setCell ⟨b,0,none⟩ z).setCell ⟨b,1,none⟩ o).setCell ⟨b,2,none⟩ j).setCell ⟨b,3,none⟩ q).setCell ⟨b,4,none⟩ n).heap[b]? =some (.cells #[z,o,j,q,n] t (0,0)):=by
 have e:=za9 (i:=4) (u:=n) (za9 (i:=3) (u:=q) (za9 (i:=2) (u:=j) (za9 (i:=1) (u:=o) (za9 (i:=0) (u:=z) h))))
 rw[e]
 simp
theorem zd1 {B:Nat} {a w:World} {b:Nat} (h:Below B a w) (j:B≤b) (A q n z o:Value):Below B a (((((w.setCell ⟨b,0,none⟩ A).setCell ⟨b,1,none⟩ q).setCell ⟨b,2,none⟩ n).setCell ⟨b,3,none⟩ z).setCell ⟨b,4,none⟩ o):=
 ((((h.setCell j _).setCell j _).setCell j _).setCell j _).setCell j _
end Go.Proofs.YticdggnnpjachaaGreat
