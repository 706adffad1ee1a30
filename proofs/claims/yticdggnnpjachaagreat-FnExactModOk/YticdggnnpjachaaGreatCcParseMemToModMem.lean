/-
  A program under way in memory: its six rows,what a step leaves as it was. No program is spoken of but for the numbers of its types.
  One of the six rows of a program under way grows by one element: what holds behind it. No program is spoken of but for the numbers of its types.
  Items of programs,as plain functions. No program is spoken of.
  A whole program,as a plain function of its tokens: items one behind the other. No program is spoken of.
  A text has at most 4000 tokens. No program is spoken of.
  A program in memory,as Parse hands it back. No program is spoken of but for the numbers of its types.
-/
import Derived.Maps.AppendAt
import Derived.Test.YticdggnnpjachaaGreatCcTokMem
namespace Go.Proofs.YticdggnnpjachaaGreat
open Go.RowKit Go.PlainAid
def imL (x:Im):List Value:=[.string x.spec,.string x.first,.string x.loc]
def epL (x:Ep):List Value:=[.int .i64 x.kind,.string x.name,.string x.loc,.string x.spec]
def smL (x:Sm):List Value:=[.int .i64 x.kind,.string x.name,.int .i64 x.expr]
def exL (x:Ex):List Value:=[.int .i64 x.kind,.int .i64 x.num,.string x.name,.string x.field,.int .i64 x.l,.int .i64 x.r]
structure Rw where
 a:Option Addr
 cap:Nat
structure Sv where
 rq:Rw
 im:Rw
 ep:Rw
 st:Rw
 ex:Rw
 la:Rw
def Rw.blk (r:Rw):Option Nat:=(Value.slice r.a 0 r.cap).ownBlock
def Sv.has (S:Sv) (k:Nat):Prop:=S.rq.blk=some k∨S.im.blk=some k∨S.ep.blk=some k∨S.st.blk=some k∨S.ex.blk=some k∨S.la.blk=some k
def OwnR (w:World) (base:Nat) (e:TypeId) (size:Nat) (r:Rw) (n:Nat) (xs:List Value):Prop:=w.ownsRow base e size (.slice r.a n r.cap) n xs
theorem zbh (r:Rw) (n:Nat):(Value.slice r.a n r.cap).ownBlock=r.blk:=by
 unfold Rw.blk Value.ownBlock
 cases r.a<;>rfl
structure Own (w:World) (base:Nat) (S:Sv) (q:PS):Prop where
 rq:OwnR w base 9 1 S.rq q.rq.length (q.rq.map .string)
 im:OwnR w base 100 3 S.im q.im.length (q.im.flatMap imL)
 ep:OwnR w base 102 4 S.ep q.ep.length (q.ep.flatMap epL)
 st:OwnR w base 106 3 S.st q.st.length (q.st.flatMap smL)
 ex:OwnR w base 108 6 S.ex q.ex.length (q.ex.flatMap exL)
 la:OwnR w base 102 4 S.la q.la.length (q.la.flatMap epL)
 apart: ∀k,S.ep.blk=some k→S.la.blk≠some k
theorem OwnR.typed {w:World} {j size n:Nat} {e:TypeId} {r:Rw} {xs:List Value} (h:OwnR w j e size r n xs) {k:Nat} (q:r.blk=some k):j≤k∧k<w.heap.size∧∃o,w.heap[k]? =some (.cells o e (0,0)):=by
 rcases h.2 with ⟨z,_⟩|⟨g,E,o,z,D,A,_⟩
 ·rw[←zbh r n,z] at q
  simp[Value.ownBlock] at q
 ·rw[←zbh r n,z] at q
  simp only[Value.ownBlock,Option.some.injEq] at q
  subst q
  exact⟨D,(Array.getElem?_eq_some_iff.1 A).1,o,A⟩
theorem OwnR.ne {w:World} {J b2 E I M O:Nat} {q n:TypeId} {z o:Rw} {D H:List Value} (K:OwnR w J q E z M D) (L:OwnR w b2 n I o O H) (A:q≠n) {k:Nat} (U:z.blk=some k):o.blk≠some k:=by
 intro h
 obtain⟨_,_,X,N⟩:=K.typed U
 obtain⟨_,_,V,j⟩:=L.typed h
 rw[N] at j
 simp only[Option.some.injEq,Obj.cells.injEq] at j
 exact A j.2.1
theorem OwnR.keep {w A:World} {j size n:Nat} {e:TypeId} {r:Rw} {xs:List Value} (h:OwnR w j e size r n xs) (H: ∀k,r.blk=some k→A.heap[k]? =w.heap[k]?):OwnR A j e size r n xs:=by
 refine⟨h.1,?_⟩
 rcases h.2 with o|⟨g,z,q,o,E,D,rest⟩
 ·exact .inl o
 ·refine .inr ⟨g,z,q,o,E,?_,rest⟩
  rw[H g (by rw[←zbh r n,o];rfl)]
  exact D
theorem Own.keep {w o:World} {j:Nat} {S:Sv} {q:PS} (h:Own w j S q) (n: ∀k,S.has k→o.heap[k]? =w.heap[k]?):Own o j S q:=
 ⟨h.rq.keep fun k e=>n k (.inl e),h.im.keep fun k e=>n k (.inr (.inl e)),h.ep.keep fun k e=>n k (.inr (.inr (.inl e))),h.st.keep fun k e=>n k (.inr (.inr (.inr (.inl e)))),
  h.ex.keep fun k e=>n k (.inr (.inr (.inr (.inr (.inl e))))),h.la.keep fun k e=>n k (.inr (.inr (.inr (.inr (.inr e))))),h.apart⟩
theorem Own.has {w:World} {j:Nat} {S:Sv} {q:PS} (h:Own w j S q) {k:Nat} (n:S.has k):j≤k∧k<w.heap.size:=by
 rcases n with e|e|e|e|e|e
 ·exact⟨(h.rq.typed e).1,(h.rq.typed e).2.1⟩
 ·exact⟨(h.im.typed e).1,(h.im.typed e).2.1⟩
 ·exact⟨(h.ep.typed e).1,(h.ep.typed e).2.1⟩
 ·exact⟨(h.st.typed e).1,(h.st.typed e).2.1⟩
 ·exact⟨(h.ex.typed e).1,(h.ex.typed e).2.1⟩
 ·exact⟨(h.la.typed e).1,(h.la.typed e).2.1⟩
theorem Own.later {w n:World} {j:Nat} {S:Sv} {q:PS} (h:Own w j S q) (o:Below w.heap.size w n):Own n j S q:=h.keep fun k e=>o.block k (h.has e).2
theorem Own.other {w:World} {o:Nat} {S:Sv} {q:PS} (h:Own w o S q) {k:Nat} {A:Array Value} {e:TypeId} {z:Nat×Nat} (n:w.heap[k]? =some (.cells A e z)) (H:e≠9) (I:e≠100) (D:e≠102) (J:e≠106) (E:e≠108): ¬S.has k:=by
 rintro (g|g|g|g|g|g)
 ·obtain⟨_,_,c,j⟩:=h.rq.typed g
  rw[n] at j
  simp only[Option.some.injEq,Obj.cells.injEq] at j
  exact H j.2.1
 ·obtain⟨_,_,c,j⟩:=h.im.typed g
  rw[n] at j
  simp only[Option.some.injEq,Obj.cells.injEq] at j
  exact I j.2.1
 ·obtain⟨_,_,c,j⟩:=h.ep.typed g
  rw[n] at j
  simp only[Option.some.injEq,Obj.cells.injEq] at j
  exact D j.2.1
 ·obtain⟨_,_,c,j⟩:=h.st.typed g
  rw[n] at j
  simp only[Option.some.injEq,Obj.cells.injEq] at j
  exact J j.2.1
 ·obtain⟨_,_,c,j⟩:=h.ex.typed g
  rw[n] at j
  simp only[Option.some.injEq,Obj.cells.injEq] at j
  exact E j.2.1
 ·obtain⟨_,_,c,j⟩:=h.la.typed g
  rw[n] at j
  simp only[Option.some.injEq,Obj.cells.injEq] at j
  exact D j.2.1
structure Stp (S:Sv) (w:World) (S':Sv) (w':World):Prop where
 os:w'.os=w.os
 tape:w'.tape=w.tape
 output:w'.output=w.output
 size:w.heap.size≤w'.heap.size
 block: ∀k,k<w.heap.size→¬S.has k→w'.heap[k]? =w.heap[k]?
 sub: ∀k,S'.has k→S.has k∨w.heap.size≤k
theorem Stp.refl (S:Sv) (w:World):Stp S w S w:=⟨rfl,rfl,rfl,Nat.le_refl _,fun _ _ _=>rfl,fun _ h=>.inl h⟩
theorem Stp.trans {S z A:Sv} {w n o:World} (h:Stp S w z n) (k:Stp z n A o):Stp S w A o:=
 ⟨k.os.trans h.os,k.tape.trans h.tape,k.output.trans h.output,Nat.le_trans h.size k.size,
  fun i j q=>(k.block i (Nat.lt_of_lt_of_le j h.size) fun g=>(h.sub i g).elim q fun D=>by omega).trans (h.block i j q),
  fun i j=>(k.sub i j).elim (h.sub i) fun g=>.inr (Nat.le_trans h.size g)⟩
theorem Stp.below {S:Sv} {w j:World} (h:Below w.heap.size w j):Stp S w S j:=⟨h.os,h.tape,h.output,h.size,fun k n _=>h.block k n,fun _ g=>.inl g⟩
theorem Stp.under {S z:Sv} {w n:World} {j:Nat} {q:PS} (h:Stp S w z n) (A:j≤w.heap.size) (o:Own w j S q):Below j w n:=
 ⟨h.os,h.tape,h.output,h.size,fun k D=>h.block k (by omega) fun g=>by have:=(o.has g).1;omega⟩
theorem Stp.grown {S n:Sv} {w j:World} {row:Option Nat} (h:w.grownBy j row) (q: ∀k,row=some k→S.has k) (o: ∀k,n.has k→S.has k∨w.heap.size≤k):Stp S w n j:=
 ⟨h.os,h.tape,h.output,h.size,fun k A z=>h.block k A fun e=>z (q k e.symm),o⟩
structure Inv (C:Cx) (q:PS):Prop where
 pos:q.pos≤C.ts.length
 rq:q.rq.length≤40
 im:q.im.length≤40
 ep:q.ep.length+q.la.length≤40
 st:q.st.length≤80
 ex:q.ex.length≤300
structure Mem (C:Cx) (gt cap base:Nat) (S:Sv) (q:PS) (w:World):Prop where
 own:Own w base S q
 inv:Inv C q
 tok:OwnT w base 111 gt C.ts.length cap C.ts
 few:C.ts.length≤4000
 base:base≤w.heap.size
theorem Mem.later {C:Cx} {A n j:Nat} {S:Sv} {q:PS} {w z:World} (h:Mem C A n j S q w) (o:Below w.heap.size w z):Mem C A n j S q z:=
 ⟨h.own.later o,h.inv,zbO h.tok o,h.few,Nat.le_trans h.base o.size⟩
theorem Mem.alloc {C:Cx} {z n j:Nat} {S:Sv} {q:PS} {w:World} (h:Mem C z n j S q w) (o:Obj):Mem C z n j S q (w.alloc o):=h.later ((Below.refl _ _).alloc (Nat.le_refl _) _)
theorem Own.to {w:World} {j:Nat} {S:Sv} {q q':PS} (h:Own w j S q) (o:q'.rq=q.rq) (A:q'.im=q.im) (z:q'.ep=q.ep) (D:q'.st=q.st) (n:q'.ex=q.ex) (E:q'.la=q.la):Own w j S q':=
 ⟨by rw[o];exact h.rq,by rw[A];exact h.im,by rw[z];exact h.ep,by rw[D];exact h.st,by rw[n];exact h.ex,by rw[E];exact h.la,h.apart⟩
theorem Mem.adv {C:Cx} {o n j:Nat} {S:Sv} {q:PS} {w:World} (h:Mem C o n j S q w) (z:q.pos<C.ts.length):Mem C o n j S (adv q) w:=
 ⟨h.own.to rfl rfl rfl rfl rfl rfl,⟨z,h.inv.rq,h.inv.im,h.inv.ep,h.inv.st,h.inv.ex⟩,h.tok,h.few,h.base⟩
theorem OwnR.alloc {w:World} {j size n:Nat} {e:TypeId} {r:Rw} {xs:List Value} (h:OwnR w j e size r n xs) (o:Obj):OwnR (w.alloc o) j e size r n xs:=
 h.keep fun k q=>Below.heap_alloc w o k (h.typed q).2.1
theorem zeN {w:World} {o g n z:Nat} {e:TypeId} {E:List Tk} (h:OwnT w o e g n z E): ∃j,w.heap[g]? =some (.cells j e (0,0)):=by
 rcases h.1.2 with ⟨q,_⟩|⟨H,A,j,q,I,D,J,_⟩
 ·simp at q
 ·simp only[Value.slice.injEq,Option.some.injEq,Addr.mk.injEq,and_true,true_and] at q
  obtain⟨rfl,rfl⟩:=q
  exact⟨j,D⟩
theorem zbs {w A:World} {j g n q:Nat} {e:TypeId} {H:List Tk} (h:OwnT w j e g n q H) (K:A.heap[g]? =w.heap[g]?):OwnT A j e g n q H:=by
 refine⟨⟨h.1.1,?_⟩,h.2⟩
 rcases h.1.2 with k|⟨L,E,z,D,o,J,I⟩
 ·exact .inl k
 ·simp only[Value.slice.injEq,Option.some.injEq,Addr.mk.injEq,and_true,true_and] at D
  obtain⟨rfl,rfl⟩:=D
  exact .inr ⟨g,q,z,rfl,o,K.trans J,I⟩
theorem Mem.gt_free {C:Cx} {o n j:Nat} {S:Sv} {q:PS} {w:World} (h:Mem C o n j S q w): ¬S.has o:=by
 obtain⟨A,z⟩:=zeN h.tok
 exact h.own.other z (by decide) (by decide) (by decide) (by decide) (by decide)
structure Off (lo hi:Nat) (w w':World):Prop where
 os:w'.os=w.os
 tape:w'.tape=w.tape
 output:w'.output=w.output
 size:w.heap.size≤w'.heap.size
 block: ∀k,k<lo∨hi≤k∧k<w.heap.size→w'.heap[k]? =w.heap[k]?
theorem Off.refl (j h:Nat) (w:World):Off j h w w:=⟨rfl,rfl,rfl,Nat.le_refl _,fun _ _=>rfl⟩
theorem Off.set {o n:Nat} {w j:World} (h:Off o n w j) {b:Nat} (z:o≤b) (A:b<n) (i:Nat) (u:Value):Off o n w (j.setCell ⟨b,i,none⟩ u):=
 ⟨h.os,h.tape,h.output,by show _≤(j.heap.modify _ _).size;simp;exact h.size,fun k q=>(Below.heap_setCell j ⟨b,i,none⟩ u k (by show k≠b;omega)).trans (h.block k q)⟩
theorem Off.below {n q:Nat} {w o z:World} (h:Off n q w o) (j:Below o.heap.size o z) (A:n≤w.heap.size):Off n q w z:=
 ⟨j.os.trans h.os,j.tape.trans h.tape,j.output.trans h.output,Nat.le_trans h.size j.size,fun k D=>(j.block k (by have:=h.size;omega)).trans (h.block k D)⟩
theorem Off.set12 {z o:Nat} {a w:World} (h:Off z o a w) {b:Nat} (j:z≤b) (n:b<o) (J I D K E H O N L M A q:Value):
  Off z o a ((((((((((((w.setCell ⟨b,0,none⟩ J).setCell ⟨b,1,none⟩ I).setCell ⟨b,2,none⟩ D).setCell ⟨b,3,none⟩ K).setCell ⟨b,4,none⟩ E).setCell ⟨b,5,none⟩ H).setCell ⟨b,6,none⟩ O).setCell ⟨b,7,none⟩ N).setCell ⟨b,8,none⟩ L).setCell ⟨b,9,none⟩ M).setCell ⟨b,10,none⟩ A).setCell ⟨b,11,none⟩ q):=
 (((((((((((h.set j n _ _).set j n _ _).set j n _ _).set j n _ _).set j n _ _).set j n _ _).set j n _ _).set j n _ _).set j n _ _).set j n _ _).set j n _ _).set j n _ _
theorem zcl {P:Program} (W:World) {L:Array Oper} {rest:List Oper} {o:Oper} {a:Act} {Q:Exit→Act→World→Prop} (U:o.guard=none) (s x:Operand) (t:TypeId)
  (ho:o.op= .call {callee:=.builtin .append,args:=#[s,x],argTypes:=#[t,t]})
  (A:Nat) (e:TypeId) (i:TypeInfo) (z:Value) (size q:Nat) (ht:P.underlying t=some (.slice e)) (hi:P.info? e=some i) (hz:i.zero=some z) (H:i.size=size) (X:i.bytes=q) (V:z.cells.size=size) (O:0<size) (I:q≤100)
  (r:Rw) (n:Nat) (xs:List Value) (hs:a.eval s= .slice r.a n r.cap) (J:OwnR W A e size r n xs)
  (K:Nat) (w:List Value) (hx:a.eval x= .slice (some ⟨K,0,none⟩) 1 1) (hg:W.heap[K]? =some (.cells w.toArray e (0,0))) (hl:w.length=size) (h1: ∀u∈w,u.oneCell'=true) (hn:n+1≤1000000) (E:A≤W.heap.size)
  (h: ∀N M,OwnR M A e size N (n+1) (xs++w)→W.grownBy M r.blk→(N.blk=r.blk∨N.blk=some W.heap.size)→wpList P L Q rest (a.put o.dst (.slice N.a (n+1) N.cap)) M):
  wpList P L Q (o::rest) a W:=by
 refine wpList_append_own_at _ U s x t ho A e i z size q ht hi hz H X V O _ n _ hs J ⟨K,0,none⟩ 1 1 w hx (by omega) ?_ h1 ?_ ?_ E ?_
 ·intro j u hj
  have:(⟨K,0,none⟩:Addr).add j=⟨K,j,none⟩:=by simp[Addr.add];exact fun h=>h.symm
  rw[this]
  simp[World.cell?,hg,hj]
 ·unfold maxLen;omega
 ·have:(n+1)*q≤1000000*100:=Nat.mul_le_mul hn I
  omega
 ·intro v' M Z k2 k3 k4
  rcases Z.2 with ⟨hv,ab⟩|⟨g',D,aa,rfl,Y⟩
  ·omega
  ·refine h ⟨some ⟨g',0,none⟩,D⟩ M Z ?_ ?_
   ·rw[←zbh r n];exact k2
   ·rw[←zbh r n,←zbh ⟨some ⟨g',0,none⟩,D⟩ (n+1)];exact k4
theorem Mem.grow_rq {C:Cx} {V L A:Nat} {S:Sv} {q:PS} {w W X E:World} (j:Mem C V L A S q w) (J:Below w.heap.size w W) (I:W.grownBy X S.rq.blk) {D:Rw} {x:ByteArray} (Y:OwnR X A 9 1 D (q.rq.length+1) (q.rq.map .string++[.string x])) (N:D.blk=S.rq.blk∨D.blk=some W.heap.size) (z:Off w.heap.size W.heap.size X E) (Z:q.rq.length<40):
  Mem C V L A {S with rq:=D} {q with rq:=q.rq++[x]} E∧Stp S w {S with rq:=D} E:=by
 have O:=J.size
 have K:=I.size
 have n: ∀k,k<w.heap.size→S.rq.blk≠some k→E.heap[k]? =w.heap[k]?:=fun k o U=>
  (z.block k (.inl o)).trans ((I.block k (by omega) fun e=>U e.symm).trans (J.block k o))
 have H:OwnR E A 9 1 D (q.rq.length+1) (q.rq.map .string++[.string x]):=Y.keep fun k o=>z.block k (by
  rcases N with e|e
  ·rw[e] at o
   exact .inl (j.own.rq.typed o).2.1
  ·rw[e] at o
   obtain rfl:=Option.some.inj o
   exact .inr ⟨Nat.le_refl _,(Y.typed e).2.1⟩)
 have M:(q.rq++[x]).length=q.rq.length+1:=by simp
 refine⟨⟨⟨by show OwnR E A 9 1 D (q.rq++[x]).length _;rw[M];simpa using H,j.own.im.keep fun k o=>n k (j.own.im.typed o).2.1 (j.own.im.ne j.own.rq (by decide) o),j.own.ep.keep fun k o=>n k (j.own.ep.typed o).2.1 (j.own.ep.ne j.own.rq (by decide) o),j.own.st.keep fun k o=>n k (j.own.st.typed o).2.1 (j.own.st.ne j.own.rq (by decide) o),j.own.ex.keep fun k o=>n k (j.own.ex.typed o).2.1 (j.own.ex.ne j.own.rq (by decide) o),j.own.la.keep fun k o=>n k (j.own.la.typed o).2.1 (j.own.la.ne j.own.rq (by decide) o),j.own.apart⟩,⟨j.inv.pos,by simp;omega,j.inv.im,j.inv.ep,j.inv.st,j.inv.ex⟩,zbs j.tok (n V (zak j.tok).1 fun e=>j.gt_free (.inl e)),j.few,Nat.le_trans j.base (by have:=z.size;omega)⟩,?_⟩
 refine⟨z.os.trans (I.os.trans J.os),z.tape.trans (I.tape.trans J.tape),z.output.trans (I.output.trans J.output),Nat.le_trans (Nat.le_trans O K) z.size,fun k o Z=>n k o fun e=>Z (.inl e),fun k o=>?_⟩
 rcases o with h|h|h|h|h|h
 ·exact N.elim (fun e=>.inl (.inl (e.symm.trans h))) fun e=>.inr (by have:W.heap.size=k:=Option.some.inj (e.symm.trans h);omega)
 ·exact .inl (.inr (.inl h))
 ·exact .inl (.inr (.inr (.inl h)))
 ·exact .inl (.inr (.inr (.inr (.inl h))))
 ·exact .inl (.inr (.inr (.inr (.inr (.inl h)))))
 ·exact .inl (.inr (.inr (.inr (.inr (.inr h)))))
theorem Mem.grow_im {C:Cx} {V L A:Nat} {S:Sv} {q:PS} {w W X E:World} (j:Mem C V L A S q w) (J:Below w.heap.size w W) (I:W.grownBy X S.im.blk) {D:Rw} {x:Im} (Y:OwnR X A 100 3 D (q.im.length+1) (q.im.flatMap imL++imL x)) (N:D.blk=S.im.blk∨D.blk=some W.heap.size) (z:Off w.heap.size W.heap.size X E) (Z:q.im.length<40):
  Mem C V L A {S with im:=D} {q with im:=q.im++[x]} E∧Stp S w {S with im:=D} E:=by
 have O:=J.size
 have K:=I.size
 have n: ∀k,k<w.heap.size→S.im.blk≠some k→E.heap[k]? =w.heap[k]?:=fun k o U=>
  (z.block k (.inl o)).trans ((I.block k (by omega) fun e=>U e.symm).trans (J.block k o))
 have H:OwnR E A 100 3 D (q.im.length+1) (q.im.flatMap imL++imL x):=Y.keep fun k o=>z.block k (by
  rcases N with e|e
  ·rw[e] at o
   exact .inl (j.own.im.typed o).2.1
  ·rw[e] at o
   obtain rfl:=Option.some.inj o
   exact .inr ⟨Nat.le_refl _,(Y.typed e).2.1⟩)
 have M:(q.im++[x]).length=q.im.length+1:=by simp
 refine⟨⟨⟨j.own.rq.keep fun k o=>n k (j.own.rq.typed o).2.1 (j.own.rq.ne j.own.im (by decide) o),by show OwnR E A 100 3 D (q.im++[x]).length _;rw[M];simpa using H,j.own.ep.keep fun k o=>n k (j.own.ep.typed o).2.1 (j.own.ep.ne j.own.im (by decide) o),j.own.st.keep fun k o=>n k (j.own.st.typed o).2.1 (j.own.st.ne j.own.im (by decide) o),j.own.ex.keep fun k o=>n k (j.own.ex.typed o).2.1 (j.own.ex.ne j.own.im (by decide) o),j.own.la.keep fun k o=>n k (j.own.la.typed o).2.1 (j.own.la.ne j.own.im (by decide) o),j.own.apart⟩,⟨j.inv.pos,j.inv.rq,by simp;omega,j.inv.ep,j.inv.st,j.inv.ex⟩,zbs j.tok (n V (zak j.tok).1 fun e=>j.gt_free (.inr (.inl e))),j.few,Nat.le_trans j.base (by have:=z.size;omega)⟩,?_⟩
 refine⟨z.os.trans (I.os.trans J.os),z.tape.trans (I.tape.trans J.tape),z.output.trans (I.output.trans J.output),Nat.le_trans (Nat.le_trans O K) z.size,fun k o Z=>n k o fun e=>Z (.inr (.inl e)),fun k o=>?_⟩
 rcases o with h|h|h|h|h|h
 ·exact .inl (.inl h)
 ·exact N.elim (fun e=>.inl (.inr (.inl (e.symm.trans h)))) fun e=>.inr (by have:W.heap.size=k:=Option.some.inj (e.symm.trans h);omega)
 ·exact .inl (.inr (.inr (.inl h)))
 ·exact .inl (.inr (.inr (.inr (.inl h))))
 ·exact .inl (.inr (.inr (.inr (.inr (.inl h)))))
 ·exact .inl (.inr (.inr (.inr (.inr (.inr h)))))
theorem Mem.grow_ep {C:Cx} {V M A:Nat} {S:Sv} {q:PS} {w W X H:World} (j:Mem C V M A S q w) (K:Below w.heap.size w W) (J:W.grownBy X S.ep.blk) {E:Rw} {x:Ep} (Y:OwnR X A 102 4 E (q.ep.length+1) (q.ep.flatMap epL++epL x)) (D:E.blk=S.ep.blk∨E.blk=some W.heap.size) (z:Off w.heap.size W.heap.size X H) (hn:q.ep.length+q.la.length<40):
  Mem C V M A {S with ep:=E} {q with ep:=q.ep++[x]} H∧Stp S w {S with ep:=E} H:=by
 have O:=K.size
 have L:=J.size
 have n: ∀k,k<w.heap.size→S.ep.blk≠some k→H.heap[k]? =w.heap[k]?:=fun k o U=>
  (z.block k (.inl o)).trans ((J.block k (by omega) fun e=>U e.symm).trans (K.block k o))
 have I:OwnR H A 102 4 E (q.ep.length+1) (q.ep.flatMap epL++epL x):=Y.keep fun k o=>z.block k (by
  rcases D with e|e
  ·rw[e] at o
   exact .inl (j.own.ep.typed o).2.1
  ·rw[e] at o
   obtain rfl:=Option.some.inj o
   exact .inr ⟨Nat.le_refl _,(Y.typed e).2.1⟩)
 have N:(q.ep++[x]).length=q.ep.length+1:=by simp
 refine⟨⟨⟨j.own.rq.keep fun k o=>n k (j.own.rq.typed o).2.1 (j.own.rq.ne j.own.ep (by decide) o),j.own.im.keep fun k o=>n k (j.own.im.typed o).2.1 (j.own.im.ne j.own.ep (by decide) o),by show OwnR H A 102 4 E (q.ep++[x]).length _;rw[N];simpa using I,j.own.st.keep fun k o=>n k (j.own.st.typed o).2.1 (j.own.st.ne j.own.ep (by decide) o),j.own.ex.keep fun k o=>n k (j.own.ex.typed o).2.1 (j.own.ex.ne j.own.ep (by decide) o),j.own.la.keep fun k o=>n k (j.own.la.typed o).2.1 (fun e=>j.own.apart k e o),fun k o Z=>D.elim (fun e=>j.own.apart k (by rw[←e];exact o) Z) fun e=>by have h1:=(j.own.la.typed Z).2.1;have h2:W.heap.size=k:=Option.some.inj (e.symm.trans o);omega⟩,⟨j.inv.pos,j.inv.rq,j.inv.im,by have:=j.inv.ep;simp;omega,j.inv.st,j.inv.ex⟩,zbs j.tok (n V (zak j.tok).1 fun e=>j.gt_free (.inr (.inr (.inl e)))),j.few,Nat.le_trans j.base (by have:=z.size;omega)⟩,?_⟩
 refine⟨z.os.trans (J.os.trans K.os),z.tape.trans (J.tape.trans K.tape),z.output.trans (J.output.trans K.output),Nat.le_trans (Nat.le_trans O L) z.size,fun k o hn=>n k o fun e=>hn (.inr (.inr (.inl e))),fun k o=>?_⟩
 rcases o with h|h|h|h|h|h
 ·exact .inl (.inl h)
 ·exact .inl (.inr (.inl h))
 ·exact D.elim (fun e=>.inl (.inr (.inr (.inl (e.symm.trans h))))) fun e=>.inr (by have:W.heap.size=k:=Option.some.inj (e.symm.trans h);omega)
 ·exact .inl (.inr (.inr (.inr (.inl h))))
 ·exact .inl (.inr (.inr (.inr (.inr (.inl h)))))
 ·exact .inl (.inr (.inr (.inr (.inr (.inr h)))))
theorem Mem.grow_st {C:Cx} {V L A:Nat} {S:Sv} {q:PS} {w W X E:World} (j:Mem C V L A S q w) (J:Below w.heap.size w W) (I:W.grownBy X S.st.blk) {D:Rw} {x:Sm} (Y:OwnR X A 106 3 D (q.st.length+1) (q.st.flatMap smL++smL x)) (N:D.blk=S.st.blk∨D.blk=some W.heap.size) (z:Off w.heap.size W.heap.size X E) (Z:q.st.length<80):
  Mem C V L A {S with st:=D} {q with st:=q.st++[x]} E∧Stp S w {S with st:=D} E:=by
 have O:=J.size
 have K:=I.size
 have n: ∀k,k<w.heap.size→S.st.blk≠some k→E.heap[k]? =w.heap[k]?:=fun k o U=>
  (z.block k (.inl o)).trans ((I.block k (by omega) fun e=>U e.symm).trans (J.block k o))
 have H:OwnR E A 106 3 D (q.st.length+1) (q.st.flatMap smL++smL x):=Y.keep fun k o=>z.block k (by
  rcases N with e|e
  ·rw[e] at o
   exact .inl (j.own.st.typed o).2.1
  ·rw[e] at o
   obtain rfl:=Option.some.inj o
   exact .inr ⟨Nat.le_refl _,(Y.typed e).2.1⟩)
 have M:(q.st++[x]).length=q.st.length+1:=by simp
 refine⟨⟨⟨j.own.rq.keep fun k o=>n k (j.own.rq.typed o).2.1 (j.own.rq.ne j.own.st (by decide) o),j.own.im.keep fun k o=>n k (j.own.im.typed o).2.1 (j.own.im.ne j.own.st (by decide) o),j.own.ep.keep fun k o=>n k (j.own.ep.typed o).2.1 (j.own.ep.ne j.own.st (by decide) o),by show OwnR E A 106 3 D (q.st++[x]).length _;rw[M];simpa using H,j.own.ex.keep fun k o=>n k (j.own.ex.typed o).2.1 (j.own.ex.ne j.own.st (by decide) o),j.own.la.keep fun k o=>n k (j.own.la.typed o).2.1 (j.own.la.ne j.own.st (by decide) o),j.own.apart⟩,⟨j.inv.pos,j.inv.rq,j.inv.im,j.inv.ep,by simp;omega,j.inv.ex⟩,zbs j.tok (n V (zak j.tok).1 fun e=>j.gt_free (.inr (.inr (.inr (.inl e))))),j.few,Nat.le_trans j.base (by have:=z.size;omega)⟩,?_⟩
 refine⟨z.os.trans (I.os.trans J.os),z.tape.trans (I.tape.trans J.tape),z.output.trans (I.output.trans J.output),Nat.le_trans (Nat.le_trans O K) z.size,fun k o Z=>n k o fun e=>Z (.inr (.inr (.inr (.inl e)))),fun k o=>?_⟩
 rcases o with h|h|h|h|h|h
 ·exact .inl (.inl h)
 ·exact .inl (.inr (.inl h))
 ·exact .inl (.inr (.inr (.inl h)))
 ·exact N.elim (fun e=>.inl (.inr (.inr (.inr (.inl (e.symm.trans h)))))) fun e=>.inr (by have:W.heap.size=k:=Option.some.inj (e.symm.trans h);omega)
 ·exact .inl (.inr (.inr (.inr (.inr (.inl h)))))
 ·exact .inl (.inr (.inr (.inr (.inr (.inr h)))))
theorem Mem.grow_ex {C:Cx} {V L A:Nat} {S:Sv} {q:PS} {w W X E:World} (j:Mem C V L A S q w) (J:Below w.heap.size w W) (I:W.grownBy X S.ex.blk) {D:Rw} {x:Ex} (Y:OwnR X A 108 6 D (q.ex.length+1) (q.ex.flatMap exL++exL x)) (N:D.blk=S.ex.blk∨D.blk=some W.heap.size) (z:Off w.heap.size W.heap.size X E) (Z:q.ex.length<300):
  Mem C V L A {S with ex:=D} {q with ex:=q.ex++[x]} E∧Stp S w {S with ex:=D} E:=by
 have O:=J.size
 have K:=I.size
 have n: ∀k,k<w.heap.size→S.ex.blk≠some k→E.heap[k]? =w.heap[k]?:=fun k o U=>
  (z.block k (.inl o)).trans ((I.block k (by omega) fun e=>U e.symm).trans (J.block k o))
 have H:OwnR E A 108 6 D (q.ex.length+1) (q.ex.flatMap exL++exL x):=Y.keep fun k o=>z.block k (by
  rcases N with e|e
  ·rw[e] at o
   exact .inl (j.own.ex.typed o).2.1
  ·rw[e] at o
   obtain rfl:=Option.some.inj o
   exact .inr ⟨Nat.le_refl _,(Y.typed e).2.1⟩)
 have M:(q.ex++[x]).length=q.ex.length+1:=by simp
 refine⟨⟨⟨j.own.rq.keep fun k o=>n k (j.own.rq.typed o).2.1 (j.own.rq.ne j.own.ex (by decide) o),j.own.im.keep fun k o=>n k (j.own.im.typed o).2.1 (j.own.im.ne j.own.ex (by decide) o),j.own.ep.keep fun k o=>n k (j.own.ep.typed o).2.1 (j.own.ep.ne j.own.ex (by decide) o),j.own.st.keep fun k o=>n k (j.own.st.typed o).2.1 (j.own.st.ne j.own.ex (by decide) o),by show OwnR E A 108 6 D (q.ex++[x]).length _;rw[M];simpa using H,j.own.la.keep fun k o=>n k (j.own.la.typed o).2.1 (j.own.la.ne j.own.ex (by decide) o),j.own.apart⟩,⟨j.inv.pos,j.inv.rq,j.inv.im,j.inv.ep,j.inv.st,by simp;omega⟩,zbs j.tok (n V (zak j.tok).1 fun e=>j.gt_free (.inr (.inr (.inr (.inr (.inl e)))))),j.few,Nat.le_trans j.base (by have:=z.size;omega)⟩,?_⟩
 refine⟨z.os.trans (I.os.trans J.os),z.tape.trans (I.tape.trans J.tape),z.output.trans (I.output.trans J.output),Nat.le_trans (Nat.le_trans O K) z.size,fun k o Z=>n k o fun e=>Z (.inr (.inr (.inr (.inr (.inl e))))),fun k o=>?_⟩
 rcases o with h|h|h|h|h|h
 ·exact .inl (.inl h)
 ·exact .inl (.inr (.inl h))
 ·exact .inl (.inr (.inr (.inl h)))
 ·exact .inl (.inr (.inr (.inr (.inl h))))
 ·exact N.elim (fun e=>.inl (.inr (.inr (.inr (.inr (.inl (e.symm.trans h))))))) fun e=>.inr (by have:W.heap.size=k:=Option.some.inj (e.symm.trans h);omega)
 ·exact .inl (.inr (.inr (.inr (.inr (.inr h)))))
theorem Mem.grow_la {C:Cx} {V M A:Nat} {S:Sv} {q:PS} {w W X H:World} (j:Mem C V M A S q w) (K:Below w.heap.size w W) (J:W.grownBy X S.la.blk) {E:Rw} {x:Ep} (Y:OwnR X A 102 4 E (q.la.length+1) (q.la.flatMap epL++epL x)) (D:E.blk=S.la.blk∨E.blk=some W.heap.size) (z:Off w.heap.size W.heap.size X H) (hn:q.ep.length+q.la.length<40):
  Mem C V M A {S with la:=E} {q with la:=q.la++[x]} H∧Stp S w {S with la:=E} H:=by
 have O:=K.size
 have L:=J.size
 have n: ∀k,k<w.heap.size→S.la.blk≠some k→H.heap[k]? =w.heap[k]?:=fun k o U=>
  (z.block k (.inl o)).trans ((J.block k (by omega) fun e=>U e.symm).trans (K.block k o))
 have I:OwnR H A 102 4 E (q.la.length+1) (q.la.flatMap epL++epL x):=Y.keep fun k o=>z.block k (by
  rcases D with e|e
  ·rw[e] at o
   exact .inl (j.own.la.typed o).2.1
  ·rw[e] at o
   obtain rfl:=Option.some.inj o
   exact .inr ⟨Nat.le_refl _,(Y.typed e).2.1⟩)
 have N:(q.la++[x]).length=q.la.length+1:=by simp
 refine⟨⟨⟨j.own.rq.keep fun k o=>n k (j.own.rq.typed o).2.1 (j.own.rq.ne j.own.la (by decide) o),j.own.im.keep fun k o=>n k (j.own.im.typed o).2.1 (j.own.im.ne j.own.la (by decide) o),j.own.ep.keep fun k o=>n k (j.own.ep.typed o).2.1 (fun e=>j.own.apart k o e),j.own.st.keep fun k o=>n k (j.own.st.typed o).2.1 (j.own.st.ne j.own.la (by decide) o),j.own.ex.keep fun k o=>n k (j.own.ex.typed o).2.1 (j.own.ex.ne j.own.la (by decide) o),by show OwnR H A 102 4 E (q.la++[x]).length _;rw[N];simpa using I,fun k o Z=>D.elim (fun e=>j.own.apart k o (by rw[←e];exact Z)) fun e=>by have h1:=(j.own.ep.typed o).2.1;have h2:W.heap.size=k:=Option.some.inj (e.symm.trans Z);omega⟩,⟨j.inv.pos,j.inv.rq,j.inv.im,by have:=j.inv.ep;simp;omega,j.inv.st,j.inv.ex⟩,zbs j.tok (n V (zak j.tok).1 fun e=>j.gt_free (.inr (.inr (.inr (.inr (.inr e)))))),j.few,Nat.le_trans j.base (by have:=z.size;omega)⟩,?_⟩
 refine⟨z.os.trans (J.os.trans K.os),z.tape.trans (J.tape.trans K.tape),z.output.trans (J.output.trans K.output),Nat.le_trans (Nat.le_trans O L) z.size,fun k o hn=>n k o fun e=>hn (.inr (.inr (.inr (.inr (.inr e))))),fun k o=>?_⟩
 rcases o with h|h|h|h|h|h
 ·exact .inl (.inl h)
 ·exact .inl (.inr (.inl h))
 ·exact .inl (.inr (.inr (.inl h)))
 ·exact .inl (.inr (.inr (.inr (.inl h))))
 ·exact .inl (.inr (.inr (.inr (.inr (.inl h)))))
 ·exact D.elim (fun e=>.inl (.inr (.inr (.inr (.inr (.inr (e.symm.trans h))))))) fun e=>.inr (by have:W.heap.size=k:=Option.some.inj (e.symm.trans h);omega)
abbrev PRN:=Except Nat (PS×ByteArray)
def zaG (y:PRN):PR:=bd y fun a=>.ok a.1
def withN (y:PRN) (F:PR→ByteArray→PR):PRN:=bd y fun a=>bd (F (.ok a.1) a.2) fun q=>.ok (q,a.2)
def zcm (C:Cx) (q:PS):PRN:=withN (bd (zd C 1 zA q) (zh C false)) fun x n=>bd (bd (bd (bd x (zd C 4 cEq)) (pE C .sum 0)) (zd C 4 cSemi)) (zX C 1 n)
def fnP (C:Cx) (q:PS):PRN:=
 withN (bd (zd C 1 zO q) (zh C false)) fun x n=>bd (bd (bd (bd (bd (bd (bd (bd x (zd C 4 zm)) (zd C 4 zay)) (zd C 4 zF)) (zd C 1 zd6)) (pE C .sum 0)) (zd C 4 cSemi)) (zd C 4 zbd)) (zX C 2 n)
def asP (C:Cx) (exp:Bool) (a:PS×ByteArray):PRN:=
 if isT C a.1.pos 1 sAs then zh C exp (adv a.1)
 else if (a.2.toList==[100,101,102,97,117,108,116])&& !exp then .error (zq C a.1.pos) else .ok a
abbrev PRL:=Except Nat (PS×List Ep)
def zcJ (C:Cx) (exp:Bool):Nat→PS→List Ep→PRL
 |0,_,_=>.error 0
 |f+1,q,acc=>bd (zh C true q) fun a=>bd (asP C exp a) fun b=>
  if isT C b.1.pos 4 zbp then zcJ C exp f (adv b.1) (acc++[⟨0,b.2,a.2,sNone⟩]) else bd (zd C 4 zbd b.1) fun q'=>.ok (q',acc++[⟨0,b.2,a.2,sNone⟩])
def zav (C:Cx) (exp:Bool) (q:PS) (acc:List Ep):PRL:=zcJ C exp (C.ts.length-q.pos+1) q acc
def zcz (C:Cx) (exp:Bool) (q:PS):PRL:=bd (zd C 4 zF q) fun q'=>zav C exp q' []
def za5 (l:List Ep):Bool:=l.any fun x=>x.loc.toList==[100,101,102,97,117,108,116]
theorem zej {C:Cx} {j:Bool} {a b:PS×ByteArray} (h:asP C j a= .ok b):a.1.pos≤b.1.pos:=by
 unfold asP at h
 split at h
 ·obtain⟨rfl,_⟩:=zbe h
  show a.1.pos≤a.1.pos+1+1
  omega
 ·split at h
  ·cases h
  ·cases h
   exact Nat.le_refl _
theorem zjT {C:Cx} {j:Bool} (f:Nat): ∀(g:Nat) (q:PS) (acc:List Ep),C.ts.length-q.pos<f→C.ts.length-q.pos<g→zcJ C j f q acc=zcJ C j g q acc:=by
 induction f with
 |zero=>intro g q acc h;omega
 |succ f E=>
  intro g q acc I J
  obtain⟨g,rfl⟩: ∃A,g=A+1:=⟨g-1,by omega⟩
  rw[zcJ,zcJ]
  refine zZ fun a n=>zZ fun b z=>?_
  split
  ·next o=>
   obtain⟨rfl,D⟩:=zbe n
   have w:=zej z
   have K:=zaz o (by decide)
   have H:=zed D
   simp only[zw] at w
   exact E g _ _ (by rw[zw];omega) (by rw[zw];omega)
  ·rfl
theorem zeO (C:Cx) (h:Bool) (q:PS) (acc:List Ep):zav C h q acc=bd (zh C true q) fun a=>bd (asP C h a) fun b=>
  if isT C b.1.pos 4 zbp then zav C h (adv b.1) (acc++[⟨0,b.2,a.2,sNone⟩]) else bd (zd C 4 zbd b.1) fun q'=>.ok (q',acc++[⟨0,b.2,a.2,sNone⟩]):=by
 rw[zav,zcJ]
 refine zZ fun a j=>zZ fun b o=>?_
 split
 ·next n=>
  obtain⟨rfl,z⟩:=zbe j
  have w:=zej o
  have D:=zaz n (by decide)
  have A:=zed z
  simp only[zw] at w
  exact zjT _ _ _ _ (by rw[zw];omega) (by rw[zw];omega)
 ·rfl
def zR {α:Type} (f:α→PS→PR):List α→PR→PR
 |[],x=>x
 |a::l,x=>zR f l (bd x (f a))
def zb8 (s:ByteArray) (e:Ep):Im:=⟨s,e.loc,e.name⟩
def zaA (C:Cx) (x:PR):PRN:=bd (bd x (zd C 1 zP)) (zG C)
def zaQ (C:Cx) (y:PRN):PRN:=bd y fun a=>bd (zd C 4 cSemi a.1) fun q=>.ok (q,a.2)
def zaK (C:Cx) (q:PS):PR:=
 bd (zd C 1 zae q) fun q=>
  if isT C q.pos 4 zF then bd (zcz C false q) fun a=>bd (zaQ C (zaA C (.ok a.1))) fun b=>zR (fun e=>zao C (zb8 b.2 e)) a.2 (.ok b.1)
  else if isT C q.pos 4 zv then bd (bd (bd (zd C 4 zv q) (zd C 1 sAs)) (zh C false)) fun a=>bd (zaQ C (zaA C (.ok a.1))) fun b=>zao C ⟨b.2,zv,a.2⟩ b.1
  else if zB C q.pos false then bd (zh C false q) fun a=>bd (zaQ C (zaA C (.ok a.1))) fun b=>zao C ⟨b.2,sDefault,a.2⟩ b.1
  else bd (zG C q) fun a=>zd C 4 cSemi a.1
def zz (e:Ep):Ep:=⟨1,e.name,e.loc,sNone⟩
def zal (s:ByteArray) (e:Ep):Ep:=⟨2,e.name,e.loc,s⟩
def zaf (C:Cx) (q:PS):PR:=
 bd (zd C 1 zad q) fun q=>
  if isT C q.pos 4 zF then bd (zcz C true q) fun a=>
   if !za5 a.2&& !isT C a.1.pos 1 zP then bd (zd C 4 cSemi a.1) fun q=>zR (fun e=>zn C (zz e)) a.2 (.ok q)
   else bd (zaQ C (zaA C (.ok a.1))) fun b=>zR (fun e=>zn C (zal b.2 e)) a.2 (.ok b.1)
  else if isT C q.pos 4 zv then bd (zaQ C (zaA C (zd C 4 zv q))) fun b=>zn C ⟨3,sNone,sNone,b.2⟩ b.1
  else if isT C q.pos 1 sDefault then bd (bd (bd (bd (zd C 1 sDefault q) (pE C .sum 0)) (zd C 4 cSemi)) (zX C 1 zbG)) (zn C ⟨1,sDefault,zbG,sNone⟩)
  else if isT C q.pos 1 zA then bd (zcm C q) fun a=>zn C ⟨1,a.2,a.2,sNone⟩ a.1
  else if isT C q.pos 1 zO then bd (fnP C q) fun a=>zn C ⟨1,a.2,a.2,sNone⟩ a.1
  else .error (zq C q.pos)
def zy (C:Cx) (q:PS):PR:=
 if !C.scr&&isT C q.pos 1 zae then zaK C q
 else if !C.scr&&isT C q.pos 1 zad then zaf C q
 else if isT C q.pos 1 zA then zaG (zcm C q)
 else if isT C q.pos 1 zO then zaG (fnP C q)
 else if isT C q.pos 1 zap then bd (bd (bd (bd (bd (zd C 1 zap q) (zd C 4 zm)) (pE C .sum 0)) (zd C 4 zay)) (zd C 4 cSemi)) (zX C 4 sNone)
 else if isT C q.pos 1 za0 then bd (bd (bd (zd C 1 za0 q) (pE C .sum 0)) (zd C 4 cSemi)) (zX C 5 sNone)
 else if C.scr&&isT C q.pos 1 zby then bd (bd (bd (zd C 1 zby q) (pE C .sum 0)) (zd C 4 cSemi)) (zX C 6 sNone)
 else bd (zh C false q) fun a=>bd (bd (bd (zd C 4 cEq a.1) (pE C .sum 0)) (zd C 4 cSemi)) (zX C 3 a.2)
theorem zaw {C:Cx} {k:Int} {s:ByteArray} {q q':PS} (h:zd C k s q= .ok q'):q.pos+1=q'.pos:=by
 obtain⟨rfl,_⟩:=zb0 h
 rfl
theorem zdB {C:Cx} {o:Bool} {q:PS} {a:PS×ByteArray} (h:zh C o q= .ok a):q.pos+1=a.1.pos:=by
 obtain⟨rfl,_⟩:=zbe h
 rfl
theorem zgO {C:Cx} {q:PS} {a:PS×ByteArray} (h:zG C q= .ok a):q.pos+1=a.1.pos:=by
 unfold zG at h
 split at h
 ·split at h
  ·cases h;rfl
  ·split at h
   ·cases h
   ·cases h;rfl
 ·cases h
theorem zdC {C:Cx} {k:Int} {n:ByteArray} {q q':PS} (h:zX C k n q= .ok q'):q.pos=q'.pos:=by
 unfold zX at h
 split at h
 ·cases h
 ·cases h;rfl
theorem zfH {C:Cx} {y:Im} {q q':PS} (h:zao C y q= .ok q'):q.pos=q'.pos:=by
 unfold zao at h
 split at h
 ·cases h
 ·cases h;rfl
theorem zdD {C:Cx} {y:Ep} {q q':PS} (h:zn C y q= .ok q'):q.pos=q'.pos:=by
 unfold zn at h
 split at h
 ·cases h
 ·split at h
  ·cases h;rfl
  ·cases h;rfl
theorem zfI {α:Type} {f:α→PS→PR} (w: ∀a q q',f a q= .ok q'→q.pos=q'.pos) (l:List α): ∀(x:PR) (q':PS),zR f l x= .ok q'→∃q,x= .ok q∧q.pos=q'.pos:=by
 induction l with
 |nil=>intro x q' h;exact⟨q',h,rfl⟩
 |cons a l A=>
  intro x q' h
  obtain⟨b,j,o⟩:=A _ _ h
  obtain⟨c,n,z⟩:=zi j
  exact⟨c,n,(w _ _ _ z).trans o⟩
theorem zgP {C:Cx} {j:Bool} (m:Nat): ∀(q:PS) (acc:List Ep) (a:PS×List Ep),C.ts.length-q.pos<m→zav C j q acc= .ok a→q.pos≤a.1.pos:=by
 induction m with
 |zero=>intro q acc a h;omega
 |succ m H=>
  intro q acc a J h
  rw[zeO] at h
  obtain⟨b,A,E⟩:=zi h
  obtain⟨c,D,n⟩:=zi E
  have K:=zdB A
  have L:=zej D
  split at n
  ·next z=>
   have o:=zaz z (by decide)
   have:=H _ _ _ (by rw[zw];omega) n
   rw[zw] at this
   omega
  ·obtain⟨d,w,I⟩:=zi n
   have o:=zaw w
   cases I
   show q.pos≤d.pos
   omega
theorem zek {C:Cx} {x:PR} {b:PS×ByteArray} (h:zaQ C (zaA C x)= .ok b): ∃q,x= .ok q∧q.pos≤b.1.pos:=by
 obtain⟨a,o,z⟩:=zi h
 obtain⟨c,w,A⟩:=zi z
 obtain⟨d,j,E⟩:=zi o
 obtain⟨e,n,D⟩:=zi j
 have I:=zaw w
 have J:=zgO E
 have H:=zaw D
 cases A
 exact⟨e,n,by show e.pos≤c.pos;omega⟩
theorem zjU {C:Cx} {q q':PS} (h:zaK C q= .ok q'):q.pos<q'.pos:=by
 obtain⟨V,M,o⟩:=zi h
 have O:=zaw M
 split at o
 ·obtain⟨a,n,w⟩:=zi o
  obtain⟨b,A,E⟩:=zi w
  obtain⟨c,J,L⟩:=zi n
  obtain⟨d,H,z⟩:=zek A
  obtain⟨f,j,D⟩:=zfI (fun _ _ _ h=>zfH h) _ _ _ E
  have K:=zaw J
  have I:=zgP _ _ _ _ (Nat.lt_succ_self _) L
  cases H
  cases j
  omega
 ·split at o
  ·obtain⟨a,n,w⟩:=zi o
   obtain⟨b,A,E⟩:=zi w
   obtain⟨c,J,L⟩:=zi n
   obtain⟨d,H,z⟩:=zi J
   obtain⟨f,j,D⟩:=zek A
   have K:=zfH E
   have I:=zdB L
   have U:=zaw H
   have N:=zaw z
   cases j
   omega
  ·split at o
   ·obtain⟨a,n,w⟩:=zi o
    obtain⟨b,A,E⟩:=zi w
    obtain⟨f,j,D⟩:=zek A
    have K:=zfH E
    have I:=zdB n
    cases j
    omega
   ·obtain⟨a,n,w⟩:=zi o
    have K:=zgO n
    have I:=zaw w
    omega
theorem zgQ {y:PRN} {F:PR→ByteArray→PR} {a:PS×ByteArray} (h:withN y F= .ok a): ∃b,y= .ok b∧F (.ok b.1) b.2= .ok a.1:=by
 obtain⟨b,n,q⟩:=zi h
 obtain⟨c,o,j⟩:=zi q
 cases j
 exact⟨b,n,o⟩
theorem zgR {C:Cx} {q:PS} {a:PS×ByteArray} (h:zcm C q= .ok a):q.pos<a.1.pos:=by
 obtain⟨b,z,D⟩:=zgQ h
 obtain⟨c,A,E⟩:=zi z
 obtain⟨d,o,I⟩:=zi D
 obtain⟨f,w,H⟩:=zi o
 obtain⟨g,n,j⟩:=zi w
 have L:=zaw A
 have O:=zdB E
 have J:=zaw (show zd C 4 cEq b.1= .ok g from n)
 have M:=zaP j
 have K:=zaw H
 have N:=zdC I
 omega
theorem zgS {C:Cx} {q:PS} {a:PS×ByteArray} (h:fnP C q= .ok a):q.pos<a.1.pos:=by
 obtain⟨b,J,L⟩:=zgQ h
 obtain⟨c,K,Y⟩:=zi J
 obtain⟨d,U,N⟩:=zi L
 obtain⟨f,V,M⟩:=zi U
 obtain⟨g,O,n⟩:=zi V
 obtain⟨i,w,A⟩:=zi O
 obtain⟨j,D,I⟩:=zi w
 obtain⟨k,E,z⟩:=zi D
 obtain⟨l,o,H⟩:=zi E
 have e1:=zaw K
 have e2:=zdB Y
 have Z:=zaw (show zd C 4 zm b.1= .ok l from o)
 have e4:=zaw H
 have e5:=zaw z
 have e6:=zaw I
 have e7:=zaP A
 have e8:=zaw n
 have e9:=zaw M
 have X:=zdC N
 omega
theorem zjV {C:Cx} {q q':PS} (h:zaf C q= .ok q'):q.pos<q'.pos:=by
 obtain⟨V,M,j⟩:=zi h
 have X:=zaw M
 split at j
 ·obtain⟨a,z,n⟩:=zi j
  obtain⟨c,L,J⟩:=zi z
  have I:=zaw L
  have H:=zgP _ _ _ _ (Nat.lt_succ_self _) J
  split at n
  ·obtain⟨b,D,A⟩:=zi n
   obtain⟨f,w,K⟩:=zfI (fun _ _ _ h=>zdD h) _ _ _ A
   have N:=zaw D
   cases w
   omega
  ·obtain⟨b,D,A⟩:=zi n
   obtain⟨d,E,o⟩:=zek D
   obtain⟨f,w,K⟩:=zfI (fun _ _ _ h=>zdD h) _ _ _ A
   cases E
   cases w
   omega
 ·split at j
  ·obtain⟨b,D,A⟩:=zi j
   obtain⟨d,E,o⟩:=zek D
   have I:=zaw E
   have H:=zdD A
   omega
  ·split at j
   ·obtain⟨a,z,n⟩:=zi j
    obtain⟨b,D,A⟩:=zi z
    obtain⟨c,L,J⟩:=zi D
    obtain⟨d,E,o⟩:=zi L
    have I:=zaw E
    have H:=zaP o
    have N:=zaw J
    have O:=zdC A
    have U:=zdD n
    omega
   ·split at j
    ·obtain⟨a,z,n⟩:=zi j
     have I:=zgR z
     have H:=zdD n
     omega
    ·split at j
     ·obtain⟨a,z,n⟩:=zi j
      have I:=zgS z
      have H:=zdD n
      omega
     ·cases j
theorem zgT {C:Cx} {s:ByteArray} {k:Int} {n:ByteArray} {q q':PS} (h:bd (bd (bd (zd C 1 s q) (pE C .sum 0)) (zd C 4 cSemi)) (zX C k n)= .ok q'):q.pos<q'.pos:=by
 obtain⟨a,o,z⟩:=zi h
 obtain⟨b,w,A⟩:=zi o
 obtain⟨c,j,D⟩:=zi w
 have H:=zaw j
 have J:=zaP D
 have E:=zaw A
 have I:=zdC z
 omega
theorem zeP {C:Cx} {q q':PS} (h:zy C q= .ok q'):q.pos<q'.pos:=by
 unfold zy at h
 split at h
 ·exact zjU h
 ·split at h
  ·exact zjV h
  ·split at h
   ·obtain⟨a,j,n⟩:=zi h
    cases n
    exact zgR j
   ·split at h
    ·obtain⟨a,j,n⟩:=zi h
     cases n
     exact zgS j
    ·split at h
     ·obtain⟨a,j,n⟩:=zi h
      obtain⟨b,A,D⟩:=zi j
      obtain⟨c,w,H⟩:=zi A
      obtain⟨d,z,E⟩:=zi w
      obtain⟨e,I,o⟩:=zi z
      have L:=zaw I
      have N:=zaw o
      have J:=zaP E
      have M:=zaw H
      have K:=zaw D
      have O:=zdC n
      omega
     ·split at h
      ·exact zgT h
      ·split at h
       ·exact zgT h
       ·obtain⟨a,j,n⟩:=zi h
        obtain⟨b,A,D⟩:=zi n
        obtain⟨c,w,H⟩:=zi A
        obtain⟨d,z,E⟩:=zi w
        have L:=zdB j
        have N:=zaw z
        have J:=zaP E
        have M:=zaw H
        have K:=zdC D
        omega
def zcK (C:Cx):Nat→PS→PR
 |0,_=>.error 0
 |f+1,q=>if q.pos<C.ts.length then bd (zy C q) (zcK C f) else .ok q
def zaq (C:Cx) (q:PS):PR:=zcK C (C.ts.length-q.pos+1) q
theorem zjW {C:Cx} (f:Nat): ∀(g:Nat) (q:PS),C.ts.length-q.pos<f→C.ts.length-q.pos<g→zcK C f q=zcK C g q:=by
 induction f with
 |zero=>intro g q h;omega
 |succ f o=>
  intro g q w z
  obtain⟨g,rfl⟩: ∃n,g=n+1:=⟨g-1,by omega⟩
  rw[zcK,zcK]
  split
  ·refine zZ fun a j=>?_
   have:=zeP j
   exact o g a (by omega) (by omega)
  ·rfl
theorem zeQ (C:Cx) (q:PS):zaq C q=if q.pos<C.ts.length then bd (zy C q) (zaq C) else .ok q:=by
 rw[zaq,zcK]
 split
 ·refine zZ fun a h=>?_
  have:=zeP h
  exact zjW _ _ _ (by omega) (by omega)
 ·rfl
def zb3:PS:=⟨0,[],[],[],[],[],[]⟩
def zb4 (s:ByteArray) (scr:Bool) (y:PR):Prop:=∃r,zac s scr r∧y=match r with
 | .error p=>.error p
 | .ok ts=>zaq ⟨ts,s.size,scr⟩ zb3
theorem zgU {s:ByteArray} {h:Bool} {n j:PR} (q:zb4 s h n) (w:zb4 s h j):n=j:=by
 obtain⟨A,z,rfl⟩:=q
 obtain⟨D,o,rfl⟩:=w
 obtain rfl:=zjC z o
 rfl
theorem zjX {s:ByteArray} {w:Bool} {a n:Nat} {r:Except Nat (List Tk)} (h:Lx s w a n r): ∀o,r= .ok o→n≤4000→o.length+n≤4000:=by
 induction h using Lx.ind with
 |done=>intro o q z;cases q;simpa using z
 |bad _ _=>intro o q z;cases q
 | @tok a n e b t r h z E D q A=>
  intro o j _
  cases r with
  |error p=>simp[Except.map] at j
  |ok l=>
   simp only[Except.map,Except.ok.injEq] at j
   subst j
   have:=A l rfl (by omega)
   simp only[List.length_cons]
   omega
theorem zgV {s:ByteArray} {j:Bool} {n:List Tk} (h:zac s j (.ok n)):n.length≤4000:=by
 obtain⟨a,_,o⟩:=h
 have:=zjX o n rfl (by omega)
 omega
def R0:Rw:=⟨none,0⟩
def S0:Sv:=⟨R0,R0,R0,R0,R0,R0⟩
theorem zdE (w:World) (h size:Nat) (e:TypeId):OwnR w h e size R0 0 []:=World.ownsRow_nil w h e size
theorem zjY (w:World) (j:Nat):Own w j S0 zb3:=
 ⟨zdE _ _ _ _,zdE _ _ _ _,zdE _ _ _ _,zdE _ _ _ _,zdE _ _ _ _,zdE _ _ _ _,fun k h=>by simp[S0,R0,Rw.blk,Value.ownBlock] at h⟩
theorem zgW {w:World} {j g o:Nat} {q:List Tk} {n:Nat} {z:Bool} (h:OwnT w j 111 g q.length o q) (D:q.length≤4000) (A:j≤w.heap.size):Mem ⟨q,n,z⟩ g o j S0 zb3 w:=
 ⟨zjY _ _,⟨Nat.zero_le _,Nat.zero_le _,Nat.zero_le _,Nat.zero_le _,Nat.zero_le _,Nat.zero_le _⟩,h,D,A⟩
structure OwnMod (w:World) (base:Nat) (S:Sv) (q:PS):Prop where
 rq:OwnR w base 9 1 S.rq q.rq.length (q.rq.map .string)
 im:OwnR w base 100 3 S.im q.im.length (q.im.flatMap imL)
 ep:OwnR w base 102 4 S.ep (q.ep++q.la).length ((q.ep++q.la).flatMap epL)
 st:OwnR w base 106 3 S.st q.st.length (q.st.flatMap smL)
 ex:OwnR w base 108 6 S.ex q.ex.length (q.ex.flatMap exL)
 inv:q.rq.length≤40∧q.im.length≤40∧q.ep.length+q.la.length≤40∧q.st.length≤80∧q.ex.length≤300
def zeR (S:Sv) (q:PS):Value:=.agg #[.slice S.rq.a q.rq.length S.rq.cap,.slice S.im.a q.im.length S.im.cap,.slice S.ep.a (q.ep++q.la).length S.ep.cap,.slice S.st.a q.st.length S.st.cap,.slice S.ex.a q.ex.length S.ex.cap]
def ParseOut (s:ByteArray) (scr:Bool) (w:World) (e:Ending) (w':World):Prop:=
 ∃y,zb4 s scr y∧match y with
  | .ok q=>∃S,e= .returned (.tuple #[zeR S q,.int .i64 (-1)])∧OwnMod w' w.heap.size S q
  | .error p=>e= .returned (.tuple #[.agg #[.slice none 0 0,.slice none 0 0,.slice none 0 0,.slice none 0 0,.slice none 0 0],.int .i64 p])
theorem OwnR.low {w:World} {o j size n:Nat} {e:TypeId} {r:Rw} {xs:List Value} (h:OwnR w o e size r n xs) (E:j≤o):OwnR w j e size r n xs:=by
 refine⟨h.1,?_⟩
 rcases h.2 with q|⟨g,A,z,q,D,rest⟩
 ·exact .inl q
 ·exact .inr ⟨g,A,z,q,Nat.le_trans E D,rest⟩
theorem OwnR.nil_or {w:World} {o size n:Nat} {e:TypeId} {r:Rw} {xs:List Value} (h:OwnR w o e size r n xs):(r.a=none∧r.cap=0∧n=0)∨∃g,r.a=some ⟨g,0,none⟩:=by
 rcases h.2 with ⟨j,z⟩|⟨g,A,q,j,_⟩
 ·simp only[Value.slice.injEq] at j
  exact .inl ⟨j.1,j.2.2,z⟩
 ·simp only[Value.slice.injEq] at j
  exact .inr ⟨g,j.1⟩
theorem zjZ {P:Program} (W:World) {O:Array Oper} {rest:List Oper} {o:Oper} {a:Act} {Q:Exit→Act→World→Prop} (Z:o.guard=none) (s x:Operand) (t:TypeId)
  (ho:o.op= .call {callee:=.builtin .append,args:=#[s,x],argTypes:=#[t,t]})
  (A:Nat) (e:TypeId) (i:TypeInfo) (z:Value) (size q:Nat) (ht:P.underlying t=some (.slice e)) (hi:P.info? e=some i) (hz:i.zero=some z) (I:i.size=size) (ac:i.bytes=q) (aa:z.cells.size=size) (Y:0<size) (K:q≤100)
  (r:Rw) (n:Nat) (xs:List Value) (hs:a.eval s= .slice r.a n r.cap) (L:OwnR W A e size r n xs)
  (M m c E:Nat) (w:List Value) (hx:a.eval x= .slice (some ⟨M,0,none⟩) m c) (X:OwnR W E e size ⟨some ⟨M,0,none⟩,c⟩ m w) (h1: ∀u∈w,u.oneCell'=true) (hn:n+m≤1000000) (H:A≤W.heap.size)
  (h: ∀U J,OwnR J A e size U (n+m) (xs++w)→W.grownBy J r.blk→(U.blk=r.blk∨U.blk=some W.heap.size)→wpList P O Q rest (a.put o.dst (.slice U.a (n+m:Nat) U.cap)) J):
  wpList P O Q (o::rest) a W:=by
 refine wpList_append_own_at _ Z s x t ho A e i z size q ht hi hz I ac aa Y _ n _ hs L ⟨M,0,none⟩ m c w hx X.1 ?_ h1 ?_ ?_ H ?_
 ·intro j u hj
  have e1:(⟨M,0,none⟩:Addr).add j=⟨M,j,none⟩:=by simp[Addr.add];exact fun h=>h.symm
  have ab:j<w.length:=(List.getElem?_eq_some_iff.1 hj).1
  rw[e1,World.ownsRow.cellAt X j (by rw[←X.1];exact ab)]
  exact hj
 ·unfold maxLen;omega
 ·have:(n+m)*q≤1000000*100:=Nat.mul_le_mul hn K
  omega
 ·intro v' J V k2 k3 k4
  rcases V.2 with ⟨hv,N⟩|⟨g',D,ae,rfl,ad⟩
  ·subst hv
   have:=h ⟨none,0⟩ J (by rw[N] at V ⊢;exact V) (by rw[←zbh r n];exact k2) (by rw[←zbh r n];exact k4)
   rw[N] at this
   exact this
  ·refine h ⟨some ⟨g',0,none⟩,D⟩ J V ?_ ?_
   ·rw[←zbh r n];exact k2
   ·rw[←zbh r n,←zbh ⟨some ⟨g',0,none⟩,D⟩ (n+m)];exact k4
theorem zka {P:Program} (W:World) {w:Array Oper} {rest:List Oper} {o:Oper} {a:Act} {Q:Exit→Act→World→Prop} (A:o.guard=none) (s x:Operand) (t:TypeId)
  (H:o.op= .call {callee:=.builtin .append,args:=#[s,x],argTypes:=#[t,t]})
  (e:TypeId) (i:TypeInfo) (E:P.underlying t=some (.slice e)) (D:P.info? e=some i) (j size n:Nat)
  (r:Rw) (xs:List Value) (I:a.eval s= .slice r.a n r.cap) (q:OwnR W j e size r n xs) (U:a.eval x= .slice none 0 0)
  (h:wpList P w Q rest (a.put o.dst (.slice r.a n r.cap)) W):wpList P w Q (o::rest) a W:=by
 have J:(Builtin.append_ #[t,t] o.type #[.slice r.a n r.cap,.slice none 0 0]).run P W= .ok (.slice r.a n r.cap) W:=by
  rcases q.2 with ⟨z,_⟩|⟨g,M,N,z,_,_,O,_⟩
  ·rw[z]
   simp[Builtin.append_,run_underlying E,sizeOf,typeInfo,D,Builtin.lenOf,Builtin.firstCells]
  ·rw[z]
   simp[Builtin.append_,run_underlying E,sizeOf,typeInfo,D,Builtin.lenOf,Builtin.firstCells,loadCells,O,storeCells]
 refine wpList_plain A fun K L=>?_
 unfold Oper.wp execOp
 simp only[H,resolve,invoke,builtin,Sem.run_bind,Sem.run_pure,Result.andThen_ok,List.map_toArray,List.map_cons,List.map_nil,I,U,J]
 exact L _ _ h
theorem zfJ (l:List Ep): ∀u∈l.flatMap epL,u.oneCell'=true:=by
 intro u h
 rw[List.mem_flatMap] at h
 obtain⟨x,_,j⟩:=h
 simp[epL] at j
 rcases j with rfl|rfl|rfl|rfl<;>rfl
theorem Mem.whole {C:Cx} {X K j b B:Nat} {S:Sv} {q:PS} {W L J:World} {D:Rw} (z:Mem C X K j S q W) (V:W.grownBy L S.ep.blk) (N:OwnR L j 102 4 D (q.ep.length+q.la.length) (q.ep.flatMap epL++q.la.flatMap epL)) (M:D.blk=S.ep.blk∨D.blk=some W.heap.size) (hB:B<j) (hb:b<W.heap.size) (o: ¬S.has b)
  (O: ∀k,k≠B→k≠b→J.heap[k]? =L.heap[k]?):OwnMod J B {S with ep:=D} q:=by
 have A:(q.ep++q.la).length=q.ep.length+q.la.length:=by simp
 have E: ∀(r:Rw) (e:TypeId) (w n:Nat) (I:List Value),OwnR W j e w r n I→e≠102→(∀k,r.blk=some k→S.has k)→OwnR J B e w r n I:=fun r e w n I h U Z=>
  ((h.keep fun k g=>(O k (by have:=(h.typed g).1;omega) (fun H=>o (by rw[←H];exact Z k g))).trans (V.block k (h.typed g).2.1 fun Y=>(h.ne z.own.ep U g) Y.symm)).low (by omega))
 refine⟨E _ _ _ _ _ z.own.rq (by decide) fun k g=>.inl g,E _ _ _ _ _ z.own.im (by decide) fun k g=>.inr (.inl g),?_,E _ _ _ _ _ z.own.st (by decide) fun k g=>.inr (.inr (.inr (.inl g))),E _ _ _ _ _ z.own.ex (by decide) fun k g=>.inr (.inr (.inr (.inr (.inl g)))),z.inv.rq,z.inv.im,z.inv.ep,z.inv.st,z.inv.ex⟩
 rw[A,List.flatMap_append]
 refine (N.keep fun k g=>O k (by have:=(N.typed g).1;omega) ?_).low (by omega)
 rcases M with e|e
 ·intro H
  exact o (by rw[←H];exact .inr (.inr (.inl (by rw[←e];exact g))))
 ·have:W.heap.size=k:=Option.some.inj (e.symm.trans g)
  omega
theorem Mem.whole0 {C:Cx} {K E o b B:Nat} {S:Sv} {q:PS} {W D:World} (w:Mem C K E o S q W) (M:q.la=[]) (N:B<o) (z: ¬S.has b)
  (L: ∀k,k≠B→k≠b→D.heap[k]? =W.heap[k]?):OwnMod D B S q:=by
 have A: ∀(r:Rw) (e:TypeId) (j n:Nat) (H:List Value),OwnR W o e j r n H→(∀k,r.blk=some k→S.has k)→OwnR D B e j r n H:=fun r e j n H h I=>
  ((h.keep fun k g=>L k (by have:=(h.typed g).1;omega) (fun J=>z (by rw[←J];exact I k g))).low (by omega))
 refine⟨A _ _ _ _ _ w.own.rq fun k g=>.inl g,A _ _ _ _ _ w.own.im fun k g=>.inr (.inl g),?_,A _ _ _ _ _ w.own.st fun k g=>.inr (.inr (.inr (.inl g))),A _ _ _ _ _ w.own.ex fun k g=>.inr (.inr (.inr (.inr (.inl g)))),w.inv.rq,w.inv.im,w.inv.ep,w.inv.st,w.inv.ex⟩
 rw[M,List.append_nil]
 exact A _ _ _ _ _ w.own.ep fun k g=>.inr (.inr (.inl g))
theorem zk {w:World} {b:Nat} {t:TypeId} {q z n o j:Value} (h:w.heap[b]? =some (.cells #[q,z,n,o,j] t (0,0))):
  w.cell? ⟨b,0,none⟩=some q∧w.cell? ⟨b,1,none⟩=some z∧w.cell? ⟨b,2,none⟩=some n∧w.cell? ⟨b,3,none⟩=some o∧w.cell? ⟨b,4,none⟩=some j∧∀i,w.frozen? ⟨b,i,none⟩=false:=by
 refine⟨?_,?_,?_,?_,?_,fun i=>?_⟩<;>simp[World.cell?,World.frozen?,h]
theorem zas {w:World} {b i:Nat} {j:Array Value} {u:Value} {t:TypeId} (h:w.heap[b]? =some (.cells j t (0,0))):(w.setCell ⟨b,i,none⟩ u).heap[b]? =some (.cells (j.setIfInBounds i u) t (0,0)):=by
 simp only[World.setCell,Array.getElem?_modify]
 rw[if_pos trivial,h]
 rfl
theorem zcU {w:World} {b:Nat} {I A E H D q o j z n:Value} {t:TypeId} (h:w.heap[b]? =some (.cells #[I,A,E,H,D] t (0,0))):
  (((((w.setCell ⟨b,0,none⟩ q).setCell ⟨b,1,none⟩ o).setCell ⟨b,2,none⟩ j).setCell ⟨b,3,none⟩ z).setCell ⟨b,4,none⟩ n).heap[b]? =some (.cells #[q,o,j,z,n] t (0,0)):=by
 have e:=zas (i:=4) (u:=n) (zas (i:=3) (u:=z) (zas (i:=2) (u:=j) (zas (i:=1) (u:=o) (zas (i:=0) (u:=q) h))))
 rw[e]
 simp
theorem zdg {B:Nat} {a w:World} {b:Nat} (h:Below B a w) (j:B≤b) (z q n A o:Value):Below B a (((((w.setCell ⟨b,0,none⟩ z).setCell ⟨b,1,none⟩ q).setCell ⟨b,2,none⟩ n).setCell ⟨b,3,none⟩ A).setCell ⟨b,4,none⟩ o):=
 ((((h.setCell j _).setCell j _).setCell j _).setCell j _).setCell j _
end Go.Proofs.YticdggnnpjachaaGreat
