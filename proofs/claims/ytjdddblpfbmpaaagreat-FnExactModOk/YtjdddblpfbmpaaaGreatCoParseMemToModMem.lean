/-
  A program under way in memory: its six rows,what a step leaves as it was. No program is spoken of but for the numbers of its types.
  One of the six rows of a program under way grows by one element: what holds behind it. No program is spoken of but for the numbers of its types.
  Items of programs,as plain functions. No program is spoken of.
  A whole program,as a plain function of its tokens: items one behind the other. No program is spoken of.
  A text has at most 4000 tokens. No program is spoken of.
  A program in memory,as Parse hands it back. No program is spoken of but for the numbers of its types.
-/
import Derived.Maps.AppendAt
import Derived.Test.YtjdddblpfbmpaaaGreatCoTokMem
namespace Go.Proofs.YtjdddblpfbmpaaaGreat
open Go.RowKit Go.PlainAid
def imL (x:Im):List Value:=[.string x.spec,.string x.first,.string x.loc]
def epL (x:Ep):List Value:=[.int .i64 x.kind,.string x.name,.string x.loc,.string x.spec]
def smL (x:Sm):List Value:=[.int .i64 x.kind,.string x.name,.int .i64 x.expr]
def exL (x:Ex):List Value:=[.int .i64 x.kind,.int .i64 x.num,.string x.name,.string x.field,.int .i64 x.l,.int .i64 x.r]
structure Rw where
 a:Option Addr
 cap:Nat
structure Sv where
 rq:Rw
 im:Rw
 ep:Rw
 st:Rw
 ex:Rw
 la:Rw
def Rw.blk (r:Rw):Option Nat:=(Value.slice r.a 0 r.cap).ownBlock
def Sv.has (S:Sv) (k:Nat):Prop:=S.rq.blk=some k∨S.im.blk=some k∨S.ep.blk=some k∨S.st.blk=some k∨S.ex.blk=some k∨S.la.blk=some k
def OwnR (w:World) (base:Nat) (e:TypeId) (size:Nat) (r:Rw) (n:Nat) (xs:List Value):Prop:=w.ownsRow base e size (.slice r.a n r.cap) n xs
theorem zbe (r:Rw) (n:Nat):(Value.slice r.a n r.cap).ownBlock=r.blk:=by
 unfold Rw.blk Value.ownBlock
 cases r.a<;>rfl
structure Own (w:World) (base:Nat) (S:Sv) (q:PS):Prop where
 rq:OwnR w base 9 1 S.rq q.rq.length (q.rq.map .string)
 im:OwnR w base 84 3 S.im q.im.length (q.im.flatMap imL)
 ep:OwnR w base 86 4 S.ep q.ep.length (q.ep.flatMap epL)
 st:OwnR w base 107 3 S.st q.st.length (q.st.flatMap smL)
 ex:OwnR w base 109 6 S.ex q.ex.length (q.ex.flatMap exL)
 la:OwnR w base 86 4 S.la q.la.length (q.la.flatMap epL)
 apart: ∀k,S.ep.blk=some k→S.la.blk≠some k
theorem OwnR.typed {w:World} {j size n:Nat} {e:TypeId} {r:Rw} {xs:List Value} (h:OwnR w j e size r n xs) {k:Nat} (z:r.blk=some k):j≤k∧k<w.heap.size∧∃q,w.heap[k]? =some (.cells q e (0,0)):=by
 rcases h.2 with ⟨A,_⟩|⟨g,E,q,A,H,D,_⟩
 ·rw[←zbe r n,A] at z
  simp[Value.ownBlock] at z
 ·rw[←zbe r n,A] at z
  simp only[Value.ownBlock,Option.some.injEq] at z
  subst z
  exact⟨H,(Array.getElem?_eq_some_iff.1 D).1,q,D⟩
theorem OwnR.ne {w:World} {D b2 L I O V:Nat} {A q:TypeId} {n z:Rw} {U M:List Value} (J:OwnR w D A L n O U) (E:OwnR w b2 q I z V M) (N:A≠q) {k:Nat} (H:n.blk=some k):z.blk≠some k:=by
 intro h
 obtain⟨_,_,X,K⟩:=J.typed H
 obtain⟨_,_,Y,j⟩:=E.typed h
 rw[K] at j
 simp only[Option.some.injEq,Obj.cells.injEq] at j
 exact N j.2.1
theorem OwnR.keep {w D:World} {j size n:Nat} {e:TypeId} {r:Rw} {xs:List Value} (h:OwnR w j e size r n xs) (E: ∀k,r.blk=some k→D.heap[k]? =w.heap[k]?):OwnR D j e size r n xs:=by
 refine⟨h.1,?_⟩
 rcases h.2 with q|⟨g,A,z,q,H,I,rest⟩
 ·exact .inl q
 ·refine .inr ⟨g,A,z,q,H,?_,rest⟩
  rw[E g (by rw[←zbe r n,q];rfl)]
  exact I
theorem Own.keep {w z:World} {j:Nat} {S:Sv} {q:PS} (h:Own w j S q) (n: ∀k,S.has k→z.heap[k]? =w.heap[k]?):Own z j S q:=
 ⟨h.rq.keep fun k e=>n k (.inl e),h.im.keep fun k e=>n k (.inr (.inl e)),h.ep.keep fun k e=>n k (.inr (.inr (.inl e))),h.st.keep fun k e=>n k (.inr (.inr (.inr (.inl e)))),
  h.ex.keep fun k e=>n k (.inr (.inr (.inr (.inr (.inl e))))),h.la.keep fun k e=>n k (.inr (.inr (.inr (.inr (.inr e))))),h.apart⟩
theorem Own.has {w:World} {j:Nat} {S:Sv} {q:PS} (h:Own w j S q) {k:Nat} (n:S.has k):j≤k∧k<w.heap.size:=by
 rcases n with e|e|e|e|e|e
 ·exact⟨(h.rq.typed e).1,(h.rq.typed e).2.1⟩
 ·exact⟨(h.im.typed e).1,(h.im.typed e).2.1⟩
 ·exact⟨(h.ep.typed e).1,(h.ep.typed e).2.1⟩
 ·exact⟨(h.st.typed e).1,(h.st.typed e).2.1⟩
 ·exact⟨(h.ex.typed e).1,(h.ex.typed e).2.1⟩
 ·exact⟨(h.la.typed e).1,(h.la.typed e).2.1⟩
theorem Own.later {w n:World} {j:Nat} {S:Sv} {q:PS} (h:Own w j S q) (z:Below w.heap.size w n):Own n j S q:=h.keep fun k e=>z.block k (h.has e).2
theorem Own.other {w:World} {A:Nat} {S:Sv} {q:PS} (h:Own w A S q) {k:Nat} {D:Array Value} {e:TypeId} {z:Nat×Nat} (n:w.heap[k]? =some (.cells D e z)) (J:e≠9) (H:e≠84) (E:e≠86) (I:e≠107) (K:e≠109): ¬S.has k:=by
 rintro (g|g|g|g|g|g)
 ·obtain⟨_,_,c,j⟩:=h.rq.typed g
  rw[n] at j
  simp only[Option.some.injEq,Obj.cells.injEq] at j
  exact J j.2.1
 ·obtain⟨_,_,c,j⟩:=h.im.typed g
  rw[n] at j
  simp only[Option.some.injEq,Obj.cells.injEq] at j
  exact H j.2.1
 ·obtain⟨_,_,c,j⟩:=h.ep.typed g
  rw[n] at j
  simp only[Option.some.injEq,Obj.cells.injEq] at j
  exact E j.2.1
 ·obtain⟨_,_,c,j⟩:=h.st.typed g
  rw[n] at j
  simp only[Option.some.injEq,Obj.cells.injEq] at j
  exact I j.2.1
 ·obtain⟨_,_,c,j⟩:=h.ex.typed g
  rw[n] at j
  simp only[Option.some.injEq,Obj.cells.injEq] at j
  exact K j.2.1
 ·obtain⟨_,_,c,j⟩:=h.la.typed g
  rw[n] at j
  simp only[Option.some.injEq,Obj.cells.injEq] at j
  exact E j.2.1
structure Stp (S:Sv) (w:World) (S':Sv) (w':World):Prop where
 os:w'.os=w.os
 tape:w'.tape=w.tape
 output:w'.output=w.output
 size:w.heap.size≤w'.heap.size
 block: ∀k,k<w.heap.size→¬S.has k→w'.heap[k]? =w.heap[k]?
 sub: ∀k,S'.has k→S.has k∨w.heap.size≤k
theorem Stp.refl (S:Sv) (w:World):Stp S w S w:=⟨rfl,rfl,rfl,Nat.le_refl _,fun _ _ _=>rfl,fun _ h=>.inl h⟩
theorem Stp.trans {S z n:Sv} {w q A:World} (h:Stp S w z q) (k:Stp z q n A):Stp S w n A:=
 ⟨k.os.trans h.os,k.tape.trans h.tape,k.output.trans h.output,Nat.le_trans h.size k.size,
  fun i j D=>(k.block i (Nat.lt_of_lt_of_le j h.size) fun g=>(h.sub i g).elim D fun E=>by omega).trans (h.block i j D),
  fun i j=>(k.sub i j).elim (h.sub i) fun g=>.inr (Nat.le_trans h.size g)⟩
theorem Stp.below {S:Sv} {w j:World} (h:Below w.heap.size w j):Stp S w S j:=⟨h.os,h.tape,h.output,h.size,fun k n _=>h.block k n,fun _ g=>.inl g⟩
theorem Stp.under {S z:Sv} {w n:World} {j:Nat} {q:PS} (h:Stp S w z n) (E:j≤w.heap.size) (A:Own w j S q):Below j w n:=
 ⟨h.os,h.tape,h.output,h.size,fun k D=>h.block k (by omega) fun g=>by have:=(A.has g).1;omega⟩
theorem Stp.grown {S j:Sv} {w n:World} {row:Option Nat} (h:w.grownBy n row) (z: ∀k,row=some k→S.has k) (A: ∀k,j.has k→S.has k∨w.heap.size≤k):Stp S w j n:=
 ⟨h.os,h.tape,h.output,h.size,fun k q D=>h.block k q fun e=>D (z k e.symm),A⟩
structure Inv (C:Cx) (q:PS):Prop where
 pos:q.pos≤C.ts.length
 rq:q.rq.length≤40
 im:q.im.length≤40
 ep:q.ep.length+q.la.length≤40
 st:q.st.length≤80
 ex:q.ex.length≤300
structure Mem (C:Cx) (gt cap base:Nat) (S:Sv) (q:PS) (w:World):Prop where
 own:Own w base S q
 inv:Inv C q
 tok:OwnT w base 143 gt C.ts.length cap C.ts
 few:C.ts.length≤4000
 base:base≤w.heap.size
theorem Mem.later {C:Cx} {D n j:Nat} {S:Sv} {q:PS} {w A:World} (h:Mem C D n j S q w) (z:Below w.heap.size w A):Mem C D n j S q A:=
 ⟨h.own.later z,h.inv,zbK h.tok z,h.few,Nat.le_trans h.base z.size⟩
theorem Mem.alloc {C:Cx} {z n j:Nat} {S:Sv} {q:PS} {w:World} (h:Mem C z n j S q w) (o:Obj):Mem C z n j S q (w.alloc o):=h.later ((Below.refl _ _).alloc (Nat.le_refl _) _)
theorem Own.to {w:World} {j:Nat} {S:Sv} {q q':PS} (h:Own w j S q) (D:q'.rq=q.rq) (z:q'.im=q.im) (H:q'.ep=q.ep) (A:q'.st=q.st) (E:q'.ex=q.ex) (n:q'.la=q.la):Own w j S q':=
 ⟨by rw[D];exact h.rq,by rw[z];exact h.im,by rw[H];exact h.ep,by rw[A];exact h.st,by rw[E];exact h.ex,by rw[n];exact h.la,h.apart⟩
theorem Mem.adv {C:Cx} {z n j:Nat} {S:Sv} {q:PS} {w:World} (h:Mem C z n j S q w) (A:q.pos<C.ts.length):Mem C z n j S (adv q) w:=
 ⟨h.own.to rfl rfl rfl rfl rfl rfl,⟨A,h.inv.rq,h.inv.im,h.inv.ep,h.inv.st,h.inv.ex⟩,h.tok,h.few,h.base⟩
theorem OwnR.alloc {w:World} {j size n:Nat} {e:TypeId} {r:Rw} {xs:List Value} (h:OwnR w j e size r n xs) (o:Obj):OwnR (w.alloc o) j e size r n xs:=
 h.keep fun k q=>Below.heap_alloc w o k (h.typed q).2.1
theorem zeK {w:World} {q g n A:Nat} {e:TypeId} {E:List Tk} (h:OwnT w q e g n A E): ∃j,w.heap[g]? =some (.cells j e (0,0)):=by
 rcases h.1.2 with ⟨z,_⟩|⟨K,D,j,z,I,H,J,_⟩
 ·simp at z
 ·simp only[Value.slice.injEq,Option.some.injEq,Addr.mk.injEq,and_true,true_and] at z
  obtain⟨rfl,rfl⟩:=z
  exact⟨j,H⟩
theorem zbo {w D:World} {j g n z:Nat} {e:TypeId} {E:List Tk} (h:OwnT w j e g n z E) (J:D.heap[g]? =w.heap[g]?):OwnT D j e g n z E:=by
 refine⟨⟨h.1.1,?_⟩,h.2⟩
 rcases h.1.2 with k|⟨M,I,A,H,q,L,K⟩
 ·exact .inl k
 ·simp only[Value.slice.injEq,Option.some.injEq,Addr.mk.injEq,and_true,true_and] at H
  obtain⟨rfl,rfl⟩:=H
  exact .inr ⟨g,z,A,rfl,q,J.trans L,K⟩
theorem Mem.gt_free {C:Cx} {z n j:Nat} {S:Sv} {q:PS} {w:World} (h:Mem C z n j S q w): ¬S.has z:=by
 obtain⟨A,D⟩:=zeK h.tok
 exact h.own.other D (by decide) (by decide) (by decide) (by decide) (by decide)
structure Off (lo hi:Nat) (w w':World):Prop where
 os:w'.os=w.os
 tape:w'.tape=w.tape
 output:w'.output=w.output
 size:w.heap.size≤w'.heap.size
 block: ∀k,k<lo∨hi≤k∧k<w.heap.size→w'.heap[k]? =w.heap[k]?
theorem Off.refl (h j:Nat) (w:World):Off h j w w:=⟨rfl,rfl,rfl,Nat.le_refl _,fun _ _=>rfl⟩
theorem Off.set {n q:Nat} {w j:World} (h:Off n q w j) {b:Nat} (D:n≤b) (A:b<q) (i:Nat) (u:Value):Off n q w (j.setCell ⟨b,i,none⟩ u):=
 ⟨h.os,h.tape,h.output,by show _≤(j.heap.modify _ _).size;simp;exact h.size,fun k z=>(Below.heap_setCell j ⟨b,i,none⟩ u k (by show k≠b;omega)).trans (h.block k z)⟩
theorem Off.below {q A:Nat} {w n z:World} (h:Off q A w n) (j:Below n.heap.size n z) (E:q≤w.heap.size):Off q A w z:=
 ⟨j.os.trans h.os,j.tape.trans h.tape,j.output.trans h.output,Nat.le_trans h.size j.size,fun k D=>(j.block k (by have:=h.size;omega)).trans (h.block k D)⟩
theorem Off.set12 {z D:Nat} {a w:World} (h:Off z D a w) {b:Nat} (n:z≤b) (j:b<D) (E L H M I U K O J N q A:Value):
  Off z D a ((((((((((((w.setCell ⟨b,0,none⟩ E).setCell ⟨b,1,none⟩ L).setCell ⟨b,2,none⟩ H).setCell ⟨b,3,none⟩ M).setCell ⟨b,4,none⟩ I).setCell ⟨b,5,none⟩ U).setCell ⟨b,6,none⟩ K).setCell ⟨b,7,none⟩ O).setCell ⟨b,8,none⟩ J).setCell ⟨b,9,none⟩ N).setCell ⟨b,10,none⟩ q).setCell ⟨b,11,none⟩ A):=
 (((((((((((h.set n j _ _).set n j _ _).set n j _ _).set n j _ _).set n j _ _).set n j _ _).set n j _ _).set n j _ _).set n j _ _).set n j _ _).set n j _ _).set n j _ _
theorem zch {P:Program} (W:World) {M:Array Oper} {rest:List Oper} {o:Oper} {a:Act} {Q:Exit→Act→World→Prop} (O:o.guard=none) (s x:Operand) (t:TypeId)
  (ho:o.op= .call {callee:=.builtin .append,args:=#[s,x],argTypes:=#[t,t]})
  (A:Nat) (e:TypeId) (i:TypeInfo) (z:Value) (size q:Nat) (ht:P.underlying t=some (.slice e)) (hi:P.info? e=some i) (hz:i.zero=some z) (E:i.size=size) (V:i.bytes=q) (X:z.cells.size=size) (U:0<size) (L:q≤100)
  (r:Rw) (n:Nat) (xs:List Value) (hs:a.eval s= .slice r.a n r.cap) (I:OwnR W A e size r n xs)
  (N:Nat) (w:List Value) (hx:a.eval x= .slice (some ⟨N,0,none⟩) 1 1) (hg:W.heap[N]? =some (.cells w.toArray e (0,0))) (hl:w.length=size) (h1: ∀u∈w,u.oneCell'=true) (hn:n+1≤4000000) (H:A≤W.heap.size)
  (h: ∀J K,OwnR K A e size J (n+1) (xs++w)→W.grownBy K r.blk→(J.blk=r.blk∨J.blk=some W.heap.size)→wpList P M Q rest (a.put o.dst (.slice J.a (n+1) J.cap)) K):
  wpList P M Q (o::rest) a W:=by
 refine wpList_append_own_at _ O s x t ho A e i z size q ht hi hz E V X U _ n _ hs I ⟨N,0,none⟩ 1 1 w hx (by omega) ?_ h1 ?_ ?_ H ?_
 ·intro j u hj
  have:(⟨N,0,none⟩:Addr).add j=⟨N,j,none⟩:=by simp[Addr.add];exact fun h=>h.symm
  rw[this]
  simp[World.cell?,hg,hj]
 ·unfold maxLen;omega
 ·have:(n+1)*q≤4000000*100:=Nat.mul_le_mul hn L
  omega
 ·intro v' K Z k2 k3 k4
  rcases Z.2 with ⟨hv,ab⟩|⟨g',D,aa,rfl,Y⟩
  ·omega
  ·refine h ⟨some ⟨g',0,none⟩,D⟩ K Z ?_ ?_
   ·rw[←zbe r n];exact k2
   ·rw[←zbe r n,←zbe ⟨some ⟨g',0,none⟩,D⟩ (n+1)];exact k4
theorem Mem.grow_rq {C:Cx} {Y L D:Nat} {S:Sv} {q:PS} {w W U H:World} (j:Mem C Y L D S q w) (K:Below w.heap.size w W) (I:W.grownBy U S.rq.blk) {E:Rw} {x:ByteArray} (Z:OwnR U D 9 1 E (q.rq.length+1) (q.rq.map .string++[.string x])) (J:E.blk=S.rq.blk∨E.blk=some W.heap.size) (A:Off w.heap.size W.heap.size U H) (hn:q.rq.length<40):
  Mem C Y L D {S with rq:=E} {q with rq:=q.rq++[x]} H∧Stp S w {S with rq:=E} H:=by
 have X:=K.size
 have O:=I.size
 have n: ∀k,k<w.heap.size→S.rq.blk≠some k→H.heap[k]? =w.heap[k]?:=fun k z V=>
  (A.block k (.inl z)).trans ((I.block k (by omega) fun e=>V e.symm).trans (K.block k z))
 have N:OwnR H D 9 1 E (q.rq.length+1) (q.rq.map .string++[.string x]):=Z.keep fun k z=>A.block k (by
  rcases J with e|e
  ·rw[e] at z
   exact .inl (j.own.rq.typed z).2.1
  ·rw[e] at z
   obtain rfl:=Option.some.inj z
   exact .inr ⟨Nat.le_refl _,(Z.typed e).2.1⟩)
 have M:(q.rq++[x]).length=q.rq.length+1:=by simp
 refine⟨⟨⟨by show OwnR H D 9 1 E (q.rq++[x]).length _;rw[M];simpa using N,j.own.im.keep fun k z=>n k (j.own.im.typed z).2.1 (j.own.im.ne j.own.rq (by decide) z),j.own.ep.keep fun k z=>n k (j.own.ep.typed z).2.1 (j.own.ep.ne j.own.rq (by decide) z),j.own.st.keep fun k z=>n k (j.own.st.typed z).2.1 (j.own.st.ne j.own.rq (by decide) z),j.own.ex.keep fun k z=>n k (j.own.ex.typed z).2.1 (j.own.ex.ne j.own.rq (by decide) z),j.own.la.keep fun k z=>n k (j.own.la.typed z).2.1 (j.own.la.ne j.own.rq (by decide) z),j.own.apart⟩,⟨j.inv.pos,by simp;omega,j.inv.im,j.inv.ep,j.inv.st,j.inv.ex⟩,zbo j.tok (n Y (zaj j.tok).1 fun e=>j.gt_free (.inl e)),j.few,Nat.le_trans j.base (by have:=A.size;omega)⟩,?_⟩
 refine⟨A.os.trans (I.os.trans K.os),A.tape.trans (I.tape.trans K.tape),A.output.trans (I.output.trans K.output),Nat.le_trans (Nat.le_trans X O) A.size,fun k z hn=>n k z fun e=>hn (.inl e),fun k z=>?_⟩
 rcases z with h|h|h|h|h|h
 ·exact J.elim (fun e=>.inl (.inl (e.symm.trans h))) fun e=>.inr (by have:W.heap.size=k:=Option.some.inj (e.symm.trans h);omega)
 ·exact .inl (.inr (.inl h))
 ·exact .inl (.inr (.inr (.inl h)))
 ·exact .inl (.inr (.inr (.inr (.inl h))))
 ·exact .inl (.inr (.inr (.inr (.inr (.inl h)))))
 ·exact .inl (.inr (.inr (.inr (.inr (.inr h)))))
theorem Mem.grow_im {C:Cx} {Y L D:Nat} {S:Sv} {q:PS} {w W U H:World} (j:Mem C Y L D S q w) (K:Below w.heap.size w W) (I:W.grownBy U S.im.blk) {E:Rw} {x:Im} (Z:OwnR U D 84 3 E (q.im.length+1) (q.im.flatMap imL++imL x)) (J:E.blk=S.im.blk∨E.blk=some W.heap.size) (A:Off w.heap.size W.heap.size U H) (hn:q.im.length<40):
  Mem C Y L D {S with im:=E} {q with im:=q.im++[x]} H∧Stp S w {S with im:=E} H:=by
 have X:=K.size
 have O:=I.size
 have n: ∀k,k<w.heap.size→S.im.blk≠some k→H.heap[k]? =w.heap[k]?:=fun k z V=>
  (A.block k (.inl z)).trans ((I.block k (by omega) fun e=>V e.symm).trans (K.block k z))
 have N:OwnR H D 84 3 E (q.im.length+1) (q.im.flatMap imL++imL x):=Z.keep fun k z=>A.block k (by
  rcases J with e|e
  ·rw[e] at z
   exact .inl (j.own.im.typed z).2.1
  ·rw[e] at z
   obtain rfl:=Option.some.inj z
   exact .inr ⟨Nat.le_refl _,(Z.typed e).2.1⟩)
 have M:(q.im++[x]).length=q.im.length+1:=by simp
 refine⟨⟨⟨j.own.rq.keep fun k z=>n k (j.own.rq.typed z).2.1 (j.own.rq.ne j.own.im (by decide) z),by show OwnR H D 84 3 E (q.im++[x]).length _;rw[M];simpa using N,j.own.ep.keep fun k z=>n k (j.own.ep.typed z).2.1 (j.own.ep.ne j.own.im (by decide) z),j.own.st.keep fun k z=>n k (j.own.st.typed z).2.1 (j.own.st.ne j.own.im (by decide) z),j.own.ex.keep fun k z=>n k (j.own.ex.typed z).2.1 (j.own.ex.ne j.own.im (by decide) z),j.own.la.keep fun k z=>n k (j.own.la.typed z).2.1 (j.own.la.ne j.own.im (by decide) z),j.own.apart⟩,⟨j.inv.pos,j.inv.rq,by simp;omega,j.inv.ep,j.inv.st,j.inv.ex⟩,zbo j.tok (n Y (zaj j.tok).1 fun e=>j.gt_free (.inr (.inl e))),j.few,Nat.le_trans j.base (by have:=A.size;omega)⟩,?_⟩
 refine⟨A.os.trans (I.os.trans K.os),A.tape.trans (I.tape.trans K.tape),A.output.trans (I.output.trans K.output),Nat.le_trans (Nat.le_trans X O) A.size,fun k z hn=>n k z fun e=>hn (.inr (.inl e)),fun k z=>?_⟩
 rcases z with h|h|h|h|h|h
 ·exact .inl (.inl h)
 ·exact J.elim (fun e=>.inl (.inr (.inl (e.symm.trans h)))) fun e=>.inr (by have:W.heap.size=k:=Option.some.inj (e.symm.trans h);omega)
 ·exact .inl (.inr (.inr (.inl h)))
 ·exact .inl (.inr (.inr (.inr (.inl h))))
 ·exact .inl (.inr (.inr (.inr (.inr (.inl h)))))
 ·exact .inl (.inr (.inr (.inr (.inr (.inr h)))))
theorem Mem.grow_ep {C:Cx} {Y L D:Nat} {S:Sv} {q:PS} {w W U I:World} (j:Mem C Y L D S q w) (K:Below w.heap.size w W) (J:W.grownBy U S.ep.blk) {E:Rw} {x:Ep} (hr:OwnR U D 86 4 E (q.ep.length+1) (q.ep.flatMap epL++epL x)) (H:E.blk=S.ep.blk∨E.blk=some W.heap.size) (A:Off w.heap.size W.heap.size U I) (hn:q.ep.length+q.la.length<40):
  Mem C Y L D {S with ep:=E} {q with ep:=q.ep++[x]} I∧Stp S w {S with ep:=E} I:=by
 have X:=K.size
 have O:=J.size
 have n: ∀k,k<w.heap.size→S.ep.blk≠some k→I.heap[k]? =w.heap[k]?:=fun k z V=>
  (A.block k (.inl z)).trans ((J.block k (by omega) fun e=>V e.symm).trans (K.block k z))
 have N:OwnR I D 86 4 E (q.ep.length+1) (q.ep.flatMap epL++epL x):=hr.keep fun k z=>A.block k (by
  rcases H with e|e
  ·rw[e] at z
   exact .inl (j.own.ep.typed z).2.1
  ·rw[e] at z
   obtain rfl:=Option.some.inj z
   exact .inr ⟨Nat.le_refl _,(hr.typed e).2.1⟩)
 have M:(q.ep++[x]).length=q.ep.length+1:=by simp
 refine⟨⟨⟨j.own.rq.keep fun k z=>n k (j.own.rq.typed z).2.1 (j.own.rq.ne j.own.ep (by decide) z),j.own.im.keep fun k z=>n k (j.own.im.typed z).2.1 (j.own.im.ne j.own.ep (by decide) z),by show OwnR I D 86 4 E (q.ep++[x]).length _;rw[M];simpa using N,j.own.st.keep fun k z=>n k (j.own.st.typed z).2.1 (j.own.st.ne j.own.ep (by decide) z),j.own.ex.keep fun k z=>n k (j.own.ex.typed z).2.1 (j.own.ex.ne j.own.ep (by decide) z),j.own.la.keep fun k z=>n k (j.own.la.typed z).2.1 (fun e=>j.own.apart k e z),fun k z Z=>H.elim (fun e=>j.own.apart k (by rw[←e];exact z) Z) fun e=>by have h1:=(j.own.la.typed Z).2.1;have h2:W.heap.size=k:=Option.some.inj (e.symm.trans z);omega⟩,⟨j.inv.pos,j.inv.rq,j.inv.im,by have:=j.inv.ep;simp;omega,j.inv.st,j.inv.ex⟩,zbo j.tok (n Y (zaj j.tok).1 fun e=>j.gt_free (.inr (.inr (.inl e)))),j.few,Nat.le_trans j.base (by have:=A.size;omega)⟩,?_⟩
 refine⟨A.os.trans (J.os.trans K.os),A.tape.trans (J.tape.trans K.tape),A.output.trans (J.output.trans K.output),Nat.le_trans (Nat.le_trans X O) A.size,fun k z hn=>n k z fun e=>hn (.inr (.inr (.inl e))),fun k z=>?_⟩
 rcases z with h|h|h|h|h|h
 ·exact .inl (.inl h)
 ·exact .inl (.inr (.inl h))
 ·exact H.elim (fun e=>.inl (.inr (.inr (.inl (e.symm.trans h))))) fun e=>.inr (by have:W.heap.size=k:=Option.some.inj (e.symm.trans h);omega)
 ·exact .inl (.inr (.inr (.inr (.inl h))))
 ·exact .inl (.inr (.inr (.inr (.inr (.inl h)))))
 ·exact .inl (.inr (.inr (.inr (.inr (.inr h)))))
theorem Mem.grow_st {C:Cx} {Y L D:Nat} {S:Sv} {q:PS} {w W U H:World} (j:Mem C Y L D S q w) (K:Below w.heap.size w W) (I:W.grownBy U S.st.blk) {E:Rw} {x:Sm} (Z:OwnR U D 107 3 E (q.st.length+1) (q.st.flatMap smL++smL x)) (J:E.blk=S.st.blk∨E.blk=some W.heap.size) (A:Off w.heap.size W.heap.size U H) (hn:q.st.length<80):
  Mem C Y L D {S with st:=E} {q with st:=q.st++[x]} H∧Stp S w {S with st:=E} H:=by
 have X:=K.size
 have O:=I.size
 have n: ∀k,k<w.heap.size→S.st.blk≠some k→H.heap[k]? =w.heap[k]?:=fun k z V=>
  (A.block k (.inl z)).trans ((I.block k (by omega) fun e=>V e.symm).trans (K.block k z))
 have N:OwnR H D 107 3 E (q.st.length+1) (q.st.flatMap smL++smL x):=Z.keep fun k z=>A.block k (by
  rcases J with e|e
  ·rw[e] at z
   exact .inl (j.own.st.typed z).2.1
  ·rw[e] at z
   obtain rfl:=Option.some.inj z
   exact .inr ⟨Nat.le_refl _,(Z.typed e).2.1⟩)
 have M:(q.st++[x]).length=q.st.length+1:=by simp
 refine⟨⟨⟨j.own.rq.keep fun k z=>n k (j.own.rq.typed z).2.1 (j.own.rq.ne j.own.st (by decide) z),j.own.im.keep fun k z=>n k (j.own.im.typed z).2.1 (j.own.im.ne j.own.st (by decide) z),j.own.ep.keep fun k z=>n k (j.own.ep.typed z).2.1 (j.own.ep.ne j.own.st (by decide) z),by show OwnR H D 107 3 E (q.st++[x]).length _;rw[M];simpa using N,j.own.ex.keep fun k z=>n k (j.own.ex.typed z).2.1 (j.own.ex.ne j.own.st (by decide) z),j.own.la.keep fun k z=>n k (j.own.la.typed z).2.1 (j.own.la.ne j.own.st (by decide) z),j.own.apart⟩,⟨j.inv.pos,j.inv.rq,j.inv.im,j.inv.ep,by simp;omega,j.inv.ex⟩,zbo j.tok (n Y (zaj j.tok).1 fun e=>j.gt_free (.inr (.inr (.inr (.inl e))))),j.few,Nat.le_trans j.base (by have:=A.size;omega)⟩,?_⟩
 refine⟨A.os.trans (I.os.trans K.os),A.tape.trans (I.tape.trans K.tape),A.output.trans (I.output.trans K.output),Nat.le_trans (Nat.le_trans X O) A.size,fun k z hn=>n k z fun e=>hn (.inr (.inr (.inr (.inl e)))),fun k z=>?_⟩
 rcases z with h|h|h|h|h|h
 ·exact .inl (.inl h)
 ·exact .inl (.inr (.inl h))
 ·exact .inl (.inr (.inr (.inl h)))
 ·exact J.elim (fun e=>.inl (.inr (.inr (.inr (.inl (e.symm.trans h)))))) fun e=>.inr (by have:W.heap.size=k:=Option.some.inj (e.symm.trans h);omega)
 ·exact .inl (.inr (.inr (.inr (.inr (.inl h)))))
 ·exact .inl (.inr (.inr (.inr (.inr (.inr h)))))
theorem Mem.grow_ex {C:Cx} {Y L D:Nat} {S:Sv} {q:PS} {w W U H:World} (j:Mem C Y L D S q w) (K:Below w.heap.size w W) (I:W.grownBy U S.ex.blk) {E:Rw} {x:Ex} (Z:OwnR U D 109 6 E (q.ex.length+1) (q.ex.flatMap exL++exL x)) (J:E.blk=S.ex.blk∨E.blk=some W.heap.size) (A:Off w.heap.size W.heap.size U H) (hn:q.ex.length<300):
  Mem C Y L D {S with ex:=E} {q with ex:=q.ex++[x]} H∧Stp S w {S with ex:=E} H:=by
 have X:=K.size
 have O:=I.size
 have n: ∀k,k<w.heap.size→S.ex.blk≠some k→H.heap[k]? =w.heap[k]?:=fun k z V=>
  (A.block k (.inl z)).trans ((I.block k (by omega) fun e=>V e.symm).trans (K.block k z))
 have N:OwnR H D 109 6 E (q.ex.length+1) (q.ex.flatMap exL++exL x):=Z.keep fun k z=>A.block k (by
  rcases J with e|e
  ·rw[e] at z
   exact .inl (j.own.ex.typed z).2.1
  ·rw[e] at z
   obtain rfl:=Option.some.inj z
   exact .inr ⟨Nat.le_refl _,(Z.typed e).2.1⟩)
 have M:(q.ex++[x]).length=q.ex.length+1:=by simp
 refine⟨⟨⟨j.own.rq.keep fun k z=>n k (j.own.rq.typed z).2.1 (j.own.rq.ne j.own.ex (by decide) z),j.own.im.keep fun k z=>n k (j.own.im.typed z).2.1 (j.own.im.ne j.own.ex (by decide) z),j.own.ep.keep fun k z=>n k (j.own.ep.typed z).2.1 (j.own.ep.ne j.own.ex (by decide) z),j.own.st.keep fun k z=>n k (j.own.st.typed z).2.1 (j.own.st.ne j.own.ex (by decide) z),by show OwnR H D 109 6 E (q.ex++[x]).length _;rw[M];simpa using N,j.own.la.keep fun k z=>n k (j.own.la.typed z).2.1 (j.own.la.ne j.own.ex (by decide) z),j.own.apart⟩,⟨j.inv.pos,j.inv.rq,j.inv.im,j.inv.ep,j.inv.st,by simp;omega⟩,zbo j.tok (n Y (zaj j.tok).1 fun e=>j.gt_free (.inr (.inr (.inr (.inr (.inl e)))))),j.few,Nat.le_trans j.base (by have:=A.size;omega)⟩,?_⟩
 refine⟨A.os.trans (I.os.trans K.os),A.tape.trans (I.tape.trans K.tape),A.output.trans (I.output.trans K.output),Nat.le_trans (Nat.le_trans X O) A.size,fun k z hn=>n k z fun e=>hn (.inr (.inr (.inr (.inr (.inl e))))),fun k z=>?_⟩
 rcases z with h|h|h|h|h|h
 ·exact .inl (.inl h)
 ·exact .inl (.inr (.inl h))
 ·exact .inl (.inr (.inr (.inl h)))
 ·exact .inl (.inr (.inr (.inr (.inl h))))
 ·exact J.elim (fun e=>.inl (.inr (.inr (.inr (.inr (.inl (e.symm.trans h))))))) fun e=>.inr (by have:W.heap.size=k:=Option.some.inj (e.symm.trans h);omega)
 ·exact .inl (.inr (.inr (.inr (.inr (.inr h)))))
theorem Mem.grow_la {C:Cx} {Y L D:Nat} {S:Sv} {q:PS} {w W U I:World} (j:Mem C Y L D S q w) (K:Below w.heap.size w W) (J:W.grownBy U S.la.blk) {E:Rw} {x:Ep} (hr:OwnR U D 86 4 E (q.la.length+1) (q.la.flatMap epL++epL x)) (H:E.blk=S.la.blk∨E.blk=some W.heap.size) (A:Off w.heap.size W.heap.size U I) (hn:q.ep.length+q.la.length<40):
  Mem C Y L D {S with la:=E} {q with la:=q.la++[x]} I∧Stp S w {S with la:=E} I:=by
 have X:=K.size
 have O:=J.size
 have n: ∀k,k<w.heap.size→S.la.blk≠some k→I.heap[k]? =w.heap[k]?:=fun k z V=>
  (A.block k (.inl z)).trans ((J.block k (by omega) fun e=>V e.symm).trans (K.block k z))
 have N:OwnR I D 86 4 E (q.la.length+1) (q.la.flatMap epL++epL x):=hr.keep fun k z=>A.block k (by
  rcases H with e|e
  ·rw[e] at z
   exact .inl (j.own.la.typed z).2.1
  ·rw[e] at z
   obtain rfl:=Option.some.inj z
   exact .inr ⟨Nat.le_refl _,(hr.typed e).2.1⟩)
 have M:(q.la++[x]).length=q.la.length+1:=by simp
 refine⟨⟨⟨j.own.rq.keep fun k z=>n k (j.own.rq.typed z).2.1 (j.own.rq.ne j.own.la (by decide) z),j.own.im.keep fun k z=>n k (j.own.im.typed z).2.1 (j.own.im.ne j.own.la (by decide) z),j.own.ep.keep fun k z=>n k (j.own.ep.typed z).2.1 (fun e=>j.own.apart k z e),j.own.st.keep fun k z=>n k (j.own.st.typed z).2.1 (j.own.st.ne j.own.la (by decide) z),j.own.ex.keep fun k z=>n k (j.own.ex.typed z).2.1 (j.own.ex.ne j.own.la (by decide) z),by show OwnR I D 86 4 E (q.la++[x]).length _;rw[M];simpa using N,fun k z Z=>H.elim (fun e=>j.own.apart k z (by rw[←e];exact Z)) fun e=>by have h1:=(j.own.ep.typed z).2.1;have h2:W.heap.size=k:=Option.some.inj (e.symm.trans Z);omega⟩,⟨j.inv.pos,j.inv.rq,j.inv.im,by have:=j.inv.ep;simp;omega,j.inv.st,j.inv.ex⟩,zbo j.tok (n Y (zaj j.tok).1 fun e=>j.gt_free (.inr (.inr (.inr (.inr (.inr e)))))),j.few,Nat.le_trans j.base (by have:=A.size;omega)⟩,?_⟩
 refine⟨A.os.trans (J.os.trans K.os),A.tape.trans (J.tape.trans K.tape),A.output.trans (J.output.trans K.output),Nat.le_trans (Nat.le_trans X O) A.size,fun k z hn=>n k z fun e=>hn (.inr (.inr (.inr (.inr (.inr e))))),fun k z=>?_⟩
 rcases z with h|h|h|h|h|h
 ·exact .inl (.inl h)
 ·exact .inl (.inr (.inl h))
 ·exact .inl (.inr (.inr (.inl h)))
 ·exact .inl (.inr (.inr (.inr (.inl h))))
 ·exact .inl (.inr (.inr (.inr (.inr (.inl h)))))
 ·exact H.elim (fun e=>.inl (.inr (.inr (.inr (.inr (.inr (e.symm.trans h))))))) fun e=>.inr (by have:W.heap.size=k:=Option.some.inj (e.symm.trans h);omega)
abbrev PRN:=Except Nat (PS×ByteArray)
def zaE (y:PRN):PR:=bd y fun a=>.ok a.1
def withN (y:PRN) (F:PR→ByteArray→PR):PRN:=bd y fun a=>bd (F (.ok a.1) a.2) fun q=>.ok (q,a.2)
def zci (C:Cx) (q:PS):PRN:=withN (bd (zd C 1 zA q) (zh C false)) fun x n=>bd (bd (bd (bd x (zd C 4 cEq)) (pE C .sum 0)) (zd C 4 cSemi)) (zV C 1 n)
def fnP (C:Cx) (q:PS):PRN:=
 withN (bd (zd C 1 zN q) (zh C false)) fun x n=>bd (bd (bd (bd (bd (bd (bd (bd x (zd C 4 zm)) (zd C 4 zaw)) (zd C 4 zF)) (zd C 1 zd4)) (pE C .sum 0)) (zd C 4 cSemi)) (zd C 4 zbb)) (zV C 2 n)
def asP (C:Cx) (exp:Bool) (a:PS×ByteArray):PRN:=
 if isT C a.1.pos 1 sAs then zh C exp (adv a.1)
 else if (a.2.toList==[100,101,102,97,117,108,116])&& !exp then .error (zp C a.1.pos) else .ok a
abbrev PRL:=Except Nat (PS×List Ep)
def zcH (C:Cx) (exp:Bool):Nat→PS→List Ep→PRL
 |0,_,_=>.error 0
 |f+1,q,acc=>bd (zh C true q) fun a=>bd (asP C exp a) fun b=>
  if isT C b.1.pos 4 zbl then zcH C exp f (adv b.1) (acc++[⟨0,b.2,a.2,sNone⟩]) else bd (zd C 4 zbb b.1) fun q'=>.ok (q',acc++[⟨0,b.2,a.2,sNone⟩])
def zat (C:Cx) (exp:Bool) (q:PS) (acc:List Ep):PRL:=zcH C exp (C.ts.length-q.pos+1) q acc
def zcw (C:Cx) (exp:Bool) (q:PS):PRL:=bd (zd C 4 zF q) fun q'=>zat C exp q' []
def za4 (l:List Ep):Bool:=l.any fun x=>x.loc.toList==[100,101,102,97,117,108,116]
theorem zeg {C:Cx} {j:Bool} {a b:PS×ByteArray} (h:asP C j a= .ok b):a.1.pos≤b.1.pos:=by
 unfold asP at h
 split at h
 ·obtain⟨rfl,_⟩:=zbc h
  show a.1.pos≤a.1.pos+1+1
  omega
 ·split at h
  ·cases h
  ·cases h
   exact Nat.le_refl _
theorem zjY {C:Cx} {j:Bool} (f:Nat): ∀(g:Nat) (q:PS) (acc:List Ep),C.ts.length-q.pos<f→C.ts.length-q.pos<g→zcH C j f q acc=zcH C j g q acc:=by
 induction f with
 |zero=>intro g q acc h;omega
 |succ f w=>
  intro g q acc K I
  obtain⟨g,rfl⟩: ∃E,g=E+1:=⟨g-1,by omega⟩
  rw[zcH,zcH]
  refine zX fun a z=>zX fun b D=>?_
  split
  ·next H=>
   obtain⟨rfl,n⟩:=zbc z
   have A:=zeg D
   have J:=zax H (by decide)
   have L:=zea n
   simp only[zw] at A
   exact w g _ _ (by rw[zw];omega) (by rw[zw];omega)
  ·rfl
theorem zeL (C:Cx) (h:Bool) (q:PS) (acc:List Ep):zat C h q acc=bd (zh C true q) fun a=>bd (asP C h a) fun b=>
  if isT C b.1.pos 4 zbl then zat C h (adv b.1) (acc++[⟨0,b.2,a.2,sNone⟩]) else bd (zd C 4 zbb b.1) fun q'=>.ok (q',acc++[⟨0,b.2,a.2,sNone⟩]):=by
 rw[zat,zcH]
 refine zX fun a n=>zX fun b z=>?_
 split
 ·next A=>
  obtain⟨rfl,j⟩:=zbc n
  have w:=zeg z
  have D:=zax A (by decide)
  have E:=zea j
  simp only[zw] at w
  exact zjY _ _ _ _ (by rw[zw];omega) (by rw[zw];omega)
 ·rfl
def zQ {α:Type} (f:α→PS→PR):List α→PR→PR
 |[],x=>x
 |a::l,x=>zQ f l (bd x (f a))
def zb4 (s:ByteArray) (e:Ep):Im:=⟨s,e.loc,e.name⟩
def za8 (C:Cx) (x:PR):PRN:=bd (bd x (zd C 1 zO)) (zG C)
def zaN (C:Cx) (y:PRN):PRN:=bd y fun a=>bd (zd C 4 cSemi a.1) fun q=>.ok (q,a.2)
def zaH (C:Cx) (q:PS):PR:=
 bd (zd C 1 zad q) fun q=>
  if isT C q.pos 4 zF then bd (zcw C false q) fun a=>bd (zaN C (za8 C (.ok a.1))) fun b=>zQ (fun e=>zan C (zb4 b.2 e)) a.2 (.ok b.1)
  else if isT C q.pos 4 zv then bd (bd (bd (zd C 4 zv q) (zd C 1 sAs)) (zh C false)) fun a=>bd (zaN C (za8 C (.ok a.1))) fun b=>zan C ⟨b.2,zv,a.2⟩ b.1
  else if zB C q.pos false then bd (zh C false q) fun a=>bd (zaN C (za8 C (.ok a.1))) fun b=>zan C ⟨b.2,sDefault,a.2⟩ b.1
  else bd (zG C q) fun a=>zd C 4 cSemi a.1
def zz (e:Ep):Ep:=⟨1,e.name,e.loc,sNone⟩
def zak (s:ByteArray) (e:Ep):Ep:=⟨2,e.name,e.loc,s⟩
def zae (C:Cx) (q:PS):PR:=
 bd (zd C 1 zab q) fun q=>
  if isT C q.pos 4 zF then bd (zcw C true q) fun a=>
   if !za4 a.2&& !isT C a.1.pos 1 zO then bd (zd C 4 cSemi a.1) fun q=>zQ (fun e=>zn C (zz e)) a.2 (.ok q)
   else bd (zaN C (za8 C (.ok a.1))) fun b=>zQ (fun e=>zn C (zak b.2 e)) a.2 (.ok b.1)
  else if isT C q.pos 4 zv then bd (zaN C (za8 C (zd C 4 zv q))) fun b=>zn C ⟨3,sNone,sNone,b.2⟩ b.1
  else if isT C q.pos 1 sDefault then bd (bd (bd (bd (zd C 1 sDefault q) (pE C .sum 0)) (zd C 4 cSemi)) (zV C 1 zbC)) (zn C ⟨1,sDefault,zbC,sNone⟩)
  else if isT C q.pos 1 zA then bd (zci C q) fun a=>zn C ⟨1,a.2,a.2,sNone⟩ a.1
  else if isT C q.pos 1 zN then bd (fnP C q) fun a=>zn C ⟨1,a.2,a.2,sNone⟩ a.1
  else .error (zp C q.pos)
def zy (C:Cx) (q:PS):PR:=
 if !C.scr&&isT C q.pos 1 zad then zaH C q
 else if !C.scr&&isT C q.pos 1 zab then zae C q
 else if isT C q.pos 1 zA then zaE (zci C q)
 else if isT C q.pos 1 zN then zaE (fnP C q)
 else if isT C q.pos 1 zao then bd (bd (bd (bd (bd (zd C 1 zao q) (zd C 4 zm)) (pE C .sum 0)) (zd C 4 zaw)) (zd C 4 cSemi)) (zV C 4 sNone)
 else if isT C q.pos 1 zaz then bd (bd (bd (zd C 1 zaz q) (pE C .sum 0)) (zd C 4 cSemi)) (zV C 5 sNone)
 else if C.scr&&isT C q.pos 1 zbv then bd (bd (bd (zd C 1 zbv q) (pE C .sum 0)) (zd C 4 cSemi)) (zV C 6 sNone)
 else bd (zh C false q) fun a=>bd (bd (bd (zd C 4 cEq a.1) (pE C .sum 0)) (zd C 4 cSemi)) (zV C 3 a.2)
theorem zau {C:Cx} {k:Int} {s:ByteArray} {q q':PS} (h:zd C k s q= .ok q'):q.pos+1=q'.pos:=by
 obtain⟨rfl,_⟩:=zbx h
 rfl
theorem zd9 {C:Cx} {o:Bool} {q:PS} {a:PS×ByteArray} (h:zh C o q= .ok a):q.pos+1=a.1.pos:=by
 obtain⟨rfl,_⟩:=zbc h
 rfl
theorem zgL {C:Cx} {q:PS} {a:PS×ByteArray} (h:zG C q= .ok a):q.pos+1=a.1.pos:=by
 unfold zG at h
 split at h
 ·split at h
  ·cases h;rfl
  ·split at h
   ·cases h
   ·cases h;rfl
 ·cases h
theorem zdA {C:Cx} {k:Int} {n:ByteArray} {q q':PS} (h:zV C k n q= .ok q'):q.pos=q'.pos:=by
 unfold zV at h
 split at h
 ·cases h
 ·cases h;rfl
theorem zfE {C:Cx} {y:Im} {q q':PS} (h:zan C y q= .ok q'):q.pos=q'.pos:=by
 unfold zan at h
 split at h
 ·cases h
 ·cases h;rfl
theorem zdB {C:Cx} {y:Ep} {q q':PS} (h:zn C y q= .ok q'):q.pos=q'.pos:=by
 unfold zn at h
 split at h
 ·cases h
 ·split at h
  ·cases h;rfl
  ·cases h;rfl
theorem zfF {α:Type} {f:α→PS→PR} (j: ∀a q q',f a q= .ok q'→q.pos=q'.pos) (l:List α): ∀(x:PR) (q':PS),zQ f l x= .ok q'→∃q,x= .ok q∧q.pos=q'.pos:=by
 induction l with
 |nil=>intro x q' h;exact⟨q',h,rfl⟩
 |cons a l n=>
  intro x q' h
  obtain⟨b,A,w⟩:=n _ _ h
  obtain⟨c,D,z⟩:=zj A
  exact⟨c,D,(j _ _ _ z).trans w⟩
theorem zgM {C:Cx} {n:Bool} (m:Nat): ∀(q:PS) (acc:List Ep) (a:PS×List Ep),C.ts.length-q.pos<m→zat C n q acc= .ok a→q.pos≤a.1.pos:=by
 induction m with
 |zero=>intro q acc a h;omega
 |succ m A=>
  intro q acc a K h
  rw[zeL] at h
  obtain⟨b,E,D⟩:=zj h
  obtain⟨c,I,j⟩:=zj D
  have L:=zd9 E
  have M:=zeg I
  split at j
  ·next J=>
   have z:=zax J (by decide)
   have:=A _ _ _ (by rw[zw];omega) j
   rw[zw] at this
   omega
  ·obtain⟨d,H,w⟩:=zj j
   have z:=zau H
   cases w
   show q.pos≤d.pos
   omega
theorem zeh {C:Cx} {x:PR} {b:PS×ByteArray} (h:zaN C (za8 C x)= .ok b): ∃q,x= .ok q∧q.pos≤b.1.pos:=by
 obtain⟨a,A,w⟩:=zj h
 obtain⟨c,H,z⟩:=zj w
 obtain⟨d,E,j⟩:=zj A
 obtain⟨e,D,n⟩:=zj E
 have I:=zau H
 have K:=zgL j
 have J:=zau n
 cases z
 exact⟨e,D,by show e.pos≤c.pos;omega⟩
theorem zjZ {C:Cx} {q q':PS} (h:zaH C q= .ok q'):q.pos<q'.pos:=by
 obtain⟨X,N,n⟩:=zj h
 have U:=zau N
 split at n
 ·obtain⟨a,z,w⟩:=zj n
  obtain⟨b,H,A⟩:=zj w
  obtain⟨c,L,J⟩:=zj z
  obtain⟨d,I,D⟩:=zeh H
  obtain⟨f,j,E⟩:=zfF (fun _ _ _ h=>zfE h) _ _ _ A
  have M:=zau L
  have K:=zgM _ _ _ _ (Nat.lt_succ_self _) J
  cases I
  cases j
  omega
 ·split at n
  ·obtain⟨a,z,w⟩:=zj n
   obtain⟨b,H,A⟩:=zj w
   obtain⟨c,L,J⟩:=zj z
   obtain⟨d,I,D⟩:=zj L
   obtain⟨f,j,E⟩:=zeh H
   have M:=zfE A
   have K:=zd9 J
   have V:=zau I
   have O:=zau D
   cases j
   omega
  ·split at n
   ·obtain⟨a,z,w⟩:=zj n
    obtain⟨b,H,A⟩:=zj w
    obtain⟨f,j,E⟩:=zeh H
    have M:=zfE A
    have K:=zd9 z
    cases j
    omega
   ·obtain⟨a,z,w⟩:=zj n
    have M:=zgL z
    have K:=zau w
    omega
theorem zgN {y:PRN} {F:PR→ByteArray→PR} {a:PS×ByteArray} (h:withN y F= .ok a): ∃b,y= .ok b∧F (.ok b.1) b.2= .ok a.1:=by
 obtain⟨b,j,n⟩:=zj h
 obtain⟨c,w,q⟩:=zj n
 cases q
 exact⟨b,j,w⟩
theorem zgO {C:Cx} {q:PS} {a:PS×ByteArray} (h:zci C q= .ok a):q.pos<a.1.pos:=by
 obtain⟨b,E,A⟩:=zgN h
 obtain⟨c,J,D⟩:=zj E
 obtain⟨d,I,n⟩:=zj A
 obtain⟨f,H,z⟩:=zj I
 obtain⟨g,w,j⟩:=zj H
 have L:=zau J
 have U:=zd9 D
 have M:=zau (show zd C 4 cEq b.1= .ok g from w)
 have O:=zaM j
 have K:=zau z
 have N:=zdA n
 omega
theorem zgP {C:Cx} {q:PS} {a:PS×ByteArray} (h:fnP C q= .ok a):q.pos<a.1.pos:=by
 obtain⟨b,M,K⟩:=zgN h
 obtain⟨c,X,L⟩:=zj M
 obtain⟨d,O,Y⟩:=zj K
 obtain⟨f,N,V⟩:=zj O
 obtain⟨g,Z,A⟩:=zj N
 obtain⟨i,H,D⟩:=zj Z
 obtain⟨j,n,w⟩:=zj H
 obtain⟨k,E,I⟩:=zj n
 obtain⟨l,z,J⟩:=zj E
 have e1:=zau X
 have e2:=zd9 L
 have e3:=zau (show zd C 4 zm b.1= .ok l from z)
 have e4:=zau J
 have e5:=zau I
 have e6:=zau w
 have e7:=zaM D
 have e8:=zau A
 have e9:=zau V
 have U:=zdA Y
 omega
theorem zka {C:Cx} {q q':PS} (h:zae C q= .ok q'):q.pos<q'.pos:=by
 obtain⟨X,N,j⟩:=zj h
 have Y:=zau N
 split at j
 ·obtain⟨a,D,n⟩:=zj j
  obtain⟨c,L,M⟩:=zj D
  have I:=zau L
  have J:=zgM _ _ _ _ (Nat.lt_succ_self _) M
  split at n
  ·obtain⟨b,z,E⟩:=zj n
   obtain⟨f,A,K⟩:=zfF (fun _ _ _ h=>zdB h) _ _ _ E
   have O:=zau z
   cases A
   omega
  ·obtain⟨b,z,E⟩:=zj n
   obtain⟨d,H,w⟩:=zeh z
   obtain⟨f,A,K⟩:=zfF (fun _ _ _ h=>zdB h) _ _ _ E
   cases H
   cases A
   omega
 ·split at j
  ·obtain⟨b,z,E⟩:=zj j
   obtain⟨d,H,w⟩:=zeh z
   have I:=zau H
   have J:=zdB E
   omega
  ·split at j
   ·obtain⟨a,D,n⟩:=zj j
    obtain⟨b,z,E⟩:=zj D
    obtain⟨c,L,M⟩:=zj z
    obtain⟨d,H,w⟩:=zj L
    have I:=zau H
    have J:=zaM w
    have O:=zau M
    have U:=zdA E
    have V:=zdB n
    omega
   ·split at j
    ·obtain⟨a,D,n⟩:=zj j
     have I:=zgO D
     have J:=zdB n
     omega
    ·split at j
     ·obtain⟨a,D,n⟩:=zj j
      have I:=zgP D
      have J:=zdB n
      omega
     ·cases j
theorem zgQ {C:Cx} {s:ByteArray} {k:Int} {n:ByteArray} {q q':PS} (h:bd (bd (bd (zd C 1 s q) (pE C .sum 0)) (zd C 4 cSemi)) (zV C k n)= .ok q'):q.pos<q'.pos:=by
 obtain⟨a,A,w⟩:=zj h
 obtain⟨b,E,z⟩:=zj A
 obtain⟨c,D,j⟩:=zj E
 have H:=zau D
 have K:=zaM j
 have I:=zau z
 have J:=zdA w
 omega
theorem zeM {C:Cx} {q q':PS} (h:zy C q= .ok q'):q.pos<q'.pos:=by
 unfold zy at h
 split at h
 ·exact zjZ h
 ·split at h
  ·exact zka h
  ·split at h
   ·obtain⟨a,n,j⟩:=zj h
    cases j
    exact zgO n
   ·split at h
    ·obtain⟨a,n,j⟩:=zj h
     cases j
     exact zgP n
    ·split at h
     ·obtain⟨a,n,j⟩:=zj h
      obtain⟨b,I,D⟩:=zj n
      obtain⟨c,H,w⟩:=zj I
      obtain⟨d,E,z⟩:=zj H
      obtain⟨e,K,A⟩:=zj E
      have L:=zau K
      have O:=zau A
      have M:=zaM z
      have N:=zau w
      have J:=zau D
      have U:=zdA j
      omega
     ·split at h
      ·exact zgQ h
      ·split at h
       ·exact zgQ h
       ·obtain⟨a,n,j⟩:=zj h
        obtain⟨b,I,D⟩:=zj j
        obtain⟨c,H,w⟩:=zj I
        obtain⟨d,E,z⟩:=zj H
        have L:=zd9 n
        have O:=zau E
        have M:=zaM z
        have N:=zau w
        have J:=zdA D
        omega
def zcI (C:Cx):Nat→PS→PR
 |0,_=>.error 0
 |f+1,q=>if q.pos<C.ts.length then bd (zy C q) (zcI C f) else .ok q
def zap (C:Cx) (q:PS):PR:=zcI C (C.ts.length-q.pos+1) q
theorem zkb {C:Cx} (f:Nat): ∀(g:Nat) (q:PS),C.ts.length-q.pos<f→C.ts.length-q.pos<g→zcI C f q=zcI C g q:=by
 induction f with
 |zero=>intro g q h;omega
 |succ f j=>
  intro g q A z
  obtain⟨g,rfl⟩: ∃w,g=w+1:=⟨g-1,by omega⟩
  rw[zcI,zcI]
  split
  ·refine zX fun a n=>?_
   have:=zeM n
   exact j g a (by omega) (by omega)
  ·rfl
theorem zeN (C:Cx) (q:PS):zap C q=if q.pos<C.ts.length then bd (zy C q) (zap C) else .ok q:=by
 rw[zap,zcI]
 split
 ·refine zX fun a h=>?_
  have:=zeM h
  exact zkb _ _ _ (by omega) (by omega)
 ·rfl
def zb0:PS:=⟨0,[],[],[],[],[],[]⟩
def zb1 (s:ByteArray) (scr:Bool) (y:PR):Prop:=∃r,zaa s scr r∧y=match r with
 | .error p=>.error p
 | .ok ts=>zap ⟨ts,s.size,scr⟩ zb0
theorem zgR {s:ByteArray} {h:Bool} {j n:PR} (A:zb1 s h j) (q:zb1 s h n):j=n:=by
 obtain⟨E,w,rfl⟩:=A
 obtain⟨D,z,rfl⟩:=q
 obtain rfl:=zjH w z
 rfl
theorem zkc {s:ByteArray} {z:Bool} {a n:Nat} {r:Except Nat (List Tk)} (h:Lx s z a n r): ∀q,r= .ok q→n≤4000→q.length+n≤4000:=by
 induction h using Lx.ind with
 |done=>intro q w A;cases w;simpa using A
 |bad _ _=>intro q w A;cases w
 | @tok a n e b t r h A E H w D=>
  intro q j _
  cases r with
  |error p=>simp[Except.map] at j
  |ok l=>
   simp only[Except.map,Except.ok.injEq] at j
   subst j
   have:=D l rfl (by omega)
   simp only[List.length_cons]
   omega
theorem zgS {s:ByteArray} {n:Bool} {j:List Tk} (h:zaa s n (.ok j)):j.length≤4000:=by
 obtain⟨a,_,q⟩:=h
 have:=zkc q j rfl (by omega)
 omega
def R0:Rw:=⟨none,0⟩
def S0:Sv:=⟨R0,R0,R0,R0,R0,R0⟩
theorem zcj (w:World) (h size:Nat) (e:TypeId):OwnR w h e size R0 0 []:=World.ownsRow_nil w h e size
theorem zkd (w:World) (j:Nat):Own w j S0 zb0:=
 ⟨zcj _ _ _ _,zcj _ _ _ _,zcj _ _ _ _,zcj _ _ _ _,zcj _ _ _ _,zcj _ _ _ _,fun k h=>by simp[S0,R0,Rw.blk,Value.ownBlock] at h⟩
theorem zgT {w:World} {j g q:Nat} {z:List Tk} {n:Nat} {A:Bool} (h:OwnT w j 143 g z.length q z) (D:z.length≤4000) (E:j≤w.heap.size):Mem ⟨z,n,A⟩ g q j S0 zb0 w:=
 ⟨zkd _ _,⟨Nat.zero_le _,Nat.zero_le _,Nat.zero_le _,Nat.zero_le _,Nat.zero_le _,Nat.zero_le _⟩,h,D,E⟩
structure OwnMod (w:World) (base:Nat) (S:Sv) (q:PS):Prop where
 rq:OwnR w base 9 1 S.rq q.rq.length (q.rq.map .string)
 im:OwnR w base 84 3 S.im q.im.length (q.im.flatMap imL)
 ep:OwnR w base 86 4 S.ep (q.ep++q.la).length ((q.ep++q.la).flatMap epL)
 st:OwnR w base 107 3 S.st q.st.length (q.st.flatMap smL)
 ex:OwnR w base 109 6 S.ex q.ex.length (q.ex.flatMap exL)
 inv:q.rq.length≤40∧q.im.length≤40∧q.ep.length+q.la.length≤40∧q.st.length≤80∧q.ex.length≤300
def zeO (S:Sv) (q:PS):Value:=.agg #[.slice S.rq.a q.rq.length S.rq.cap,.slice S.im.a q.im.length S.im.cap,.slice S.ep.a (q.ep++q.la).length S.ep.cap,.slice S.st.a q.st.length S.st.cap,.slice S.ex.a q.ex.length S.ex.cap]
def ParseOut (s:ByteArray) (scr:Bool) (w:World) (e:Ending) (w':World):Prop:=
 ∃y,zb1 s scr y∧match y with
  | .ok q=>∃S,e= .returned (.tuple #[zeO S q,.int .i64 (-1)])∧OwnMod w' w.heap.size S q
  | .error p=>e= .returned (.tuple #[.agg #[.slice none 0 0,.slice none 0 0,.slice none 0 0,.slice none 0 0,.slice none 0 0],.int .i64 p])
theorem OwnR.low {w:World} {q j size n:Nat} {e:TypeId} {r:Rw} {xs:List Value} (h:OwnR w q e size r n xs) (H:j≤q):OwnR w j e size r n xs:=by
 refine⟨h.1,?_⟩
 rcases h.2 with A|⟨g,D,z,A,E,rest⟩
 ·exact .inl A
 ·exact .inr ⟨g,D,z,A,Nat.le_trans H E,rest⟩
theorem OwnR.nil_or {w:World} {q size n:Nat} {e:TypeId} {r:Rw} {xs:List Value} (h:OwnR w q e size r n xs):(r.a=none∧r.cap=0∧n=0)∨∃g,r.a=some ⟨g,0,none⟩:=by
 rcases h.2 with ⟨j,D⟩|⟨g,A,z,j,_⟩
 ·simp only[Value.slice.injEq] at j
  exact .inl ⟨j.1,j.2.2,D⟩
 ·simp only[Value.slice.injEq] at j
  exact .inr ⟨g,j.1⟩
theorem zke {P:Program} (W:World) {N:Array Oper} {rest:List Oper} {o:Oper} {a:Act} {Q:Exit→Act→World→Prop} (X:o.guard=none) (s x:Operand) (t:TypeId)
  (ho:o.op= .call {callee:=.builtin .append,args:=#[s,x],argTypes:=#[t,t]})
  (A:Nat) (e:TypeId) (i:TypeInfo) (z:Value) (size q:Nat) (ht:P.underlying t=some (.slice e)) (hi:P.info? e=some i) (hz:i.zero=some z) (E:i.size=size) (ab:i.bytes=q) (ac:z.cells.size=size) (aa:0<size) (M:q≤100)
  (r:Rw) (n:Nat) (xs:List Value) (hs:a.eval s= .slice r.a n r.cap) (K:OwnR W A e size r n xs)
  (O m c I:Nat) (w:List Value) (hx:a.eval x= .slice (some ⟨O,0,none⟩) m c) (Z:OwnR W I e size ⟨some ⟨O,0,none⟩,c⟩ m w) (h1: ∀u∈w,u.oneCell'=true) (hn:n+m≤4000000) (H:A≤W.heap.size)
  (h: ∀L J,OwnR J A e size L (n+m) (xs++w)→W.grownBy J r.blk→(L.blk=r.blk∨L.blk=some W.heap.size)→wpList P N Q rest (a.put o.dst (.slice L.a (n+m:Nat) L.cap)) J):
  wpList P N Q (o::rest) a W:=by
 refine wpList_append_own_at _ X s x t ho A e i z size q ht hi hz E ab ac aa _ n _ hs K ⟨O,0,none⟩ m c w hx Z.1 ?_ h1 ?_ ?_ H ?_
 ·intro j u hj
  have e1:(⟨O,0,none⟩:Addr).add j=⟨O,j,none⟩:=by simp[Addr.add];exact fun h=>h.symm
  have Y:j<w.length:=(List.getElem?_eq_some_iff.1 hj).1
  rw[e1,World.ownsRow.cellAt Z j (by rw[←Z.1];exact Y)]
  exact hj
 ·unfold maxLen;omega
 ·have:(n+m)*q≤4000000*100:=Nat.mul_le_mul hn M
  omega
 ·intro v' J V k2 k3 k4
  rcases V.2 with ⟨hv,U⟩|⟨g',D,ae,rfl,ad⟩
  ·subst hv
   have:=h ⟨none,0⟩ J (by rw[U] at V ⊢;exact V) (by rw[←zbe r n];exact k2) (by rw[←zbe r n];exact k4)
   rw[U] at this
   exact this
  ·refine h ⟨some ⟨g',0,none⟩,D⟩ J V ?_ ?_
   ·rw[←zbe r n];exact k2
   ·rw[←zbe r n,←zbe ⟨some ⟨g',0,none⟩,D⟩ (n+m)];exact k4
theorem zkf {P:Program} (W:World) {q:Array Oper} {rest:List Oper} {o:Oper} {a:Act} {Q:Exit→Act→World→Prop} (z:o.guard=none) (s x:Operand) (t:TypeId)
  (I:o.op= .call {callee:=.builtin .append,args:=#[s,x],argTypes:=#[t,t]})
  (e:TypeId) (i:TypeInfo) (D:P.underlying t=some (.slice e)) (E:P.info? e=some i) (w size n:Nat)
  (r:Rw) (xs:List Value) (N:a.eval s= .slice r.a n r.cap) (j:OwnR W w e size r n xs) (O:a.eval x= .slice none 0 0)
  (h:wpList P q Q rest (a.put o.dst (.slice r.a n r.cap)) W):wpList P q Q (o::rest) a W:=by
 have J:(Builtin.append_ #[t,t] o.type #[.slice r.a n r.cap,.slice none 0 0]).run P W= .ok (.slice r.a n r.cap) W:=by
  rcases j.2 with ⟨A,_⟩|⟨g,M,H,A,_,_,U,_⟩
  ·rw[A]
   simp[Builtin.append_,run_underlying D,sizeOf,typeInfo,E,Builtin.lenOf,Builtin.firstCells]
  ·rw[A]
   simp[Builtin.append_,run_underlying D,sizeOf,typeInfo,E,Builtin.lenOf,Builtin.firstCells,loadCells,U,storeCells]
 refine wpList_plain z fun K L=>?_
 unfold Oper.wp execOp
 simp only[I,resolve,invoke,builtin,Sem.run_bind,Sem.run_pure,Result.andThen_ok,List.map_toArray,List.map_cons,List.map_nil,N,O,J]
 exact L _ _ h
theorem zfG (l:List Ep): ∀u∈l.flatMap epL,u.oneCell'=true:=by
 intro u h
 rw[List.mem_flatMap] at h
 obtain⟨x,_,j⟩:=h
 simp[epL] at j
 rcases j with rfl|rfl|rfl|rfl<;>rfl
theorem Mem.whole {C:Cx} {Z K j b B:Nat} {S:Sv} {q:PS} {W I M:World} {E:Rw} (A:Mem C Z K j S q W) (V:W.grownBy I S.ep.blk) (U:OwnR I j 86 4 E (q.ep.length+q.la.length) (q.ep.flatMap epL++q.la.flatMap epL)) (J:E.blk=S.ep.blk∨E.blk=some W.heap.size) (hB:B<j) (hb:b<W.heap.size) (w: ¬S.has b)
  (O: ∀k,k≠B→k≠b→M.heap[k]? =I.heap[k]?):OwnMod M B {S with ep:=E} q:=by
 have D:(q.ep++q.la).length=q.ep.length+q.la.length:=by simp
 have H: ∀(r:Rw) (e:TypeId) (z n:Nat) (N:List Value),OwnR W j e z r n N→e≠86→(∀k,r.blk=some k→S.has k)→OwnR M B e z r n N:=fun r e z n N h he Y=>
  ((h.keep fun k g=>(O k (by have:=(h.typed g).1;omega) (fun L=>w (by rw[←L];exact Y k g))).trans (V.block k (h.typed g).2.1 fun X=>(h.ne A.own.ep he g) X.symm)).low (by omega))
 refine⟨H _ _ _ _ _ A.own.rq (by decide) fun k g=>.inl g,H _ _ _ _ _ A.own.im (by decide) fun k g=>.inr (.inl g),?_,H _ _ _ _ _ A.own.st (by decide) fun k g=>.inr (.inr (.inr (.inl g))),H _ _ _ _ _ A.own.ex (by decide) fun k g=>.inr (.inr (.inr (.inr (.inl g)))),A.inv.rq,A.inv.im,A.inv.ep,A.inv.st,A.inv.ex⟩
 rw[D,List.flatMap_append]
 refine (U.keep fun k g=>O k (by have:=(U.typed g).1;omega) ?_).low (by omega)
 rcases J with e|e
 ·intro L
  exact w (by rw[←L];exact .inr (.inr (.inl (by rw[←e];exact g))))
 ·have:W.heap.size=k:=Option.some.inj (e.symm.trans g)
  omega
theorem Mem.whole0 {C:Cx} {M H j b B:Nat} {S:Sv} {q:PS} {W I:World} (z:Mem C M H j S q W) (J:q.la=[]) (O:B<j) (A: ¬S.has b)
  (N: ∀k,k≠B→k≠b→I.heap[k]? =W.heap[k]?):OwnMod I B S q:=by
 have D: ∀(r:Rw) (e:TypeId) (w n:Nat) (E:List Value),OwnR W j e w r n E→(∀k,r.blk=some k→S.has k)→OwnR I B e w r n E:=fun r e w n E h L=>
  ((h.keep fun k g=>N k (by have:=(h.typed g).1;omega) (fun K=>A (by rw[←K];exact L k g))).low (by omega))
 refine⟨D _ _ _ _ _ z.own.rq fun k g=>.inl g,D _ _ _ _ _ z.own.im fun k g=>.inr (.inl g),?_,D _ _ _ _ _ z.own.st fun k g=>.inr (.inr (.inr (.inl g))),D _ _ _ _ _ z.own.ex fun k g=>.inr (.inr (.inr (.inr (.inl g)))),z.inv.rq,z.inv.im,z.inv.ep,z.inv.st,z.inv.ex⟩
 rw[J,List.append_nil]
 exact D _ _ _ _ _ z.own.ep fun k g=>.inr (.inr (.inl g))
theorem zi {w:World} {b:Nat} {t:TypeId} {v0 v1 v2 v3 v4:Value} (h:w.heap[b]? =some (.cells #[v0,v1,v2,v3,v4] t (0,0))):
  w.cell? ⟨b,0,none⟩=some v0∧w.cell? ⟨b,1,none⟩=some v1∧w.cell? ⟨b,2,none⟩=some v2∧w.cell? ⟨b,3,none⟩=some v3∧w.cell? ⟨b,4,none⟩=some v4∧∀i,w.frozen? ⟨b,i,none⟩=false:=by
 refine⟨?_,?_,?_,?_,?_,fun i=>?_⟩<;>simp[World.cell?,World.frozen?,h]
theorem zag {w:World} {b i:Nat} {j:Array Value} {u:Value} {t:TypeId} (h:w.heap[b]? =some (.cells j t (0,0))):(w.setCell ⟨b,i,none⟩ u).heap[b]? =some (.cells (j.setIfInBounds i u) t (0,0)):=by
 simp only[World.setCell,Array.getElem?_modify]
 rw[if_pos trivial,h]
 rfl
theorem zcJ {w:World} {b:Nat} {v0 v1 v2 v3 v4 j q A z n:Value} {t:TypeId} (h:w.heap[b]? =some (.cells #[v0,v1,v2,v3,v4] t (0,0))):
  (((((w.setCell ⟨b,0,none⟩ j).setCell ⟨b,1,none⟩ q).setCell ⟨b,2,none⟩ A).setCell ⟨b,3,none⟩ z).setCell ⟨b,4,none⟩ n).heap[b]? =some (.cells #[j,q,A,z,n] t (0,0)):=by
 have e:=zag (i:=4) (u:=n) (zag (i:=3) (u:=z) (zag (i:=2) (u:=A) (zag (i:=1) (u:=q) (zag (i:=0) (u:=j) h))))
 rw[e]
 simp
theorem zcS {B:Nat} {a w:World} {b:Nat} (h:Below B a w) (j:B≤b) (n z D A q:Value):Below B a (((((w.setCell ⟨b,0,none⟩ n).setCell ⟨b,1,none⟩ z).setCell ⟨b,2,none⟩ D).setCell ⟨b,3,none⟩ A).setCell ⟨b,4,none⟩ q):=
 ((((h.setCell j _).setCell j _).setCell j _).setCell j _).setCell j _
end Go.Proofs.YtjdddblpfbmpaaaGreat
