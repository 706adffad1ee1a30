/-
  A program under way in memory: its six rows,what a step leaves as it was. No program is spoken of but for the numbers of its types.
  One of the six rows of a program under way grows by one element: what holds behind it. No program is spoken of but for the numbers of its types.
  Items of programs,as plain functions. No program is spoken of.
  A whole program,as a plain function of its tokens: items one behind the other. No program is spoken of.
  A text has at most 4000 tokens. No program is spoken of.
  A program in memory,as Parse hands it back. No program is spoken of but for the numbers of its types.
-/
import Derived.Maps.AppendAt
import Derived.Test.YtjdddblpfbmpaaaGreatClTokMem
namespace Go.Proofs.YtjdddblpfbmpaaaGreat
open Go.RowKit Go.PlainAid
def imL (x:Im):List Value:=[.string x.spec,.string x.first,.string x.loc]
def epL (x:Ep):List Value:=[.int .i64 x.kind,.string x.name,.string x.loc,.string x.spec]
def smL (x:Sm):List Value:=[.int .i64 x.kind,.string x.name,.int .i64 x.expr]
def exL (x:Ex):List Value:=[.int .i64 x.kind,.int .i64 x.num,.string x.name,.string x.field,.int .i64 x.l,.int .i64 x.r]
structure Rw where
 a:Option Addr
 cap:Nat
structure Sv where
 rq:Rw
 im:Rw
 ep:Rw
 st:Rw
 ex:Rw
 la:Rw
def Rw.blk (r:Rw):Option Nat:=(Value.slice r.a 0 r.cap).ownBlock
def Sv.has (S:Sv) (k:Nat):Prop:=S.rq.blk=some k∨S.im.blk=some k∨S.ep.blk=some k∨S.st.blk=some k∨S.ex.blk=some k∨S.la.blk=some k
def OwnR (w:World) (base:Nat) (e:TypeId) (size:Nat) (r:Rw) (n:Nat) (xs:List Value):Prop:=w.ownsRow base e size (.slice r.a n r.cap) n xs
theorem zb3 (r:Rw) (n:Nat):(Value.slice r.a n r.cap).ownBlock=r.blk:=by
 unfold Rw.blk Value.ownBlock
 cases r.a<;>rfl
structure Own (w:World) (base:Nat) (S:Sv) (q:PS):Prop where
 rq:OwnR w base 9 1 S.rq q.rq.length (q.rq.map .string)
 im:OwnR w base 84 3 S.im q.im.length (q.im.flatMap imL)
 ep:OwnR w base 86 4 S.ep q.ep.length (q.ep.flatMap epL)
 st:OwnR w base 107 3 S.st q.st.length (q.st.flatMap smL)
 ex:OwnR w base 109 6 S.ex q.ex.length (q.ex.flatMap exL)
 la:OwnR w base 86 4 S.la q.la.length (q.la.flatMap epL)
 apart: ∀k,S.ep.blk=some k→S.la.blk≠some k
theorem OwnR.typed {w:World} {j size n:Nat} {e:TypeId} {r:Rw} {xs:List Value} (h:OwnR w j e size r n xs) {k:Nat} (A:r.blk=some k):j≤k∧k<w.heap.size∧∃z,w.heap[k]? =some (.cells z e (0,0)):=by
 rcases h.2 with ⟨H,_⟩|⟨g,J,z,H,L,I,_⟩
 ·rw[←zb3 r n,H] at A
  simp[Value.ownBlock] at A
 ·rw[←zb3 r n,H] at A
  simp only[Value.ownBlock,Option.some.injEq] at A
  subst A
  exact⟨L,(Array.getElem?_eq_some_iff.1 I).1,z,I⟩
theorem OwnR.ne {w:World} {L b2 Y N V Z:Nat} {A I:TypeId} {H z:Rw} {x1 x2:List Value} (X:OwnR w L A Y H V x1) (U:OwnR w b2 I N z Z x2) (O:A≠I) {k:Nat} (J:H.blk=some k):z.blk≠some k:=by
 intro h
 obtain⟨_,_,c1,M⟩:=X.typed J
 obtain⟨_,_,c2,j⟩:=U.typed h
 rw[M] at j
 simp only[Option.some.injEq,Obj.cells.injEq] at j
 exact O j.2.1
theorem OwnR.keep {w w':World} {j size n:Nat} {e:TypeId} {r:Rw} {xs:List Value} (h:OwnR w j e size r n xs) (I: ∀k,r.blk=some k→w'.heap[k]? =w.heap[k]?):OwnR w' j e size r n xs:=by
 refine⟨h.1,?_⟩
 rcases h.2 with z|⟨g,H,A,z,J,L,rest⟩
 ·exact .inl z
 ·refine .inr ⟨g,H,A,z,J,?_,rest⟩
  rw[I g (by rw[←zb3 r n,z];rfl)]
  exact L
theorem Own.keep {w w':World} {j:Nat} {S:Sv} {q:PS} (h:Own w j S q) (z: ∀k,S.has k→w'.heap[k]? =w.heap[k]?):Own w' j S q:=
 ⟨h.rq.keep fun k e=>z k (.inl e),h.im.keep fun k e=>z k (.inr (.inl e)),h.ep.keep fun k e=>z k (.inr (.inr (.inl e))),h.st.keep fun k e=>z k (.inr (.inr (.inr (.inl e)))),
  h.ex.keep fun k e=>z k (.inr (.inr (.inr (.inr (.inl e))))),h.la.keep fun k e=>z k (.inr (.inr (.inr (.inr (.inr e))))),h.apart⟩
theorem Own.has {w:World} {j:Nat} {S:Sv} {q:PS} (h:Own w j S q) {k:Nat} (z:S.has k):j≤k∧k<w.heap.size:=by
 rcases z with e|e|e|e|e|e
 ·exact⟨(h.rq.typed e).1,(h.rq.typed e).2.1⟩
 ·exact⟨(h.im.typed e).1,(h.im.typed e).2.1⟩
 ·exact⟨(h.ep.typed e).1,(h.ep.typed e).2.1⟩
 ·exact⟨(h.st.typed e).1,(h.st.typed e).2.1⟩
 ·exact⟨(h.ex.typed e).1,(h.ex.typed e).2.1⟩
 ·exact⟨(h.la.typed e).1,(h.la.typed e).2.1⟩
theorem Own.later {w w':World} {j:Nat} {S:Sv} {q:PS} (h:Own w j S q) (z:Below w.heap.size w w'):Own w' j S q:=h.keep fun k e=>z.block k (h.has e).2
theorem Own.other {w:World} {H:Nat} {S:Sv} {q:PS} (h:Own w H S q) {k:Nat} {I:Array Value} {e:TypeId} {z:Nat×Nat} (A:w.heap[k]? =some (.cells I e z)) (N:e≠9) (L:e≠84) (J:e≠86) (M:e≠107) (O:e≠109): ¬S.has k:=by
 rintro (g|g|g|g|g|g)
 ·obtain⟨_,_,c,j⟩:=h.rq.typed g
  rw[A] at j
  simp only[Option.some.injEq,Obj.cells.injEq] at j
  exact N j.2.1
 ·obtain⟨_,_,c,j⟩:=h.im.typed g
  rw[A] at j
  simp only[Option.some.injEq,Obj.cells.injEq] at j
  exact L j.2.1
 ·obtain⟨_,_,c,j⟩:=h.ep.typed g
  rw[A] at j
  simp only[Option.some.injEq,Obj.cells.injEq] at j
  exact J j.2.1
 ·obtain⟨_,_,c,j⟩:=h.st.typed g
  rw[A] at j
  simp only[Option.some.injEq,Obj.cells.injEq] at j
  exact M j.2.1
 ·obtain⟨_,_,c,j⟩:=h.ex.typed g
  rw[A] at j
  simp only[Option.some.injEq,Obj.cells.injEq] at j
  exact O j.2.1
 ·obtain⟨_,_,c,j⟩:=h.la.typed g
  rw[A] at j
  simp only[Option.some.injEq,Obj.cells.injEq] at j
  exact J j.2.1
structure Stp (S:Sv) (w:World) (S':Sv) (w':World):Prop where
 os:w'.os=w.os
 tape:w'.tape=w.tape
 output:w'.output=w.output
 size:w.heap.size≤w'.heap.size
 block: ∀k,k<w.heap.size→¬S.has k→w'.heap[k]? =w.heap[k]?
 sub: ∀k,S'.has k→S.has k∨w.heap.size≤k
theorem Stp.refl (S:Sv) (w:World):Stp S w S w:=⟨rfl,rfl,rfl,Nat.le_refl _,fun _ _ _=>rfl,fun _ h=>.inl h⟩
theorem Stp.trans {S H z:Sv} {w A I:World} (h:Stp S w H A) (k:Stp H A z I):Stp S w z I:=
 ⟨k.os.trans h.os,k.tape.trans h.tape,k.output.trans h.output,Nat.le_trans h.size k.size,
  fun i j J=>(k.block i (Nat.lt_of_lt_of_le j h.size) fun g=>(h.sub i g).elim J fun L=>by omega).trans (h.block i j J),
  fun i j=>(k.sub i j).elim (h.sub i) fun g=>.inr (Nat.le_trans h.size g)⟩
theorem Stp.below {S:Sv} {w w':World} (h:Below w.heap.size w w'):Stp S w S w':=⟨h.os,h.tape,h.output,h.size,fun k j _=>h.block k j,fun _ g=>.inl g⟩
theorem Stp.under {S S':Sv} {w w':World} {j:Nat} {q:PS} (h:Stp S w S' w') (H:j≤w.heap.size) (z:Own w j S q):Below j w w':=
 ⟨h.os,h.tape,h.output,h.size,fun k A=>h.block k (by omega) fun g=>by have:=(z.has g).1;omega⟩
theorem Stp.grown {S S':Sv} {w w':World} {row:Option Nat} (h:w.grownBy w' row) (z: ∀k,row=some k→S.has k) (A: ∀k,S'.has k→S.has k∨w.heap.size≤k):Stp S w S' w':=
 ⟨h.os,h.tape,h.output,h.size,fun k j H=>h.block k j fun e=>H (z k e.symm),A⟩
structure Inv (C:Cx) (q:PS):Prop where
 pos:q.pos≤C.ts.length
 rq:q.rq.length≤40
 im:q.im.length≤40
 ep:q.ep.length+q.la.length≤40
 st:q.st.length≤80
 ex:q.ex.length≤300
structure Mem (C:Cx) (gt cap base:Nat) (S:Sv) (q:PS) (w:World):Prop where
 own:Own w base S q
 inv:Inv C q
 tok:OwnT w base 143 gt C.ts.length cap C.ts
 few:C.ts.length≤4000
 base:base≤w.heap.size
theorem Mem.later {C:Cx} {H z j:Nat} {S:Sv} {q:PS} {w w':World} (h:Mem C H z j S q w) (A:Below w.heap.size w w'):Mem C H z j S q w':=
 ⟨h.own.later A,h.inv,zcu h.tok A,h.few,Nat.le_trans h.base A.size⟩
theorem Mem.alloc {C:Cx} {A z j:Nat} {S:Sv} {q:PS} {w:World} (h:Mem C A z j S q w) (o:Obj):Mem C A z j S q (w.alloc o):=h.later ((Below.refl _ _).alloc (Nat.le_refl _) _)
theorem Own.to {w:World} {j:Nat} {S:Sv} {q q':PS} (h:Own w j S q) (I:q'.rq=q.rq) (A:q'.im=q.im) (L:q'.ep=q.ep) (H:q'.st=q.st) (J:q'.ex=q.ex) (z:q'.la=q.la):Own w j S q':=
 ⟨by rw[I];exact h.rq,by rw[A];exact h.im,by rw[L];exact h.ep,by rw[H];exact h.st,by rw[J];exact h.ex,by rw[z];exact h.la,h.apart⟩
theorem Mem.adv {C:Cx} {A z j:Nat} {S:Sv} {q:PS} {w:World} (h:Mem C A z j S q w) (H:q.pos<C.ts.length):Mem C A z j S (adv q) w:=
 ⟨h.own.to rfl rfl rfl rfl rfl rfl,⟨H,h.inv.rq,h.inv.im,h.inv.ep,h.inv.st,h.inv.ex⟩,h.tok,h.few,h.base⟩
theorem OwnR.alloc {w:World} {j size n:Nat} {e:TypeId} {r:Rw} {xs:List Value} (h:OwnR w j e size r n xs) (o:Obj):OwnR (w.alloc o) j e size r n xs:=
 h.keep fun k z=>Below.heap_alloc w o k (h.typed z).2.1
theorem zfH {w:World} {z g n H:Nat} {e:TypeId} {J:List Tk} (h:OwnT w z e g n H J): ∃j,w.heap[g]? =some (.cells j e (0,0)):=by
 rcases h.1.2 with ⟨A,_⟩|⟨O,I,j,A,M,L,N,_⟩
 ·simp at A
 ·simp only[Value.slice.injEq,Option.some.injEq,Addr.mk.injEq,and_true,true_and] at A
  obtain⟨rfl,rfl⟩:=A
  exact⟨j,L⟩
theorem zbG {w w':World} {j g n A:Nat} {e:TypeId} {I:List Tk} (h:OwnT w j e g n A I) (M:w'.heap[g]? =w.heap[g]?):OwnT w' j e g n A I:=by
 refine⟨⟨h.1.1,?_⟩,h.2⟩
 rcases h.1.2 with k|⟨U,L,H,J,z,O,N⟩
 ·exact .inl k
 ·simp only[Value.slice.injEq,Option.some.injEq,Addr.mk.injEq,and_true,true_and] at J
  obtain⟨rfl,rfl⟩:=J
  exact .inr ⟨g,A,H,rfl,z,M.trans O,N⟩
theorem Mem.gt_free {C:Cx} {A z j:Nat} {S:Sv} {q:PS} {w:World} (h:Mem C A z j S q w): ¬S.has A:=by
 obtain⟨H,I⟩:=zfH h.tok
 exact h.own.other I (by decide) (by decide) (by decide) (by decide) (by decide)
structure Off (lo hi:Nat) (w w':World):Prop where
 os:w'.os=w.os
 tape:w'.tape=w.tape
 output:w'.output=w.output
 size:w.heap.size≤w'.heap.size
 block: ∀k,k<lo∨hi≤k∧k<w.heap.size→w'.heap[k]? =w.heap[k]?
theorem Off.refl (h j:Nat) (w:World):Off h j w w:=⟨rfl,rfl,rfl,Nat.le_refl _,fun _ _=>rfl⟩
theorem Off.set {j z:Nat} {w w':World} (h:Off j z w w') {b:Nat} (I:j≤b) (H:b<z) (i:Nat) (u:Value):Off j z w (w'.setCell ⟨b,i,none⟩ u):=
 ⟨h.os,h.tape,h.output,by show _≤(w'.heap.modify _ _).size;simp;exact h.size,fun k A=>(Below.heap_setCell w' ⟨b,i,none⟩ u k (by show k≠b;omega)).trans (h.block k A)⟩
theorem Off.below {A I:Nat} {w z H:World} (h:Off A I w z) (j:Below z.heap.size z H) (L:A≤w.heap.size):Off A I w H:=
 ⟨j.os.trans h.os,j.tape.trans h.tape,j.output.trans h.output,Nat.le_trans h.size j.size,fun k J=>(j.block k (by have:=h.size;omega)).trans (h.block k J)⟩
theorem Off.set12 {H J:Nat} {a w:World} (h:Off H J a w) {b:Nat} (z:H≤b) (j:b<J) (x0 x1 x2 x3 x4 U M O L N A I:Value):
  Off H J a ((((((((((((w.setCell ⟨b,0,none⟩ x0).setCell ⟨b,1,none⟩ x1).setCell ⟨b,2,none⟩ x2).setCell ⟨b,3,none⟩ x3).setCell ⟨b,4,none⟩ x4).setCell ⟨b,5,none⟩ U).setCell ⟨b,6,none⟩ M).setCell ⟨b,7,none⟩ O).setCell ⟨b,8,none⟩ L).setCell ⟨b,9,none⟩ N).setCell ⟨b,10,none⟩ A).setCell ⟨b,11,none⟩ I):=
 (((((((((((h.set z j _ _).set z j _ _).set z j _ _).set z j _ _).set z j _ _).set z j _ _).set z j _ _).set z j _ _).set z j _ _).set z j _ _).set z j _ _).set z j _ _
theorem zcv {P:Program} (W:World) {ops:Array Oper} {rest:List Oper} {o:Oper} {a:Act} {Q:Exit→Act→World→Prop} (V:o.guard=none) (s x:Operand) (t:TypeId)
  (ho:o.op= .call {callee:=.builtin .append,args:=#[s,x],argTypes:=#[t,t]})
  (H:Nat) (e:TypeId) (i:TypeInfo) (z:Value) (size w:Nat) (ht:P.underlying t=some (.slice e)) (hi:P.info? e=some i) (hz:i.zero=some z) (J:i.size=size) (Y:i.bytes=w) (Z:z.cells.size=size) (X:0<size) (O:w≤100)
  (r:Rw) (n:Nat) (xs:List Value) (hs:a.eval s= .slice r.a n r.cap) (M:OwnR W H e size r n xs)
  (U:Nat) (A:List Value) (hx:a.eval x= .slice (some ⟨U,0,none⟩) 1 1) (hg:W.heap[U]? =some (.cells A.toArray e (0,0))) (hl:A.length=size) (h1: ∀u∈A,u.oneCell'=true) (hn:n+1≤1000000) (L:H≤W.heap.size)
  (h: ∀N w',OwnR w' H e size N (n+1) (xs++A)→W.grownBy w' r.blk→(N.blk=r.blk∨N.blk=some W.heap.size)→wpList P ops Q rest (a.put o.dst (.slice N.a (n+1) N.cap)) w'):
  wpList P ops Q (o::rest) a W:=by
 refine wpList_append_own_at _ V s x t ho H e i z size w ht hi hz J Y Z X _ n _ hs M ⟨U,0,none⟩ 1 1 A hx (by omega) ?_ h1 ?_ ?_ L ?_
 ·intro j u hj
  have:(⟨U,0,none⟩:Addr).add j=⟨U,j,none⟩:=by simp[Addr.add];exact fun h=>h.symm
  rw[this]
  simp[World.cell?,hg,hj]
 ·unfold maxLen;omega
 ·have:(n+1)*w≤1000000*100:=Nat.mul_le_mul hn O
  omega
 ·intro v' w' k1 k2 k3 k4
  rcases k1.2 with ⟨hv,ac⟩|⟨g',I,ab,rfl,aa⟩
  ·omega
  ·refine h ⟨some ⟨g',0,none⟩,I⟩ w' k1 ?_ ?_
   ·rw[←zb3 r n];exact k2
   ·rw[←zb3 r n,←zb3 ⟨some ⟨g',0,none⟩,I⟩ (n+1)];exact k4
theorem Mem.grow_rq {C:Cx} {gt U I:Nat} {S:Sv} {q:PS} {w W w' L:World} (j:Mem C gt U I S q w) (O:Below w.heap.size w W) (M:W.grownBy w' S.rq.blk) {J:Rw} {x:ByteArray} (hr:OwnR w' I 9 1 J (q.rq.length+1) (q.rq.map .string++[.string x])) (N:J.blk=S.rq.blk∨J.blk=some W.heap.size) (H:Off w.heap.size W.heap.size w' L) (hn:q.rq.length<40):
  Mem C gt U I {S with rq:=J} {q with rq:=q.rq++[x]} L∧Stp S w {S with rq:=J} L:=by
 have aa:=O.size
 have Y:=M.size
 have z: ∀k,k<w.heap.size→S.rq.blk≠some k→L.heap[k]? =w.heap[k]?:=fun k A Z=>
  (H.block k (.inl A)).trans ((M.block k (by omega) fun e=>Z e.symm).trans (O.block k A))
 have X:OwnR L I 9 1 J (q.rq.length+1) (q.rq.map .string++[.string x]):=hr.keep fun k A=>H.block k (by
  rcases N with e|e
  ·rw[e] at A
   exact .inl (j.own.rq.typed A).2.1
  ·rw[e] at A
   obtain rfl:=Option.some.inj A
   exact .inr ⟨Nat.le_refl _,(hr.typed e).2.1⟩)
 have V:(q.rq++[x]).length=q.rq.length+1:=by simp
 refine⟨⟨⟨by show OwnR L I 9 1 J (q.rq++[x]).length _;rw[V];simpa using X,j.own.im.keep fun k A=>z k (j.own.im.typed A).2.1 (j.own.im.ne j.own.rq (by decide) A),j.own.ep.keep fun k A=>z k (j.own.ep.typed A).2.1 (j.own.ep.ne j.own.rq (by decide) A),j.own.st.keep fun k A=>z k (j.own.st.typed A).2.1 (j.own.st.ne j.own.rq (by decide) A),j.own.ex.keep fun k A=>z k (j.own.ex.typed A).2.1 (j.own.ex.ne j.own.rq (by decide) A),j.own.la.keep fun k A=>z k (j.own.la.typed A).2.1 (j.own.la.ne j.own.rq (by decide) A),j.own.apart⟩,⟨j.inv.pos,by simp;omega,j.inv.im,j.inv.ep,j.inv.st,j.inv.ex⟩,zbG j.tok (z gt (zau j.tok).1 fun e=>j.gt_free (.inl e)),j.few,Nat.le_trans j.base (by have:=H.size;omega)⟩,?_⟩
 refine⟨H.os.trans (M.os.trans O.os),H.tape.trans (M.tape.trans O.tape),H.output.trans (M.output.trans O.output),Nat.le_trans (Nat.le_trans aa Y) H.size,fun k A hn=>z k A fun e=>hn (.inl e),fun k A=>?_⟩
 rcases A with h|h|h|h|h|h
 ·exact N.elim (fun e=>.inl (.inl (e.symm.trans h))) fun e=>.inr (by have:W.heap.size=k:=Option.some.inj (e.symm.trans h);omega)
 ·exact .inl (.inr (.inl h))
 ·exact .inl (.inr (.inr (.inl h)))
 ·exact .inl (.inr (.inr (.inr (.inl h))))
 ·exact .inl (.inr (.inr (.inr (.inr (.inl h)))))
 ·exact .inl (.inr (.inr (.inr (.inr (.inr h)))))
theorem Mem.grow_im {C:Cx} {gt U I:Nat} {S:Sv} {q:PS} {w W w' L:World} (j:Mem C gt U I S q w) (O:Below w.heap.size w W) (M:W.grownBy w' S.im.blk) {J:Rw} {x:Im} (hr:OwnR w' I 84 3 J (q.im.length+1) (q.im.flatMap imL++imL x)) (N:J.blk=S.im.blk∨J.blk=some W.heap.size) (H:Off w.heap.size W.heap.size w' L) (hn:q.im.length<40):
  Mem C gt U I {S with im:=J} {q with im:=q.im++[x]} L∧Stp S w {S with im:=J} L:=by
 have aa:=O.size
 have Y:=M.size
 have z: ∀k,k<w.heap.size→S.im.blk≠some k→L.heap[k]? =w.heap[k]?:=fun k A Z=>
  (H.block k (.inl A)).trans ((M.block k (by omega) fun e=>Z e.symm).trans (O.block k A))
 have X:OwnR L I 84 3 J (q.im.length+1) (q.im.flatMap imL++imL x):=hr.keep fun k A=>H.block k (by
  rcases N with e|e
  ·rw[e] at A
   exact .inl (j.own.im.typed A).2.1
  ·rw[e] at A
   obtain rfl:=Option.some.inj A
   exact .inr ⟨Nat.le_refl _,(hr.typed e).2.1⟩)
 have V:(q.im++[x]).length=q.im.length+1:=by simp
 refine⟨⟨⟨j.own.rq.keep fun k A=>z k (j.own.rq.typed A).2.1 (j.own.rq.ne j.own.im (by decide) A),by show OwnR L I 84 3 J (q.im++[x]).length _;rw[V];simpa using X,j.own.ep.keep fun k A=>z k (j.own.ep.typed A).2.1 (j.own.ep.ne j.own.im (by decide) A),j.own.st.keep fun k A=>z k (j.own.st.typed A).2.1 (j.own.st.ne j.own.im (by decide) A),j.own.ex.keep fun k A=>z k (j.own.ex.typed A).2.1 (j.own.ex.ne j.own.im (by decide) A),j.own.la.keep fun k A=>z k (j.own.la.typed A).2.1 (j.own.la.ne j.own.im (by decide) A),j.own.apart⟩,⟨j.inv.pos,j.inv.rq,by simp;omega,j.inv.ep,j.inv.st,j.inv.ex⟩,zbG j.tok (z gt (zau j.tok).1 fun e=>j.gt_free (.inr (.inl e))),j.few,Nat.le_trans j.base (by have:=H.size;omega)⟩,?_⟩
 refine⟨H.os.trans (M.os.trans O.os),H.tape.trans (M.tape.trans O.tape),H.output.trans (M.output.trans O.output),Nat.le_trans (Nat.le_trans aa Y) H.size,fun k A hn=>z k A fun e=>hn (.inr (.inl e)),fun k A=>?_⟩
 rcases A with h|h|h|h|h|h
 ·exact .inl (.inl h)
 ·exact N.elim (fun e=>.inl (.inr (.inl (e.symm.trans h)))) fun e=>.inr (by have:W.heap.size=k:=Option.some.inj (e.symm.trans h);omega)
 ·exact .inl (.inr (.inr (.inl h)))
 ·exact .inl (.inr (.inr (.inr (.inl h))))
 ·exact .inl (.inr (.inr (.inr (.inr (.inl h)))))
 ·exact .inl (.inr (.inr (.inr (.inr (.inr h)))))
theorem Mem.grow_ep {C:Cx} {gt U I:Nat} {S:Sv} {q:PS} {w W w' M:World} (j:Mem C gt U I S q w) (O:Below w.heap.size w W) (N:W.grownBy w' S.ep.blk) {J:Rw} {x:Ep} (hr:OwnR w' I 86 4 J (q.ep.length+1) (q.ep.flatMap epL++epL x)) (L:J.blk=S.ep.blk∨J.blk=some W.heap.size) (H:Off w.heap.size W.heap.size w' M) (hn:q.ep.length+q.la.length<40):
  Mem C gt U I {S with ep:=J} {q with ep:=q.ep++[x]} M∧Stp S w {S with ep:=J} M:=by
 have aa:=O.size
 have Y:=N.size
 have z: ∀k,k<w.heap.size→S.ep.blk≠some k→M.heap[k]? =w.heap[k]?:=fun k A Z=>
  (H.block k (.inl A)).trans ((N.block k (by omega) fun e=>Z e.symm).trans (O.block k A))
 have X:OwnR M I 86 4 J (q.ep.length+1) (q.ep.flatMap epL++epL x):=hr.keep fun k A=>H.block k (by
  rcases L with e|e
  ·rw[e] at A
   exact .inl (j.own.ep.typed A).2.1
  ·rw[e] at A
   obtain rfl:=Option.some.inj A
   exact .inr ⟨Nat.le_refl _,(hr.typed e).2.1⟩)
 have V:(q.ep++[x]).length=q.ep.length+1:=by simp
 refine⟨⟨⟨j.own.rq.keep fun k A=>z k (j.own.rq.typed A).2.1 (j.own.rq.ne j.own.ep (by decide) A),j.own.im.keep fun k A=>z k (j.own.im.typed A).2.1 (j.own.im.ne j.own.ep (by decide) A),by show OwnR M I 86 4 J (q.ep++[x]).length _;rw[V];simpa using X,j.own.st.keep fun k A=>z k (j.own.st.typed A).2.1 (j.own.st.ne j.own.ep (by decide) A),j.own.ex.keep fun k A=>z k (j.own.ex.typed A).2.1 (j.own.ex.ne j.own.ep (by decide) A),j.own.la.keep fun k A=>z k (j.own.la.typed A).2.1 (fun e=>j.own.apart k e A),fun k A hl=>L.elim (fun e=>j.own.apart k (by rw[←e];exact A) hl) fun e=>by have h1:=(j.own.la.typed hl).2.1;have h2:W.heap.size=k:=Option.some.inj (e.symm.trans A);omega⟩,⟨j.inv.pos,j.inv.rq,j.inv.im,by have:=j.inv.ep;simp;omega,j.inv.st,j.inv.ex⟩,zbG j.tok (z gt (zau j.tok).1 fun e=>j.gt_free (.inr (.inr (.inl e)))),j.few,Nat.le_trans j.base (by have:=H.size;omega)⟩,?_⟩
 refine⟨H.os.trans (N.os.trans O.os),H.tape.trans (N.tape.trans O.tape),H.output.trans (N.output.trans O.output),Nat.le_trans (Nat.le_trans aa Y) H.size,fun k A hn=>z k A fun e=>hn (.inr (.inr (.inl e))),fun k A=>?_⟩
 rcases A with h|h|h|h|h|h
 ·exact .inl (.inl h)
 ·exact .inl (.inr (.inl h))
 ·exact L.elim (fun e=>.inl (.inr (.inr (.inl (e.symm.trans h))))) fun e=>.inr (by have:W.heap.size=k:=Option.some.inj (e.symm.trans h);omega)
 ·exact .inl (.inr (.inr (.inr (.inl h))))
 ·exact .inl (.inr (.inr (.inr (.inr (.inl h)))))
 ·exact .inl (.inr (.inr (.inr (.inr (.inr h)))))
theorem Mem.grow_st {C:Cx} {gt U I:Nat} {S:Sv} {q:PS} {w W w' L:World} (j:Mem C gt U I S q w) (O:Below w.heap.size w W) (M:W.grownBy w' S.st.blk) {J:Rw} {x:Sm} (hr:OwnR w' I 107 3 J (q.st.length+1) (q.st.flatMap smL++smL x)) (N:J.blk=S.st.blk∨J.blk=some W.heap.size) (H:Off w.heap.size W.heap.size w' L) (hn:q.st.length<80):
  Mem C gt U I {S with st:=J} {q with st:=q.st++[x]} L∧Stp S w {S with st:=J} L:=by
 have aa:=O.size
 have Y:=M.size
 have z: ∀k,k<w.heap.size→S.st.blk≠some k→L.heap[k]? =w.heap[k]?:=fun k A Z=>
  (H.block k (.inl A)).trans ((M.block k (by omega) fun e=>Z e.symm).trans (O.block k A))
 have X:OwnR L I 107 3 J (q.st.length+1) (q.st.flatMap smL++smL x):=hr.keep fun k A=>H.block k (by
  rcases N with e|e
  ·rw[e] at A
   exact .inl (j.own.st.typed A).2.1
  ·rw[e] at A
   obtain rfl:=Option.some.inj A
   exact .inr ⟨Nat.le_refl _,(hr.typed e).2.1⟩)
 have V:(q.st++[x]).length=q.st.length+1:=by simp
 refine⟨⟨⟨j.own.rq.keep fun k A=>z k (j.own.rq.typed A).2.1 (j.own.rq.ne j.own.st (by decide) A),j.own.im.keep fun k A=>z k (j.own.im.typed A).2.1 (j.own.im.ne j.own.st (by decide) A),j.own.ep.keep fun k A=>z k (j.own.ep.typed A).2.1 (j.own.ep.ne j.own.st (by decide) A),by show OwnR L I 107 3 J (q.st++[x]).length _;rw[V];simpa using X,j.own.ex.keep fun k A=>z k (j.own.ex.typed A).2.1 (j.own.ex.ne j.own.st (by decide) A),j.own.la.keep fun k A=>z k (j.own.la.typed A).2.1 (j.own.la.ne j.own.st (by decide) A),j.own.apart⟩,⟨j.inv.pos,j.inv.rq,j.inv.im,j.inv.ep,by simp;omega,j.inv.ex⟩,zbG j.tok (z gt (zau j.tok).1 fun e=>j.gt_free (.inr (.inr (.inr (.inl e))))),j.few,Nat.le_trans j.base (by have:=H.size;omega)⟩,?_⟩
 refine⟨H.os.trans (M.os.trans O.os),H.tape.trans (M.tape.trans O.tape),H.output.trans (M.output.trans O.output),Nat.le_trans (Nat.le_trans aa Y) H.size,fun k A hn=>z k A fun e=>hn (.inr (.inr (.inr (.inl e)))),fun k A=>?_⟩
 rcases A with h|h|h|h|h|h
 ·exact .inl (.inl h)
 ·exact .inl (.inr (.inl h))
 ·exact .inl (.inr (.inr (.inl h)))
 ·exact N.elim (fun e=>.inl (.inr (.inr (.inr (.inl (e.symm.trans h)))))) fun e=>.inr (by have:W.heap.size=k:=Option.some.inj (e.symm.trans h);omega)
 ·exact .inl (.inr (.inr (.inr (.inr (.inl h)))))
 ·exact .inl (.inr (.inr (.inr (.inr (.inr h)))))
theorem Mem.grow_ex {C:Cx} {gt U I:Nat} {S:Sv} {q:PS} {w W w' L:World} (j:Mem C gt U I S q w) (O:Below w.heap.size w W) (M:W.grownBy w' S.ex.blk) {J:Rw} {x:Ex} (hr:OwnR w' I 109 6 J (q.ex.length+1) (q.ex.flatMap exL++exL x)) (N:J.blk=S.ex.blk∨J.blk=some W.heap.size) (H:Off w.heap.size W.heap.size w' L) (hn:q.ex.length<300):
  Mem C gt U I {S with ex:=J} {q with ex:=q.ex++[x]} L∧Stp S w {S with ex:=J} L:=by
 have aa:=O.size
 have Y:=M.size
 have z: ∀k,k<w.heap.size→S.ex.blk≠some k→L.heap[k]? =w.heap[k]?:=fun k A Z=>
  (H.block k (.inl A)).trans ((M.block k (by omega) fun e=>Z e.symm).trans (O.block k A))
 have X:OwnR L I 109 6 J (q.ex.length+1) (q.ex.flatMap exL++exL x):=hr.keep fun k A=>H.block k (by
  rcases N with e|e
  ·rw[e] at A
   exact .inl (j.own.ex.typed A).2.1
  ·rw[e] at A
   obtain rfl:=Option.some.inj A
   exact .inr ⟨Nat.le_refl _,(hr.typed e).2.1⟩)
 have V:(q.ex++[x]).length=q.ex.length+1:=by simp
 refine⟨⟨⟨j.own.rq.keep fun k A=>z k (j.own.rq.typed A).2.1 (j.own.rq.ne j.own.ex (by decide) A),j.own.im.keep fun k A=>z k (j.own.im.typed A).2.1 (j.own.im.ne j.own.ex (by decide) A),j.own.ep.keep fun k A=>z k (j.own.ep.typed A).2.1 (j.own.ep.ne j.own.ex (by decide) A),j.own.st.keep fun k A=>z k (j.own.st.typed A).2.1 (j.own.st.ne j.own.ex (by decide) A),by show OwnR L I 109 6 J (q.ex++[x]).length _;rw[V];simpa using X,j.own.la.keep fun k A=>z k (j.own.la.typed A).2.1 (j.own.la.ne j.own.ex (by decide) A),j.own.apart⟩,⟨j.inv.pos,j.inv.rq,j.inv.im,j.inv.ep,j.inv.st,by simp;omega⟩,zbG j.tok (z gt (zau j.tok).1 fun e=>j.gt_free (.inr (.inr (.inr (.inr (.inl e)))))),j.few,Nat.le_trans j.base (by have:=H.size;omega)⟩,?_⟩
 refine⟨H.os.trans (M.os.trans O.os),H.tape.trans (M.tape.trans O.tape),H.output.trans (M.output.trans O.output),Nat.le_trans (Nat.le_trans aa Y) H.size,fun k A hn=>z k A fun e=>hn (.inr (.inr (.inr (.inr (.inl e))))),fun k A=>?_⟩
 rcases A with h|h|h|h|h|h
 ·exact .inl (.inl h)
 ·exact .inl (.inr (.inl h))
 ·exact .inl (.inr (.inr (.inl h)))
 ·exact .inl (.inr (.inr (.inr (.inl h))))
 ·exact N.elim (fun e=>.inl (.inr (.inr (.inr (.inr (.inl (e.symm.trans h))))))) fun e=>.inr (by have:W.heap.size=k:=Option.some.inj (e.symm.trans h);omega)
 ·exact .inl (.inr (.inr (.inr (.inr (.inr h)))))
theorem Mem.grow_la {C:Cx} {gt U I:Nat} {S:Sv} {q:PS} {w W w' M:World} (j:Mem C gt U I S q w) (O:Below w.heap.size w W) (N:W.grownBy w' S.la.blk) {J:Rw} {x:Ep} (hr:OwnR w' I 86 4 J (q.la.length+1) (q.la.flatMap epL++epL x)) (L:J.blk=S.la.blk∨J.blk=some W.heap.size) (H:Off w.heap.size W.heap.size w' M) (hn:q.ep.length+q.la.length<40):
  Mem C gt U I {S with la:=J} {q with la:=q.la++[x]} M∧Stp S w {S with la:=J} M:=by
 have aa:=O.size
 have Y:=N.size
 have z: ∀k,k<w.heap.size→S.la.blk≠some k→M.heap[k]? =w.heap[k]?:=fun k A Z=>
  (H.block k (.inl A)).trans ((N.block k (by omega) fun e=>Z e.symm).trans (O.block k A))
 have X:OwnR M I 86 4 J (q.la.length+1) (q.la.flatMap epL++epL x):=hr.keep fun k A=>H.block k (by
  rcases L with e|e
  ·rw[e] at A
   exact .inl (j.own.la.typed A).2.1
  ·rw[e] at A
   obtain rfl:=Option.some.inj A
   exact .inr ⟨Nat.le_refl _,(hr.typed e).2.1⟩)
 have V:(q.la++[x]).length=q.la.length+1:=by simp
 refine⟨⟨⟨j.own.rq.keep fun k A=>z k (j.own.rq.typed A).2.1 (j.own.rq.ne j.own.la (by decide) A),j.own.im.keep fun k A=>z k (j.own.im.typed A).2.1 (j.own.im.ne j.own.la (by decide) A),j.own.ep.keep fun k A=>z k (j.own.ep.typed A).2.1 (fun e=>j.own.apart k A e),j.own.st.keep fun k A=>z k (j.own.st.typed A).2.1 (j.own.st.ne j.own.la (by decide) A),j.own.ex.keep fun k A=>z k (j.own.ex.typed A).2.1 (j.own.ex.ne j.own.la (by decide) A),by show OwnR M I 86 4 J (q.la++[x]).length _;rw[V];simpa using X,fun k A hl=>L.elim (fun e=>j.own.apart k A (by rw[←e];exact hl)) fun e=>by have h1:=(j.own.ep.typed A).2.1;have h2:W.heap.size=k:=Option.some.inj (e.symm.trans hl);omega⟩,⟨j.inv.pos,j.inv.rq,j.inv.im,by have:=j.inv.ep;simp;omega,j.inv.st,j.inv.ex⟩,zbG j.tok (z gt (zau j.tok).1 fun e=>j.gt_free (.inr (.inr (.inr (.inr (.inr e)))))),j.few,Nat.le_trans j.base (by have:=H.size;omega)⟩,?_⟩
 refine⟨H.os.trans (N.os.trans O.os),H.tape.trans (N.tape.trans O.tape),H.output.trans (N.output.trans O.output),Nat.le_trans (Nat.le_trans aa Y) H.size,fun k A hn=>z k A fun e=>hn (.inr (.inr (.inr (.inr (.inr e))))),fun k A=>?_⟩
 rcases A with h|h|h|h|h|h
 ·exact .inl (.inl h)
 ·exact .inl (.inr (.inl h))
 ·exact .inl (.inr (.inr (.inl h)))
 ·exact .inl (.inr (.inr (.inr (.inl h))))
 ·exact .inl (.inr (.inr (.inr (.inr (.inl h)))))
 ·exact L.elim (fun e=>.inl (.inr (.inr (.inr (.inr (.inr (e.symm.trans h))))))) fun e=>.inr (by have:W.heap.size=k:=Option.some.inj (e.symm.trans h);omega)
abbrev PRN:=Except Nat (PS×ByteArray)
def zaS (y:PRN):PR:=bd y fun a=>.ok a.1
def withN (y:PRN) (F:PR→ByteArray→PR):PRN:=bd y fun a=>bd (F (.ok a.1) a.2) fun q=>.ok (q,a.2)
def zcJ (C:Cx) (q:PS):PRN:=withN (bd (ze C 1 zE q) (zo C false)) fun x n=>bd (bd (bd (bd x (ze C 4 cEq)) (pE C .sum 0)) (ze C 4 cSemi)) (zW C 1 n)
def fnP (C:Cx) (q:PS):PRN:=
 withN (bd (ze C 1 zT q) (zo C false)) fun x n=>bd (bd (bd (bd (bd (bd (bd (bd x (ze C 4 zr)) (ze C 4 za8)) (ze C 4 zL)) (ze C 1 zeq)) (pE C .sum 0)) (ze C 4 cSemi)) (ze C 4 zbz)) (zW C 2 n)
def asP (C:Cx) (exp:Bool) (a:PS×ByteArray):PRN:=
 if isT C a.1.pos 1 sAs then zo C exp (adv a.1)
 else if (a.2.toList==[100,101,102,97,117,108,116])&& !exp then .error (zu C a.1.pos) else .ok a
abbrev PRL:=Except Nat (PS×List Ep)
def zdw (C:Cx) (exp:Bool):Nat→PS→List Ep→PRL
 |0,_,_=>.error 0
 |f+1,q,acc=>bd (zo C true q) fun a=>bd (asP C exp a) fun b=>
  if isT C b.1.pos 4 zbD then zdw C exp f (adv b.1) (acc++[⟨0,b.2,a.2,sNone⟩]) else bd (ze C 4 zbz b.1) fun q'=>.ok (q',acc++[⟨0,b.2,a.2,sNone⟩])
def za5 (C:Cx) (exp:Bool) (q:PS) (acc:List Ep):PRL:=zdw C exp (C.ts.length-q.pos+1) q acc
def zcY (C:Cx) (exp:Bool) (q:PS):PRL:=bd (ze C 4 zL q) fun q'=>za5 C exp q' []
def zaG (l:List Ep):Bool:=l.any fun x=>x.loc.toList==[100,101,102,97,117,108,116]
theorem zeW {C:Cx} {j:Bool} {a b:PS×ByteArray} (h:asP C j a= .ok b):a.1.pos≤b.1.pos:=by
 unfold asP at h
 split at h
 ·obtain⟨rfl,_⟩:=zb0 h
  show a.1.pos≤a.1.pos+1+1
  omega
 ·split at h
  ·cases h
  ·cases h
   exact Nat.le_refl _
theorem zml {C:Cx} {j:Bool} (f:Nat): ∀(g:Nat) (q:PS) (acc:List Ep),C.ts.length-q.pos<f→C.ts.length-q.pos<g→zdw C j f q acc=zdw C j g q acc:=by
 induction f with
 |zero=>intro g q acc h;omega
 |succ f z=>
  intro g q acc O M
  obtain⟨g,rfl⟩: ∃J,g=J+1:=⟨g-1,by omega⟩
  rw[zdw,zdw]
  refine zag fun a A=>zag fun b I=>?_
  split
  ·next L=>
   obtain⟨rfl,w⟩:=zb0 A
   have H:=zeW I
   have N:=za9 L (by decide)
   have U:=zeQ w
   simp only[zA] at H
   exact z g _ _ (by rw[zA];omega) (by rw[zA];omega)
  ·rfl
theorem zfI (C:Cx) (h:Bool) (q:PS) (acc:List Ep):za5 C h q acc=bd (zo C true q) fun a=>bd (asP C h a) fun b=>
  if isT C b.1.pos 4 zbD then za5 C h (adv b.1) (acc++[⟨0,b.2,a.2,sNone⟩]) else bd (ze C 4 zbz b.1) fun q'=>.ok (q',acc++[⟨0,b.2,a.2,sNone⟩]):=by
 rw[za5,zdw]
 refine zag fun a w=>zag fun b A=>?_
 split
 ·next H=>
  obtain⟨rfl,j⟩:=zb0 w
  have z:=zeW A
  have I:=za9 H (by decide)
  have J:=zeQ j
  simp only[zA] at z
  exact zml _ _ _ _ (by rw[zA];omega) (by rw[zA];omega)
 ·rfl
def zX {α:Type} (f:α→PS→PR):List α→PR→PR
 |[],x=>x
 |a::l,x=>zX f l (bd x (f a))
def zcb (s:ByteArray) (e:Ep):Im:=⟨s,e.loc,e.name⟩
def zaL (C:Cx) (x:PR):PRN:=bd (bd x (ze C 1 zU)) (zJ C)
def zbg (C:Cx) (y:PRN):PRN:=bd y fun a=>bd (ze C 4 cSemi a.1) fun q=>.ok (q,a.2)
def zaY (C:Cx) (q:PS):PR:=
 bd (ze C 1 zan q) fun q=>
  if isT C q.pos 4 zL then bd (zcY C false q) fun a=>bd (zbg C (zaL C (.ok a.1))) fun b=>zX (fun e=>zao C (zcb b.2 e)) a.2 (.ok b.1)
  else if isT C q.pos 4 zz then bd (bd (bd (ze C 4 zz q) (ze C 1 sAs)) (zo C false)) fun a=>bd (zbg C (zaL C (.ok a.1))) fun b=>zao C ⟨b.2,zz,a.2⟩ b.1
  else if zF C q.pos false then bd (zo C false q) fun a=>bd (zbg C (zaL C (.ok a.1))) fun b=>zao C ⟨b.2,sDefault,a.2⟩ b.1
  else bd (zJ C q) fun a=>ze C 4 cSemi a.1
def zD (e:Ep):Ep:=⟨1,e.name,e.loc,sNone⟩
def zav (s:ByteArray) (e:Ep):Ep:=⟨2,e.name,e.loc,s⟩
def zap (C:Cx) (q:PS):PR:=
 bd (ze C 1 zal q) fun q=>
  if isT C q.pos 4 zL then bd (zcY C true q) fun a=>
   if !zaG a.2&& !isT C a.1.pos 1 zU then bd (ze C 4 cSemi a.1) fun q=>zX (fun e=>zs C (zD e)) a.2 (.ok q)
   else bd (zbg C (zaL C (.ok a.1))) fun b=>zX (fun e=>zs C (zav b.2 e)) a.2 (.ok b.1)
  else if isT C q.pos 4 zz then bd (zbg C (zaL C (ze C 4 zz q))) fun b=>zs C ⟨3,sNone,sNone,b.2⟩ b.1
  else if isT C q.pos 1 sDefault then bd (bd (bd (bd (ze C 1 sDefault q) (pE C .sum 0)) (ze C 4 cSemi)) (zW C 1 zci)) (zs C ⟨1,sDefault,zci,sNone⟩)
  else if isT C q.pos 1 zE then bd (zcJ C q) fun a=>zs C ⟨1,a.2,a.2,sNone⟩ a.1
  else if isT C q.pos 1 zT then bd (fnP C q) fun a=>zs C ⟨1,a.2,a.2,sNone⟩ a.1
  else .error (zu C q.pos)
def zC (C:Cx) (q:PS):PR:=
 if !C.scr&&isT C q.pos 1 zan then zaY C q
 else if !C.scr&&isT C q.pos 1 zal then zap C q
 else if isT C q.pos 1 zE then zaS (zcJ C q)
 else if isT C q.pos 1 zT then zaS (fnP C q)
 else if isT C q.pos 1 zay then bd (bd (bd (bd (bd (ze C 1 zay q) (ze C 4 zr)) (pE C .sum 0)) (ze C 4 za8)) (ze C 4 cSemi)) (zW C 4 sNone)
 else if isT C q.pos 1 zaA then bd (bd (bd (ze C 1 zaA q) (pE C .sum 0)) (ze C 4 cSemi)) (zW C 5 sNone)
 else if C.scr&&isT C q.pos 1 zbR then bd (bd (bd (ze C 1 zbR q) (pE C .sum 0)) (ze C 4 cSemi)) (zW C 6 sNone)
 else bd (zo C false q) fun a=>bd (bd (bd (ze C 4 cEq a.1) (pE C .sum 0)) (ze C 4 cSemi)) (zW C 3 a.2)
theorem za6 {C:Cx} {k:Int} {s:ByteArray} {q q':PS} (h:ze C k s q= .ok q'):q.pos+1=q'.pos:=by
 obtain⟨rfl,_⟩:=zbT h
 rfl
theorem zev {C:Cx} {o:Bool} {q:PS} {a:PS×ByteArray} (h:zo C o q= .ok a):q.pos+1=a.1.pos:=by
 obtain⟨rfl,_⟩:=zb0 h
 rfl
theorem ziz {C:Cx} {q:PS} {a:PS×ByteArray} (h:zJ C q= .ok a):q.pos+1=a.1.pos:=by
 unfold zJ at h
 split at h
 ·split at h
  ·cases h;rfl
  ·split at h
   ·cases h
   ·cases h;rfl
 ·cases h
theorem zew {C:Cx} {k:Int} {n:ByteArray} {q q':PS} (h:zW C k n q= .ok q'):q.pos=q'.pos:=by
 unfold zW at h
 split at h
 ·cases h
 ·cases h;rfl
theorem zgY {C:Cx} {y:Im} {q q':PS} (h:zao C y q= .ok q'):q.pos=q'.pos:=by
 unfold zao at h
 split at h
 ·cases h
 ·cases h;rfl
theorem zex {C:Cx} {y:Ep} {q q':PS} (h:zs C y q= .ok q'):q.pos=q'.pos:=by
 unfold zs at h
 split at h
 ·cases h
 ·split at h
  ·cases h;rfl
  ·cases h;rfl
theorem zgZ {α:Type} {f:α→PS→PR} (j: ∀a q q',f a q= .ok q'→q.pos=q'.pos) (l:List α): ∀(x:PR) (q':PS),zX f l x= .ok q'→∃q,x= .ok q∧q.pos=q'.pos:=by
 induction l with
 |nil=>intro x q' h;exact⟨q',h,rfl⟩
 |cons a l w=>
  intro x q' h
  obtain⟨b,H,z⟩:=w _ _ h
  obtain⟨c,I,A⟩:=zp H
  exact⟨c,I,(j _ _ _ A).trans z⟩
theorem zi0 {C:Cx} {w:Bool} (m:Nat): ∀(q:PS) (acc:List Ep) (a:PS×List Ep),C.ts.length-q.pos<m→za5 C w q acc= .ok a→q.pos≤a.1.pos:=by
 induction m with
 |zero=>intro q acc a h;omega
 |succ m H=>
  intro q acc a O h
  rw[zfI] at h
  obtain⟨b,J,I⟩:=zp h
  obtain⟨c,M,j⟩:=zp I
  have U:=zev J
  have V:=zeW M
  split at j
  ·next N=>
   have A:=za9 N (by decide)
   have:=H _ _ _ (by rw[zA];omega) j
   rw[zA] at this
   omega
  ·obtain⟨d,L,z⟩:=zp j
   have A:=za6 L
   cases z
   show q.pos≤d.pos
   omega
theorem zeX {C:Cx} {x:PR} {b:PS×ByteArray} (h:zbg C (zaL C x)= .ok b): ∃q,x= .ok q∧q.pos≤b.1.pos:=by
 obtain⟨a,H,z⟩:=zp h
 obtain⟨c,L,A⟩:=zp z
 obtain⟨d,J,j⟩:=zp H
 obtain⟨e,I,w⟩:=zp J
 have M:=za6 L
 have O:=ziz j
 have N:=za6 w
 cases A
 exact⟨e,I,by show e.pos≤c.pos;omega⟩
theorem zmm {C:Cx} {q q':PS} (h:zaY C q= .ok q'):q.pos<q'.pos:=by
 obtain⟨q1,X,w⟩:=zp h
 have Z:=za6 X
 split at w
 ·obtain⟨a,A,z⟩:=zp w
  obtain⟨b,L,H⟩:=zp z
  obtain⟨c,U,N⟩:=zp A
  obtain⟨d,M,I⟩:=zeX L
  obtain⟨f,j,J⟩:=zgZ (fun _ _ _ h=>zgY h) _ _ _ H
  have V:=za6 U
  have O:=zi0 _ _ _ _ (Nat.lt_succ_self _) N
  cases M
  cases j
  omega
 ·split at w
  ·obtain⟨a,A,z⟩:=zp w
   obtain⟨b,L,H⟩:=zp z
   obtain⟨c,U,N⟩:=zp A
   obtain⟨d,M,I⟩:=zp U
   obtain⟨f,j,J⟩:=zeX L
   have V:=zgY H
   have O:=zev N
   have e4:=za6 M
   have Y:=za6 I
   cases j
   omega
  ·split at w
   ·obtain⟨a,A,z⟩:=zp w
    obtain⟨b,L,H⟩:=zp z
    obtain⟨f,j,J⟩:=zeX L
    have V:=zgY H
    have O:=zev A
    cases j
    omega
   ·obtain⟨a,A,z⟩:=zp w
    have V:=ziz A
    have O:=za6 z
    omega
theorem zi1 {y:PRN} {F:PR→ByteArray→PR} {a:PS×ByteArray} (h:withN y F= .ok a): ∃b,y= .ok b∧F (.ok b.1) b.2= .ok a.1:=by
 obtain⟨b,j,w⟩:=zp h
 obtain⟨c,A,z⟩:=zp w
 cases z
 exact⟨b,j,A⟩
theorem zi2 {C:Cx} {q:PS} {a:PS×ByteArray} (h:zcJ C q= .ok a):q.pos<a.1.pos:=by
 obtain⟨b,J,H⟩:=zi1 h
 obtain⟨c,N,I⟩:=zp J
 obtain⟨d,M,w⟩:=zp H
 obtain⟨f,L,A⟩:=zp M
 obtain⟨g,z,j⟩:=zp L
 have U:=za6 N
 have Z:=zev I
 have V:=za6 (show ze C 4 cEq b.1= .ok g from z)
 have Y:=zbf j
 have O:=za6 A
 have X:=zew w
 omega
theorem zi3 {C:Cx} {q:PS} {a:PS×ByteArray} (h:fnP C q= .ok a):q.pos<a.1.pos:=by
 obtain⟨b,V,O⟩:=zi1 h
 obtain⟨c,h3,U⟩:=zp V
 obtain⟨d,Y,h6⟩:=zp O
 obtain⟨f,X,h8⟩:=zp Y
 obtain⟨g,h9,H⟩:=zp X
 obtain⟨i,L,I⟩:=zp h9
 obtain⟨j,w,z⟩:=zp L
 obtain⟨k,J,M⟩:=zp w
 obtain⟨l,A,N⟩:=zp J
 have e1:=za6 h3
 have e2:=zev U
 have e3:=za6 (show ze C 4 zr b.1= .ok l from A)
 have e4:=za6 N
 have e5:=za6 M
 have e6:=za6 z
 have e7:=zbf I
 have e8:=za6 H
 have e9:=za6 h8
 have Z:=zew h6
 omega
theorem zmn {C:Cx} {q q':PS} (h:zap C q= .ok q'):q.pos<q'.pos:=by
 obtain⟨q1,X,j⟩:=zp h
 have e1:=za6 X
 split at j
 ·obtain⟨a,I,w⟩:=zp j
  obtain⟨c,U,V⟩:=zp I
  have M:=za6 U
  have N:=zi0 _ _ _ _ (Nat.lt_succ_self _) V
  split at w
  ·obtain⟨b,A,J⟩:=zp w
   obtain⟨f,H,O⟩:=zgZ (fun _ _ _ h=>zex h) _ _ _ J
   have Y:=za6 A
   cases H
   omega
  ·obtain⟨b,A,J⟩:=zp w
   obtain⟨d,L,z⟩:=zeX A
   obtain⟨f,H,O⟩:=zgZ (fun _ _ _ h=>zex h) _ _ _ J
   cases L
   cases H
   omega
 ·split at j
  ·obtain⟨b,A,J⟩:=zp j
   obtain⟨d,L,z⟩:=zeX A
   have M:=za6 L
   have N:=zex J
   omega
  ·split at j
   ·obtain⟨a,I,w⟩:=zp j
    obtain⟨b,A,J⟩:=zp I
    obtain⟨c,U,V⟩:=zp A
    obtain⟨d,L,z⟩:=zp U
    have M:=za6 L
    have N:=zbf z
    have Y:=za6 V
    have Z:=zew J
    have e6:=zex w
    omega
   ·split at j
    ·obtain⟨a,I,w⟩:=zp j
     have M:=zi2 I
     have N:=zex w
     omega
    ·split at j
     ·obtain⟨a,I,w⟩:=zp j
      have M:=zi3 I
      have N:=zex w
      omega
     ·cases j
theorem zi4 {C:Cx} {s:ByteArray} {k:Int} {n:ByteArray} {q q':PS} (h:bd (bd (bd (ze C 1 s q) (pE C .sum 0)) (ze C 4 cSemi)) (zW C k n)= .ok q'):q.pos<q'.pos:=by
 obtain⟨a,A,w⟩:=zp h
 obtain⟨b,I,z⟩:=zp A
 obtain⟨c,H,j⟩:=zp I
 have J:=za6 H
 have N:=zbf j
 have L:=za6 z
 have M:=zew w
 omega
theorem zfJ {C:Cx} {q q':PS} (h:zC C q= .ok q'):q.pos<q'.pos:=by
 unfold zC at h
 split at h
 ·exact zmm h
 ·split at h
  ·exact zmn h
  ·split at h
   ·obtain⟨a,w,j⟩:=zp h
    cases j
    exact zi2 w
   ·split at h
    ·obtain⟨a,w,j⟩:=zp h
     cases j
     exact zi3 w
    ·split at h
     ·obtain⟨a,w,j⟩:=zp h
      obtain⟨b,M,I⟩:=zp w
      obtain⟨c,L,z⟩:=zp M
      obtain⟨d,J,A⟩:=zp L
      obtain⟨e,O,H⟩:=zp J
      have U:=za6 O
      have Y:=za6 H
      have V:=zbf A
      have X:=za6 z
      have N:=za6 I
      have Z:=zew j
      omega
     ·split at h
      ·exact zi4 h
      ·split at h
       ·exact zi4 h
       ·obtain⟨a,w,j⟩:=zp h
        obtain⟨b,M,I⟩:=zp j
        obtain⟨c,L,z⟩:=zp M
        obtain⟨d,J,A⟩:=zp L
        have U:=zev w
        have Y:=za6 J
        have V:=zbf A
        have X:=za6 z
        have N:=zew I
        omega
def zdx (C:Cx):Nat→PS→PR
 |0,_=>.error 0
 |f+1,q=>if q.pos<C.ts.length then bd (zC C q) (zdx C f) else .ok q
def zaz (C:Cx) (q:PS):PR:=zdx C (C.ts.length-q.pos+1) q
theorem zmo {C:Cx} (f:Nat): ∀(g:Nat) (q:PS),C.ts.length-q.pos<f→C.ts.length-q.pos<g→zdx C f q=zdx C g q:=by
 induction f with
 |zero=>intro g q h;omega
 |succ f j=>
  intro g q H A
  obtain⟨g,rfl⟩: ∃z,g=z+1:=⟨g-1,by omega⟩
  rw[zdx,zdx]
  split
  ·refine zag fun a w=>?_
   have:=zfJ w
   exact j g a (by omega) (by omega)
  ·rfl
theorem zfK (C:Cx) (q:PS):zaz C q=if q.pos<C.ts.length then bd (zC C q) (zaz C) else .ok q:=by
 rw[zaz,zdx]
 split
 ·refine zag fun a h=>?_
  have:=zfJ h
  exact zmo _ _ _ (by omega) (by omega)
 ·rfl
def zbV:PS:=⟨0,[],[],[],[],[],[]⟩
def zb4 (s:ByteArray) (scr:Bool) (y:PR):Prop:=∃r,zak s scr r∧y=match r with
 | .error p=>.error p
 | .ok ts=>zaz ⟨ts,s.size,scr⟩ zbV
theorem zi5 {s:ByteArray} {h:Bool} {j w:PR} (I:zb4 s h j) (z:zb4 s h w):j=w:=by
 obtain⟨L,A,rfl⟩:=I
 obtain⟨J,H,rfl⟩:=z
 obtain rfl:=zlU A H
 rfl
theorem zmp {s:ByteArray} {A:Bool} {a n:Nat} {r:Except Nat (List Tk)} (h:Lx s A a n r): ∀w,r= .ok w→n≤4000→w.length+n≤4000:=by
 induction h using Lx.ind with
 |done=>intro w z H;cases z;simpa using H
 |bad _ _=>intro w z H;cases z
 | @tok a n e b t r h H J L z I=>
  intro w j _
  cases r with
  |error p=>simp[Except.map] at j
  |ok l=>
   simp only[Except.map,Except.ok.injEq] at j
   subst j
   have:=I l rfl (by omega)
   simp only[List.length_cons]
   omega
theorem zi6 {s:ByteArray} {w:Bool} {j:List Tk} (h:zak s w (.ok j)):j.length≤4000:=by
 obtain⟨a,_,z⟩:=h
 have:=zmp z j rfl (by omega)
 omega
def R0:Rw:=⟨none,0⟩
def S0:Sv:=⟨R0,R0,R0,R0,R0,R0⟩
theorem zcK (w:World) (h size:Nat) (e:TypeId):OwnR w h e size R0 0 []:=World.ownsRow_nil w h e size
theorem zmq (w:World) (j:Nat):Own w j S0 zbV:=
 ⟨zcK _ _ _ _,zcK _ _ _ _,zcK _ _ _ _,zcK _ _ _ _,zcK _ _ _ _,zcK _ _ _ _,fun k h=>by simp[S0,R0,Rw.blk,Value.ownBlock] at h⟩
theorem zi7 {w:World} {j g z:Nat} {A:List Tk} {n:Nat} {H:Bool} (h:OwnT w j 143 g A.length z A) (I:A.length≤4000) (J:j≤w.heap.size):Mem ⟨A,n,H⟩ g z j S0 zbV w:=
 ⟨zmq _ _,⟨Nat.zero_le _,Nat.zero_le _,Nat.zero_le _,Nat.zero_le _,Nat.zero_le _,Nat.zero_le _⟩,h,I,J⟩
structure OwnMod (w:World) (base:Nat) (S:Sv) (q:PS):Prop where
 rq:OwnR w base 9 1 S.rq q.rq.length (q.rq.map .string)
 im:OwnR w base 84 3 S.im q.im.length (q.im.flatMap imL)
 ep:OwnR w base 86 4 S.ep (q.ep++q.la).length ((q.ep++q.la).flatMap epL)
 st:OwnR w base 107 3 S.st q.st.length (q.st.flatMap smL)
 ex:OwnR w base 109 6 S.ex q.ex.length (q.ex.flatMap exL)
 inv:q.rq.length≤40∧q.im.length≤40∧q.ep.length+q.la.length≤40∧q.st.length≤80∧q.ex.length≤300
def zfL (S:Sv) (q:PS):Value:=.agg #[.slice S.rq.a q.rq.length S.rq.cap,.slice S.im.a q.im.length S.im.cap,.slice S.ep.a (q.ep++q.la).length S.ep.cap,.slice S.st.a q.st.length S.st.cap,.slice S.ex.a q.ex.length S.ex.cap]
def ParseOut (s:ByteArray) (scr:Bool) (w:World) (e:Ending) (w':World):Prop:=
 ∃y,zb4 s scr y∧match y with
  | .ok q=>∃S,e= .returned (.tuple #[zfL S q,.int .i64 (-1)])∧OwnMod w' w.heap.size S q
  | .error p=>e= .returned (.tuple #[.agg #[.slice none 0 0,.slice none 0 0,.slice none 0 0,.slice none 0 0,.slice none 0 0],.int .i64 p])
theorem OwnR.low {w:World} {z j size n:Nat} {e:TypeId} {r:Rw} {xs:List Value} (h:OwnR w z e size r n xs) (L:j≤z):OwnR w j e size r n xs:=by
 refine⟨h.1,?_⟩
 rcases h.2 with H|⟨g,I,A,H,J,rest⟩
 ·exact .inl H
 ·exact .inr ⟨g,I,A,H,Nat.le_trans L J,rest⟩
theorem OwnR.nil_or {w:World} {z size n:Nat} {e:TypeId} {r:Rw} {xs:List Value} (h:OwnR w z e size r n xs):(r.a=none∧r.cap=0∧n=0)∨∃g,r.a=some ⟨g,0,none⟩:=by
 rcases h.2 with ⟨j,I⟩|⟨g,H,A,j,_⟩
 ·simp only[Value.slice.injEq] at j
  exact .inl ⟨j.1,j.2.2,I⟩
 ·simp only[Value.slice.injEq] at j
  exact .inr ⟨g,j.1⟩
theorem zmr {P:Program} (W:World) {ops:Array Oper} {rest:List Oper} {o:Oper} {a:Act} {Q:Exit→Act→World→Prop} (Z:o.guard=none) (s x:Operand) (t:TypeId)
  (ho:o.op= .call {callee:=.builtin .append,args:=#[s,x],argTypes:=#[t,t]})
  (H:Nat) (e:TypeId) (i:TypeInfo) (z:Value) (size w:Nat) (ht:P.underlying t=some (.slice e)) (hi:P.info? e=some i) (hz:i.zero=some z) (J:i.size=size) (ac:i.bytes=w) (ad:z.cells.size=size) (ab:0<size) (U:w≤100)
  (r:Rw) (n:Nat) (xs:List Value) (hs:a.eval s= .slice r.a n r.cap) (N:OwnR W H e size r n xs)
  (V m c M:Nat) (A:List Value) (hx:a.eval x= .slice (some ⟨V,0,none⟩) m c) (hg:OwnR W M e size ⟨some ⟨V,0,none⟩,c⟩ m A) (h1: ∀u∈A,u.oneCell'=true) (hn:n+m≤1000000) (L:H≤W.heap.size)
  (h: ∀O w',OwnR w' H e size O (n+m) (xs++A)→W.grownBy w' r.blk→(O.blk=r.blk∨O.blk=some W.heap.size)→wpList P ops Q rest (a.put o.dst (.slice O.a (n+m:Nat) O.cap)) w'):
  wpList P ops Q (o::rest) a W:=by
 refine wpList_append_own_at _ Z s x t ho H e i z size w ht hi hz J ac ad ab _ n _ hs N ⟨V,0,none⟩ m c A hx hg.1 ?_ h1 ?_ ?_ L ?_
 ·intro j u hj
  have e1:(⟨V,0,none⟩:Addr).add j=⟨V,j,none⟩:=by simp[Addr.add];exact fun h=>h.symm
  have aa:j<A.length:=(List.getElem?_eq_some_iff.1 hj).1
  rw[e1,World.ownsRow.cellAt hg j (by rw[←hg.1];exact aa)]
  exact hj
 ·unfold maxLen;omega
 ·have:(n+m)*w≤1000000*100:=Nat.mul_le_mul hn U
  omega
 ·intro v' w' Y k2 k3 k4
  rcases Y.2 with ⟨hv,X⟩|⟨g',I,af,rfl,ae⟩
  ·subst hv
   have:=h ⟨none,0⟩ w' (by rw[X] at Y ⊢;exact Y) (by rw[←zb3 r n];exact k2) (by rw[←zb3 r n];exact k4)
   rw[X] at this
   exact this
  ·refine h ⟨some ⟨g',0,none⟩,I⟩ w' Y ?_ ?_
   ·rw[←zb3 r n];exact k2
   ·rw[←zb3 r n,←zb3 ⟨some ⟨g',0,none⟩,I⟩ (n+m)];exact k4
theorem zms {P:Program} (W:World) {ops:Array Oper} {rest:List Oper} {o:Oper} {a:Act} {Q:Exit→Act→World→Prop} (z:o.guard=none) (s x:Operand) (t:TypeId)
  (L:o.op= .call {callee:=.builtin .append,args:=#[s,x],argTypes:=#[t,t]})
  (e:TypeId) (i:TypeInfo) (H:P.underlying t=some (.slice e)) (I:P.info? e=some i) (w size n:Nat)
  (r:Rw) (xs:List Value) (U:a.eval s= .slice r.a n r.cap) (j:OwnR W w e size r n xs) (V:a.eval x= .slice none 0 0)
  (h:wpList P ops Q rest (a.put o.dst (.slice r.a n r.cap)) W):wpList P ops Q (o::rest) a W:=by
 have M:(Builtin.append_ #[t,t] o.type #[.slice r.a n r.cap,.slice none 0 0]).run P W= .ok (.slice r.a n r.cap) W:=by
  rcases j.2 with ⟨A,_⟩|⟨g,O,J,A,_,_,X,_⟩
  ·rw[A]
   simp[Builtin.append_,run_underlying H,sizeOf,typeInfo,I,Builtin.lenOf,Builtin.firstCells]
  ·rw[A]
   simp[Builtin.append_,run_underlying H,sizeOf,typeInfo,I,Builtin.lenOf,Builtin.firstCells,loadCells,X,storeCells]
 refine wpList_plain z fun K N=>?_
 unfold Oper.wp execOp
 simp only[L,resolve,invoke,builtin,Sem.run_bind,Sem.run_pure,Result.andThen_ok,List.map_toArray,List.map_cons,List.map_nil,U,V,M]
 exact N _ _ h
theorem zfM (l:List Ep): ∀u∈l.flatMap epL,u.oneCell'=true:=by
 intro u h
 rw[List.mem_flatMap] at h
 obtain⟨x,_,j⟩:=h
 simp[epL] at j
 rcases j with rfl|rfl|rfl|rfl<;>rfl
theorem Mem.whole {C:Cx} {gt M j b B:Nat} {S:Sv} {q:PS} {W w' O:World} {I:Rw} (A:Mem C gt M j S q W) (Y:W.grownBy w' S.ep.blk) (X:OwnR w' j 86 4 I (q.ep.length+q.la.length) (q.ep.flatMap epL++q.la.flatMap epL)) (L:I.blk=S.ep.blk∨I.blk=some W.heap.size) (hB:B<j) (hb:b<W.heap.size) (w: ¬S.has b)
  (V: ∀k,k≠B→k≠b→O.heap[k]? =w'.heap[k]?):OwnMod O B {S with ep:=I} q:=by
 have H:(q.ep++q.la).length=q.ep.length+q.la.length:=by simp
 have J: ∀(r:Rw) (e:TypeId) (z n:Nat) (U:List Value),OwnR W j e z r n U→e≠86→(∀k,r.blk=some k→S.has k)→OwnR O B e z r n U:=fun r e z n U h he hs=>
  ((h.keep fun k g=>(V k (by have:=(h.typed g).1;omega) (fun N=>w (by rw[←N];exact hs k g))).trans (Y.block k (h.typed g).2.1 fun Z=>(h.ne A.own.ep he g) Z.symm)).low (by omega))
 refine⟨J _ _ _ _ _ A.own.rq (by decide) fun k g=>.inl g,J _ _ _ _ _ A.own.im (by decide) fun k g=>.inr (.inl g),?_,J _ _ _ _ _ A.own.st (by decide) fun k g=>.inr (.inr (.inr (.inl g))),J _ _ _ _ _ A.own.ex (by decide) fun k g=>.inr (.inr (.inr (.inr (.inl g)))),A.inv.rq,A.inv.im,A.inv.ep,A.inv.st,A.inv.ex⟩
 rw[H,List.flatMap_append]
 refine (X.keep fun k g=>V k (by have:=(X.typed g).1;omega) ?_).low (by omega)
 rcases L with e|e
 ·intro N
  exact w (by rw[←N];exact .inr (.inr (.inl (by rw[←e];exact g))))
 ·have:W.heap.size=k:=Option.some.inj (e.symm.trans g)
  omega
theorem Mem.whole0 {C:Cx} {U J j b B:Nat} {S:Sv} {q:PS} {W L:World} (z:Mem C U J j S q W) (M:q.la=[]) (X:B<j) (A: ¬S.has b)
  (V: ∀k,k≠B→k≠b→L.heap[k]? =W.heap[k]?):OwnMod L B S q:=by
 have H: ∀(r:Rw) (e:TypeId) (w n:Nat) (I:List Value),OwnR W j e w r n I→(∀k,r.blk=some k→S.has k)→OwnR L B e w r n I:=fun r e w n I h O=>
  ((h.keep fun k g=>V k (by have:=(h.typed g).1;omega) (fun N=>A (by rw[←N];exact O k g))).low (by omega))
 refine⟨H _ _ _ _ _ z.own.rq fun k g=>.inl g,H _ _ _ _ _ z.own.im fun k g=>.inr (.inl g),?_,H _ _ _ _ _ z.own.st fun k g=>.inr (.inr (.inr (.inl g))),H _ _ _ _ _ z.own.ex fun k g=>.inr (.inr (.inr (.inr (.inl g)))),z.inv.rq,z.inv.im,z.inv.ep,z.inv.st,z.inv.ex⟩
 rw[M,List.append_nil]
 exact H _ _ _ _ _ z.own.ep fun k g=>.inr (.inr (.inl g))
theorem zg {w:World} {b:Nat} {t:TypeId} {v0 v1 v2 v3 v4:Value} (h:w.heap[b]? =some (.cells #[v0,v1,v2,v3,v4] t (0,0))):
  w.cell? ⟨b,0,none⟩=some v0∧w.cell? ⟨b,1,none⟩=some v1∧w.cell? ⟨b,2,none⟩=some v2∧w.cell? ⟨b,3,none⟩=some v3∧w.cell? ⟨b,4,none⟩=some v4∧∀i,w.frozen? ⟨b,i,none⟩=false:=by
 refine⟨?_,?_,?_,?_,?_,fun i=>?_⟩<;>simp[World.cell?,World.frozen?,h]
theorem zam {w:World} {b i:Nat} {j:Array Value} {u:Value} {t:TypeId} (h:w.heap[b]? =some (.cells j t (0,0))):(w.setCell ⟨b,i,none⟩ u).heap[b]? =some (.cells (j.setIfInBounds i u) t (0,0)):=by
 simp only[World.setCell,Array.getElem?_modify]
 rw[if_pos trivial,h]
 rfl
theorem zbH {w:World} {b:Nat} {v0 v1 v2 v3 v4 x0 x1 x2 x3 x4:Value} {t:TypeId} (h:w.heap[b]? =some (.cells #[v0,v1,v2,v3,v4] t (0,0))):
  (((((w.setCell ⟨b,0,none⟩ x0).setCell ⟨b,1,none⟩ x1).setCell ⟨b,2,none⟩ x2).setCell ⟨b,3,none⟩ x3).setCell ⟨b,4,none⟩ x4).heap[b]? =some (.cells #[x0,x1,x2,x3,x4] t (0,0)):=by
 have e:=zam (i:=4) (u:=x4) (zam (i:=3) (u:=x3) (zam (i:=2) (u:=x2) (zam (i:=1) (u:=x1) (zam (i:=0) (u:=x0) h))))
 rw[e]
 simp
theorem zbN {B:Nat} {a w:World} {b:Nat} (h:Below B a w) (j:B≤b) (x0 x1 x2 x3 x4:Value):Below B a (((((w.setCell ⟨b,0,none⟩ x0).setCell ⟨b,1,none⟩ x1).setCell ⟨b,2,none⟩ x2).setCell ⟨b,3,none⟩ x3).setCell ⟨b,4,none⟩ x4):=
 ((((h.setCell j _).setCell j _).setCell j _).setCell j _).setCell j _
end Go.Proofs.YtjdddblpfbmpaaaGreat
