/-
  A program under way in memory: its six rows,what a step leaves as it was. No program is spoken of but for the numbers of its types.
  One of the six rows of a program under way grows by one element: what holds behind it. No program is spoken of but for the numbers of its types.
  Items of programs,as plain functions. No program is spoken of.
  A whole program,as a plain function of its tokens: items one behind the other. No program is spoken of.
  A text has at most 4000 tokens. No program is spoken of.
  A program in memory,as Parse hands it back. No program is spoken of but for the numbers of its types.
-/
import Derived.Maps.AppendAt
import Derived.Test.YtjdddblpfbmpaaaGreatCmTokMem
namespace Go.Proofs.YtjdddblpfbmpaaaGreat
open Go.RowKit Go.PlainAid
def imL (x:Im):List Value:=[.string x.spec,.string x.first,.string x.loc]
def epL (x:Ep):List Value:=[.int .i64 x.kind,.string x.name,.string x.loc,.string x.spec]
def smL (x:Sm):List Value:=[.int .i64 x.kind,.string x.name,.int .i64 x.expr]
def exL (x:Ex):List Value:=[.int .i64 x.kind,.int .i64 x.num,.string x.name,.string x.field,.int .i64 x.l,.int .i64 x.r]
structure Rw where
 a:Option Addr
 cap:Nat
structure Sv where
 rq:Rw
 im:Rw
 ep:Rw
 st:Rw
 ex:Rw
 la:Rw
def Rw.blk (r:Rw):Option Nat:=(Value.slice r.a 0 r.cap).ownBlock
def Sv.has (S:Sv) (k:Nat):Prop:=S.rq.blk=some k∨S.im.blk=some k∨S.ep.blk=some k∨S.st.blk=some k∨S.ex.blk=some k∨S.la.blk=some k
def OwnR (w:World) (base:Nat) (e:TypeId) (size:Nat) (r:Rw) (n:Nat) (xs:List Value):Prop:=w.ownsRow base e size (.slice r.a n r.cap) n xs
theorem zb4 (r:Rw) (n:Nat):(Value.slice r.a n r.cap).ownBlock=r.blk:=by
 unfold Rw.blk Value.ownBlock
 cases r.a<;>rfl
structure Own (w:World) (base:Nat) (S:Sv) (q:PS):Prop where
 rq:OwnR w base 9 1 S.rq q.rq.length (q.rq.map .string)
 im:OwnR w base 84 3 S.im q.im.length (q.im.flatMap imL)
 ep:OwnR w base 86 4 S.ep q.ep.length (q.ep.flatMap epL)
 st:OwnR w base 107 3 S.st q.st.length (q.st.flatMap smL)
 ex:OwnR w base 109 6 S.ex q.ex.length (q.ex.flatMap exL)
 la:OwnR w base 86 4 S.la q.la.length (q.la.flatMap epL)
 apart: ∀k,S.ep.blk=some k→S.la.blk≠some k
theorem OwnR.typed {w:World} {j size n:Nat} {e:TypeId} {r:Rw} {xs:List Value} (h:OwnR w j e size r n xs) {k:Nat} (z:r.blk=some k):j≤k∧k<w.heap.size∧∃q,w.heap[k]? =some (.cells q e (0,0)):=by
 rcases h.2 with ⟨A,_⟩|⟨g,I,q,A,J,H,_⟩
 ·rw[←zb4 r n,A] at z
  simp[Value.ownBlock] at z
 ·rw[←zb4 r n,A] at z
  simp only[Value.ownBlock,Option.some.injEq] at z
  subst z
  exact⟨J,(Array.getElem?_eq_some_iff.1 H).1,q,H⟩
theorem OwnR.ne {w:World} {J b2 X M U Y:Nat} {z H:TypeId} {A q:Rw} {x1 x2:List Value} (V:OwnR w J z X A U x1) (O:OwnR w b2 H M q Y x2) (N:z≠H) {k:Nat} (I:A.blk=some k):q.blk≠some k:=by
 intro h
 obtain⟨_,_,c1,L⟩:=V.typed I
 obtain⟨_,_,Z,j⟩:=O.typed h
 rw[L] at j
 simp only[Option.some.injEq,Obj.cells.injEq] at j
 exact N j.2.1
theorem OwnR.keep {w w':World} {j size n:Nat} {e:TypeId} {r:Rw} {xs:List Value} (h:OwnR w j e size r n xs) (H: ∀k,r.blk=some k→w'.heap[k]? =w.heap[k]?):OwnR w' j e size r n xs:=by
 refine⟨h.1,?_⟩
 rcases h.2 with q|⟨g,A,z,q,I,J,rest⟩
 ·exact .inl q
 ·refine .inr ⟨g,A,z,q,I,?_,rest⟩
  rw[H g (by rw[←zb4 r n,q];rfl)]
  exact J
theorem Own.keep {w w':World} {j:Nat} {S:Sv} {q:PS} (h:Own w j S q) (z: ∀k,S.has k→w'.heap[k]? =w.heap[k]?):Own w' j S q:=
 ⟨h.rq.keep fun k e=>z k (.inl e),h.im.keep fun k e=>z k (.inr (.inl e)),h.ep.keep fun k e=>z k (.inr (.inr (.inl e))),h.st.keep fun k e=>z k (.inr (.inr (.inr (.inl e)))),
  h.ex.keep fun k e=>z k (.inr (.inr (.inr (.inr (.inl e))))),h.la.keep fun k e=>z k (.inr (.inr (.inr (.inr (.inr e))))),h.apart⟩
theorem Own.has {w:World} {j:Nat} {S:Sv} {q:PS} (h:Own w j S q) {k:Nat} (z:S.has k):j≤k∧k<w.heap.size:=by
 rcases z with e|e|e|e|e|e
 ·exact⟨(h.rq.typed e).1,(h.rq.typed e).2.1⟩
 ·exact⟨(h.im.typed e).1,(h.im.typed e).2.1⟩
 ·exact⟨(h.ep.typed e).1,(h.ep.typed e).2.1⟩
 ·exact⟨(h.st.typed e).1,(h.st.typed e).2.1⟩
 ·exact⟨(h.ex.typed e).1,(h.ex.typed e).2.1⟩
 ·exact⟨(h.la.typed e).1,(h.la.typed e).2.1⟩
theorem Own.later {w w':World} {j:Nat} {S:Sv} {q:PS} (h:Own w j S q) (z:Below w.heap.size w w'):Own w' j S q:=h.keep fun k e=>z.block k (h.has e).2
theorem Own.other {w:World} {H:Nat} {S:Sv} {q:PS} (h:Own w H S q) {k:Nat} {I:Array Value} {e:TypeId} {z:Nat×Nat} (A:w.heap[k]? =some (.cells I e z)) (N:e≠9) (L:e≠84) (J:e≠86) (M:e≠107) (O:e≠109): ¬S.has k:=by
 rintro (g|g|g|g|g|g)
 ·obtain⟨_,_,c,j⟩:=h.rq.typed g
  rw[A] at j
  simp only[Option.some.injEq,Obj.cells.injEq] at j
  exact N j.2.1
 ·obtain⟨_,_,c,j⟩:=h.im.typed g
  rw[A] at j
  simp only[Option.some.injEq,Obj.cells.injEq] at j
  exact L j.2.1
 ·obtain⟨_,_,c,j⟩:=h.ep.typed g
  rw[A] at j
  simp only[Option.some.injEq,Obj.cells.injEq] at j
  exact J j.2.1
 ·obtain⟨_,_,c,j⟩:=h.st.typed g
  rw[A] at j
  simp only[Option.some.injEq,Obj.cells.injEq] at j
  exact M j.2.1
 ·obtain⟨_,_,c,j⟩:=h.ex.typed g
  rw[A] at j
  simp only[Option.some.injEq,Obj.cells.injEq] at j
  exact O j.2.1
 ·obtain⟨_,_,c,j⟩:=h.la.typed g
  rw[A] at j
  simp only[Option.some.injEq,Obj.cells.injEq] at j
  exact J j.2.1
structure Stp (S:Sv) (w:World) (S':Sv) (w':World):Prop where
 os:w'.os=w.os
 tape:w'.tape=w.tape
 output:w'.output=w.output
 size:w.heap.size≤w'.heap.size
 block: ∀k,k<w.heap.size→¬S.has k→w'.heap[k]? =w.heap[k]?
 sub: ∀k,S'.has k→S.has k∨w.heap.size≤k
theorem Stp.refl (S:Sv) (w:World):Stp S w S w:=⟨rfl,rfl,rfl,Nat.le_refl _,fun _ _ _=>rfl,fun _ h=>.inl h⟩
theorem Stp.trans {S A q:Sv} {w z H:World} (h:Stp S w A z) (k:Stp A z q H):Stp S w q H:=
 ⟨k.os.trans h.os,k.tape.trans h.tape,k.output.trans h.output,Nat.le_trans h.size k.size,
  fun i j I=>(k.block i (Nat.lt_of_lt_of_le j h.size) fun g=>(h.sub i g).elim I fun J=>by omega).trans (h.block i j I),
  fun i j=>(k.sub i j).elim (h.sub i) fun g=>.inr (Nat.le_trans h.size g)⟩
theorem Stp.below {S:Sv} {w w':World} (h:Below w.heap.size w w'):Stp S w S w':=⟨h.os,h.tape,h.output,h.size,fun k j _=>h.block k j,fun _ g=>.inl g⟩
theorem Stp.under {S S':Sv} {w w':World} {j:Nat} {q:PS} (h:Stp S w S' w') (H:j≤w.heap.size) (z:Own w j S q):Below j w w':=
 ⟨h.os,h.tape,h.output,h.size,fun k A=>h.block k (by omega) fun g=>by have:=(z.has g).1;omega⟩
theorem Stp.grown {S S':Sv} {w w':World} {row:Option Nat} (j:w.grownBy w' row) (z: ∀k,row=some k→S.has k) (A: ∀k,S'.has k→S.has k∨w.heap.size≤k):Stp S w S' w':=
 ⟨j.os,j.tape,j.output,j.size,fun k q H=>j.block k q fun e=>H (z k e.symm),A⟩
structure Inv (C:Cx) (q:PS):Prop where
 pos:q.pos≤C.ts.length
 rq:q.rq.length≤40
 im:q.im.length≤40
 ep:q.ep.length+q.la.length≤40
 st:q.st.length≤80
 ex:q.ex.length≤300
structure Mem (C:Cx) (gt cap base:Nat) (S:Sv) (q:PS) (w:World):Prop where
 own:Own w base S q
 inv:Inv C q
 tok:OwnT w base 143 gt C.ts.length cap C.ts
 few:C.ts.length≤4000
 base:base≤w.heap.size
theorem Mem.later {C:Cx} {H z j:Nat} {S:Sv} {q:PS} {w w':World} (h:Mem C H z j S q w) (A:Below w.heap.size w w'):Mem C H z j S q w':=
 ⟨h.own.later A,h.inv,zcv h.tok A,h.few,Nat.le_trans h.base A.size⟩
theorem Mem.alloc {C:Cx} {A z j:Nat} {S:Sv} {q:PS} {w:World} (h:Mem C A z j S q w) (o:Obj):Mem C A z j S q (w.alloc o):=h.later ((Below.refl _ _).alloc (Nat.le_refl _) _)
theorem Own.to {w:World} {j:Nat} {S:Sv} {q q':PS} (h:Own w j S q) (I:q'.rq=q.rq) (A:q'.im=q.im) (L:q'.ep=q.ep) (H:q'.st=q.st) (J:q'.ex=q.ex) (z:q'.la=q.la):Own w j S q':=
 ⟨by rw[I];exact h.rq,by rw[A];exact h.im,by rw[L];exact h.ep,by rw[H];exact h.st,by rw[J];exact h.ex,by rw[z];exact h.la,h.apart⟩
theorem Mem.adv {C:Cx} {A z j:Nat} {S:Sv} {q:PS} {w:World} (h:Mem C A z j S q w) (H:q.pos<C.ts.length):Mem C A z j S (adv q) w:=
 ⟨h.own.to rfl rfl rfl rfl rfl rfl,⟨H,h.inv.rq,h.inv.im,h.inv.ep,h.inv.st,h.inv.ex⟩,h.tok,h.few,h.base⟩
theorem OwnR.alloc {w:World} {j size n:Nat} {e:TypeId} {r:Rw} {xs:List Value} (h:OwnR w j e size r n xs) (o:Obj):OwnR (w.alloc o) j e size r n xs:=
 h.keep fun k q=>Below.heap_alloc w o k (h.typed q).2.1
theorem zgc {w:World} {q g n A:Nat} {e:TypeId} {I:List Tk} (h:OwnT w q e g n A I): ∃j,w.heap[g]? =some (.cells j e (0,0)):=by
 rcases h.1.2 with ⟨z,_⟩|⟨N,H,j,z,L,J,M,_⟩
 ·simp at z
 ·simp only[Value.slice.injEq,Option.some.injEq,Addr.mk.injEq,and_true,true_and] at z
  obtain⟨rfl,rfl⟩:=z
  exact⟨j,J⟩
theorem zbI {w w':World} {j g n z:Nat} {e:TypeId} {H:List Tk} (h:OwnT w j e g n z H) (L:w'.heap[g]? =w.heap[g]?):OwnT w' j e g n z H:=by
 refine⟨⟨h.1.1,?_⟩,h.2⟩
 rcases h.1.2 with k|⟨O,J,A,I,q,N,M⟩
 ·exact .inl k
 ·simp only[Value.slice.injEq,Option.some.injEq,Addr.mk.injEq,and_true,true_and] at I
  obtain⟨rfl,rfl⟩:=I
  exact .inr ⟨g,z,A,rfl,q,L.trans N,M⟩
theorem Mem.gt_free {C:Cx} {A z j:Nat} {S:Sv} {q:PS} {w:World} (h:Mem C A z j S q w): ¬S.has A:=by
 obtain⟨H,I⟩:=zgc h.tok
 exact h.own.other I (by decide) (by decide) (by decide) (by decide) (by decide)
structure Off (lo hi:Nat) (w w':World):Prop where
 os:w'.os=w.os
 tape:w'.tape=w.tape
 output:w'.output=w.output
 size:w.heap.size≤w'.heap.size
 block: ∀k,k<lo∨hi≤k∧k<w.heap.size→w'.heap[k]? =w.heap[k]?
theorem Off.refl (j q:Nat) (w:World):Off j q w w:=⟨rfl,rfl,rfl,Nat.le_refl _,fun _ _=>rfl⟩
theorem Off.set {j q:Nat} {w w':World} (h:Off j q w w') {b:Nat} (H:j≤b) (A:b<q) (i:Nat) (u:Value):Off j q w (w'.setCell ⟨b,i,none⟩ u):=
 ⟨h.os,h.tape,h.output,by show _≤(w'.heap.modify _ _).size;simp;exact h.size,fun k z=>(Below.heap_setCell w' ⟨b,i,none⟩ u k (by show k≠b;omega)).trans (h.block k z)⟩
theorem Off.below {z H:Nat} {w q A:World} (h:Off z H w q) (j:Below q.heap.size q A) (J:z≤w.heap.size):Off z H w A:=
 ⟨j.os.trans h.os,j.tape.trans h.tape,j.output.trans h.output,Nat.le_trans h.size j.size,fun k I=>(j.block k (by have:=h.size;omega)).trans (h.block k I)⟩
theorem Off.set12 {A I:Nat} {a w:World} (h:Off A I a w) {b:Nat} (q:A≤b) (j:b<I) (x0 x1 x2 x3 x4 O L N J M z H:Value):
  Off A I a ((((((((((((w.setCell ⟨b,0,none⟩ x0).setCell ⟨b,1,none⟩ x1).setCell ⟨b,2,none⟩ x2).setCell ⟨b,3,none⟩ x3).setCell ⟨b,4,none⟩ x4).setCell ⟨b,5,none⟩ O).setCell ⟨b,6,none⟩ L).setCell ⟨b,7,none⟩ N).setCell ⟨b,8,none⟩ J).setCell ⟨b,9,none⟩ M).setCell ⟨b,10,none⟩ z).setCell ⟨b,11,none⟩ H):=
 (((((((((((h.set q j _ _).set q j _ _).set q j _ _).set q j _ _).set q j _ _).set q j _ _).set q j _ _).set q j _ _).set q j _ _).set q j _ _).set q j _ _).set q j _ _
theorem zcw {P:Program} (W:World) {ops:Array Oper} {rest:List Oper} {o:Oper} {a:Act} {Q:Exit→Act→World→Prop} (V:o.guard=none) (s x:Operand) (t:TypeId)
  (ho:o.op= .call {callee:=.builtin .append,args:=#[s,x],argTypes:=#[t,t]})
  (H:Nat) (e:TypeId) (i:TypeInfo) (z:Value) (size q:Nat) (ht:P.underlying t=some (.slice e)) (hi:P.info? e=some i) (hz:i.zero=some z) (J:i.size=size) (Y:i.bytes=q) (Z:z.cells.size=size) (X:0<size) (O:q≤100)
  (r:Rw) (n:Nat) (xs:List Value) (hs:a.eval s= .slice r.a n r.cap) (M:OwnR W H e size r n xs)
  (U:Nat) (A:List Value) (hx:a.eval x= .slice (some ⟨U,0,none⟩) 1 1) (hg:W.heap[U]? =some (.cells A.toArray e (0,0))) (hl:A.length=size) (h1: ∀u∈A,u.oneCell'=true) (hn:n+1≤4000000) (L:H≤W.heap.size)
  (h: ∀N w',OwnR w' H e size N (n+1) (xs++A)→W.grownBy w' r.blk→(N.blk=r.blk∨N.blk=some W.heap.size)→wpList P ops Q rest (a.put o.dst (.slice N.a (n+1) N.cap)) w'):
  wpList P ops Q (o::rest) a W:=by
 refine wpList_append_own_at _ V s x t ho H e i z size q ht hi hz J Y Z X _ n _ hs M ⟨U,0,none⟩ 1 1 A hx (by omega) ?_ h1 ?_ ?_ L ?_
 ·intro j u hj
  have:(⟨U,0,none⟩:Addr).add j=⟨U,j,none⟩:=by simp[Addr.add];exact fun h=>h.symm
  rw[this]
  simp[World.cell?,hg,hj]
 ·unfold maxLen;omega
 ·have:(n+1)*q≤4000000*100:=Nat.mul_le_mul hn O
  omega
 ·intro v' w' k1 k2 k3 k4
  rcases k1.2 with ⟨hv,ac⟩|⟨g',I,ab,rfl,aa⟩
  ·omega
  ·refine h ⟨some ⟨g',0,none⟩,I⟩ w' k1 ?_ ?_
   ·rw[←zb4 r n];exact k2
   ·rw[←zb4 r n,←zb4 ⟨some ⟨g',0,none⟩,I⟩ (n+1)];exact k4
theorem Mem.grow_rq {C:Cx} {gt U I:Nat} {S:Sv} {q:PS} {w W w' L:World} (j:Mem C gt U I S q w) (O:Below w.heap.size w W) (M:W.grownBy w' S.rq.blk) {J:Rw} {x:ByteArray} (hr:OwnR w' I 9 1 J (q.rq.length+1) (q.rq.map .string++[.string x])) (N:J.blk=S.rq.blk∨J.blk=some W.heap.size) (H:Off w.heap.size W.heap.size w' L) (hn:q.rq.length<40):
  Mem C gt U I {S with rq:=J} {q with rq:=q.rq++[x]} L∧Stp S w {S with rq:=J} L:=by
 have aa:=O.size
 have Y:=M.size
 have z: ∀k,k<w.heap.size→S.rq.blk≠some k→L.heap[k]? =w.heap[k]?:=fun k A Z=>
  (H.block k (.inl A)).trans ((M.block k (by omega) fun e=>Z e.symm).trans (O.block k A))
 have X:OwnR L I 9 1 J (q.rq.length+1) (q.rq.map .string++[.string x]):=hr.keep fun k A=>H.block k (by
  rcases N with e|e
  ·rw[e] at A
   exact .inl (j.own.rq.typed A).2.1
  ·rw[e] at A
   obtain rfl:=Option.some.inj A
   exact .inr ⟨Nat.le_refl _,(hr.typed e).2.1⟩)
 have V:(q.rq++[x]).length=q.rq.length+1:=by simp
 refine⟨⟨⟨by show OwnR L I 9 1 J (q.rq++[x]).length _;rw[V];simpa using X,j.own.im.keep fun k A=>z k (j.own.im.typed A).2.1 (j.own.im.ne j.own.rq (by decide) A),j.own.ep.keep fun k A=>z k (j.own.ep.typed A).2.1 (j.own.ep.ne j.own.rq (by decide) A),j.own.st.keep fun k A=>z k (j.own.st.typed A).2.1 (j.own.st.ne j.own.rq (by decide) A),j.own.ex.keep fun k A=>z k (j.own.ex.typed A).2.1 (j.own.ex.ne j.own.rq (by decide) A),j.own.la.keep fun k A=>z k (j.own.la.typed A).2.1 (j.own.la.ne j.own.rq (by decide) A),j.own.apart⟩,⟨j.inv.pos,by simp;omega,j.inv.im,j.inv.ep,j.inv.st,j.inv.ex⟩,zbI j.tok (z gt (zav j.tok).1 fun e=>j.gt_free (.inl e)),j.few,Nat.le_trans j.base (by have:=H.size;omega)⟩,?_⟩
 refine⟨H.os.trans (M.os.trans O.os),H.tape.trans (M.tape.trans O.tape),H.output.trans (M.output.trans O.output),Nat.le_trans (Nat.le_trans aa Y) H.size,fun k A hn=>z k A fun e=>hn (.inl e),fun k A=>?_⟩
 rcases A with h|h|h|h|h|h
 ·exact N.elim (fun e=>.inl (.inl (e.symm.trans h))) fun e=>.inr (by have:W.heap.size=k:=Option.some.inj (e.symm.trans h);omega)
 ·exact .inl (.inr (.inl h))
 ·exact .inl (.inr (.inr (.inl h)))
 ·exact .inl (.inr (.inr (.inr (.inl h))))
 ·exact .inl (.inr (.inr (.inr (.inr (.inl h)))))
 ·exact .inl (.inr (.inr (.inr (.inr (.inr h)))))
theorem Mem.grow_im {C:Cx} {gt U I:Nat} {S:Sv} {q:PS} {w W w' L:World} (j:Mem C gt U I S q w) (O:Below w.heap.size w W) (M:W.grownBy w' S.im.blk) {J:Rw} {x:Im} (hr:OwnR w' I 84 3 J (q.im.length+1) (q.im.flatMap imL++imL x)) (N:J.blk=S.im.blk∨J.blk=some W.heap.size) (H:Off w.heap.size W.heap.size w' L) (hn:q.im.length<40):
  Mem C gt U I {S with im:=J} {q with im:=q.im++[x]} L∧Stp S w {S with im:=J} L:=by
 have aa:=O.size
 have Y:=M.size
 have z: ∀k,k<w.heap.size→S.im.blk≠some k→L.heap[k]? =w.heap[k]?:=fun k A Z=>
  (H.block k (.inl A)).trans ((M.block k (by omega) fun e=>Z e.symm).trans (O.block k A))
 have X:OwnR L I 84 3 J (q.im.length+1) (q.im.flatMap imL++imL x):=hr.keep fun k A=>H.block k (by
  rcases N with e|e
  ·rw[e] at A
   exact .inl (j.own.im.typed A).2.1
  ·rw[e] at A
   obtain rfl:=Option.some.inj A
   exact .inr ⟨Nat.le_refl _,(hr.typed e).2.1⟩)
 have V:(q.im++[x]).length=q.im.length+1:=by simp
 refine⟨⟨⟨j.own.rq.keep fun k A=>z k (j.own.rq.typed A).2.1 (j.own.rq.ne j.own.im (by decide) A),by show OwnR L I 84 3 J (q.im++[x]).length _;rw[V];simpa using X,j.own.ep.keep fun k A=>z k (j.own.ep.typed A).2.1 (j.own.ep.ne j.own.im (by decide) A),j.own.st.keep fun k A=>z k (j.own.st.typed A).2.1 (j.own.st.ne j.own.im (by decide) A),j.own.ex.keep fun k A=>z k (j.own.ex.typed A).2.1 (j.own.ex.ne j.own.im (by decide) A),j.own.la.keep fun k A=>z k (j.own.la.typed A).2.1 (j.own.la.ne j.own.im (by decide) A),j.own.apart⟩,⟨j.inv.pos,j.inv.rq,by simp;omega,j.inv.ep,j.inv.st,j.inv.ex⟩,zbI j.tok (z gt (zav j.tok).1 fun e=>j.gt_free (.inr (.inl e))),j.few,Nat.le_trans j.base (by have:=H.size;omega)⟩,?_⟩
 refine⟨H.os.trans (M.os.trans O.os),H.tape.trans (M.tape.trans O.tape),H.output.trans (M.output.trans O.output),Nat.le_trans (Nat.le_trans aa Y) H.size,fun k A hn=>z k A fun e=>hn (.inr (.inl e)),fun k A=>?_⟩
 rcases A with h|h|h|h|h|h
 ·exact .inl (.inl h)
 ·exact N.elim (fun e=>.inl (.inr (.inl (e.symm.trans h)))) fun e=>.inr (by have:W.heap.size=k:=Option.some.inj (e.symm.trans h);omega)
 ·exact .inl (.inr (.inr (.inl h)))
 ·exact .inl (.inr (.inr (.inr (.inl h))))
 ·exact .inl (.inr (.inr (.inr (.inr (.inl h)))))
 ·exact .inl (.inr (.inr (.inr (.inr (.inr h)))))
theorem Mem.grow_ep {C:Cx} {gt U I:Nat} {S:Sv} {q:PS} {w W w' M:World} (j:Mem C gt U I S q w) (O:Below w.heap.size w W) (N:W.grownBy w' S.ep.blk) {J:Rw} {x:Ep} (hr:OwnR w' I 86 4 J (q.ep.length+1) (q.ep.flatMap epL++epL x)) (L:J.blk=S.ep.blk∨J.blk=some W.heap.size) (H:Off w.heap.size W.heap.size w' M) (hn:q.ep.length+q.la.length<40):
  Mem C gt U I {S with ep:=J} {q with ep:=q.ep++[x]} M∧Stp S w {S with ep:=J} M:=by
 have aa:=O.size
 have Y:=N.size
 have z: ∀k,k<w.heap.size→S.ep.blk≠some k→M.heap[k]? =w.heap[k]?:=fun k A Z=>
  (H.block k (.inl A)).trans ((N.block k (by omega) fun e=>Z e.symm).trans (O.block k A))
 have X:OwnR M I 86 4 J (q.ep.length+1) (q.ep.flatMap epL++epL x):=hr.keep fun k A=>H.block k (by
  rcases L with e|e
  ·rw[e] at A
   exact .inl (j.own.ep.typed A).2.1
  ·rw[e] at A
   obtain rfl:=Option.some.inj A
   exact .inr ⟨Nat.le_refl _,(hr.typed e).2.1⟩)
 have V:(q.ep++[x]).length=q.ep.length+1:=by simp
 refine⟨⟨⟨j.own.rq.keep fun k A=>z k (j.own.rq.typed A).2.1 (j.own.rq.ne j.own.ep (by decide) A),j.own.im.keep fun k A=>z k (j.own.im.typed A).2.1 (j.own.im.ne j.own.ep (by decide) A),by show OwnR M I 86 4 J (q.ep++[x]).length _;rw[V];simpa using X,j.own.st.keep fun k A=>z k (j.own.st.typed A).2.1 (j.own.st.ne j.own.ep (by decide) A),j.own.ex.keep fun k A=>z k (j.own.ex.typed A).2.1 (j.own.ex.ne j.own.ep (by decide) A),j.own.la.keep fun k A=>z k (j.own.la.typed A).2.1 (fun e=>j.own.apart k e A),fun k A hl=>L.elim (fun e=>j.own.apart k (by rw[←e];exact A) hl) fun e=>by have h1:=(j.own.la.typed hl).2.1;have h2:W.heap.size=k:=Option.some.inj (e.symm.trans A);omega⟩,⟨j.inv.pos,j.inv.rq,j.inv.im,by have:=j.inv.ep;simp;omega,j.inv.st,j.inv.ex⟩,zbI j.tok (z gt (zav j.tok).1 fun e=>j.gt_free (.inr (.inr (.inl e)))),j.few,Nat.le_trans j.base (by have:=H.size;omega)⟩,?_⟩
 refine⟨H.os.trans (N.os.trans O.os),H.tape.trans (N.tape.trans O.tape),H.output.trans (N.output.trans O.output),Nat.le_trans (Nat.le_trans aa Y) H.size,fun k A hn=>z k A fun e=>hn (.inr (.inr (.inl e))),fun k A=>?_⟩
 rcases A with h|h|h|h|h|h
 ·exact .inl (.inl h)
 ·exact .inl (.inr (.inl h))
 ·exact L.elim (fun e=>.inl (.inr (.inr (.inl (e.symm.trans h))))) fun e=>.inr (by have:W.heap.size=k:=Option.some.inj (e.symm.trans h);omega)
 ·exact .inl (.inr (.inr (.inr (.inl h))))
 ·exact .inl (.inr (.inr (.inr (.inr (.inl h)))))
 ·exact .inl (.inr (.inr (.inr (.inr (.inr h)))))
theorem Mem.grow_st {C:Cx} {gt U I:Nat} {S:Sv} {q:PS} {w W w' L:World} (j:Mem C gt U I S q w) (O:Below w.heap.size w W) (M:W.grownBy w' S.st.blk) {J:Rw} {x:Sm} (hr:OwnR w' I 107 3 J (q.st.length+1) (q.st.flatMap smL++smL x)) (N:J.blk=S.st.blk∨J.blk=some W.heap.size) (H:Off w.heap.size W.heap.size w' L) (hn:q.st.length<80):
  Mem C gt U I {S with st:=J} {q with st:=q.st++[x]} L∧Stp S w {S with st:=J} L:=by
 have aa:=O.size
 have Y:=M.size
 have z: ∀k,k<w.heap.size→S.st.blk≠some k→L.heap[k]? =w.heap[k]?:=fun k A Z=>
  (H.block k (.inl A)).trans ((M.block k (by omega) fun e=>Z e.symm).trans (O.block k A))
 have X:OwnR L I 107 3 J (q.st.length+1) (q.st.flatMap smL++smL x):=hr.keep fun k A=>H.block k (by
  rcases N with e|e
  ·rw[e] at A
   exact .inl (j.own.st.typed A).2.1
  ·rw[e] at A
   obtain rfl:=Option.some.inj A
   exact .inr ⟨Nat.le_refl _,(hr.typed e).2.1⟩)
 have V:(q.st++[x]).length=q.st.length+1:=by simp
 refine⟨⟨⟨j.own.rq.keep fun k A=>z k (j.own.rq.typed A).2.1 (j.own.rq.ne j.own.st (by decide) A),j.own.im.keep fun k A=>z k (j.own.im.typed A).2.1 (j.own.im.ne j.own.st (by decide) A),j.own.ep.keep fun k A=>z k (j.own.ep.typed A).2.1 (j.own.ep.ne j.own.st (by decide) A),by show OwnR L I 107 3 J (q.st++[x]).length _;rw[V];simpa using X,j.own.ex.keep fun k A=>z k (j.own.ex.typed A).2.1 (j.own.ex.ne j.own.st (by decide) A),j.own.la.keep fun k A=>z k (j.own.la.typed A).2.1 (j.own.la.ne j.own.st (by decide) A),j.own.apart⟩,⟨j.inv.pos,j.inv.rq,j.inv.im,j.inv.ep,by simp;omega,j.inv.ex⟩,zbI j.tok (z gt (zav j.tok).1 fun e=>j.gt_free (.inr (.inr (.inr (.inl e))))),j.few,Nat.le_trans j.base (by have:=H.size;omega)⟩,?_⟩
 refine⟨H.os.trans (M.os.trans O.os),H.tape.trans (M.tape.trans O.tape),H.output.trans (M.output.trans O.output),Nat.le_trans (Nat.le_trans aa Y) H.size,fun k A hn=>z k A fun e=>hn (.inr (.inr (.inr (.inl e)))),fun k A=>?_⟩
 rcases A with h|h|h|h|h|h
 ·exact .inl (.inl h)
 ·exact .inl (.inr (.inl h))
 ·exact .inl (.inr (.inr (.inl h)))
 ·exact N.elim (fun e=>.inl (.inr (.inr (.inr (.inl (e.symm.trans h)))))) fun e=>.inr (by have:W.heap.size=k:=Option.some.inj (e.symm.trans h);omega)
 ·exact .inl (.inr (.inr (.inr (.inr (.inl h)))))
 ·exact .inl (.inr (.inr (.inr (.inr (.inr h)))))
theorem Mem.grow_ex {C:Cx} {gt U I:Nat} {S:Sv} {q:PS} {w W w' L:World} (j:Mem C gt U I S q w) (O:Below w.heap.size w W) (M:W.grownBy w' S.ex.blk) {J:Rw} {x:Ex} (hr:OwnR w' I 109 6 J (q.ex.length+1) (q.ex.flatMap exL++exL x)) (N:J.blk=S.ex.blk∨J.blk=some W.heap.size) (H:Off w.heap.size W.heap.size w' L) (hn:q.ex.length<300):
  Mem C gt U I {S with ex:=J} {q with ex:=q.ex++[x]} L∧Stp S w {S with ex:=J} L:=by
 have aa:=O.size
 have Y:=M.size
 have z: ∀k,k<w.heap.size→S.ex.blk≠some k→L.heap[k]? =w.heap[k]?:=fun k A Z=>
  (H.block k (.inl A)).trans ((M.block k (by omega) fun e=>Z e.symm).trans (O.block k A))
 have X:OwnR L I 109 6 J (q.ex.length+1) (q.ex.flatMap exL++exL x):=hr.keep fun k A=>H.block k (by
  rcases N with e|e
  ·rw[e] at A
   exact .inl (j.own.ex.typed A).2.1
  ·rw[e] at A
   obtain rfl:=Option.some.inj A
   exact .inr ⟨Nat.le_refl _,(hr.typed e).2.1⟩)
 have V:(q.ex++[x]).length=q.ex.length+1:=by simp
 refine⟨⟨⟨j.own.rq.keep fun k A=>z k (j.own.rq.typed A).2.1 (j.own.rq.ne j.own.ex (by decide) A),j.own.im.keep fun k A=>z k (j.own.im.typed A).2.1 (j.own.im.ne j.own.ex (by decide) A),j.own.ep.keep fun k A=>z k (j.own.ep.typed A).2.1 (j.own.ep.ne j.own.ex (by decide) A),j.own.st.keep fun k A=>z k (j.own.st.typed A).2.1 (j.own.st.ne j.own.ex (by decide) A),by show OwnR L I 109 6 J (q.ex++[x]).length _;rw[V];simpa using X,j.own.la.keep fun k A=>z k (j.own.la.typed A).2.1 (j.own.la.ne j.own.ex (by decide) A),j.own.apart⟩,⟨j.inv.pos,j.inv.rq,j.inv.im,j.inv.ep,j.inv.st,by simp;omega⟩,zbI j.tok (z gt (zav j.tok).1 fun e=>j.gt_free (.inr (.inr (.inr (.inr (.inl e)))))),j.few,Nat.le_trans j.base (by have:=H.size;omega)⟩,?_⟩
 refine⟨H.os.trans (M.os.trans O.os),H.tape.trans (M.tape.trans O.tape),H.output.trans (M.output.trans O.output),Nat.le_trans (Nat.le_trans aa Y) H.size,fun k A hn=>z k A fun e=>hn (.inr (.inr (.inr (.inr (.inl e))))),fun k A=>?_⟩
 rcases A with h|h|h|h|h|h
 ·exact .inl (.inl h)
 ·exact .inl (.inr (.inl h))
 ·exact .inl (.inr (.inr (.inl h)))
 ·exact .inl (.inr (.inr (.inr (.inl h))))
 ·exact N.elim (fun e=>.inl (.inr (.inr (.inr (.inr (.inl (e.symm.trans h))))))) fun e=>.inr (by have:W.heap.size=k:=Option.some.inj (e.symm.trans h);omega)
 ·exact .inl (.inr (.inr (.inr (.inr (.inr h)))))
theorem Mem.grow_la {C:Cx} {gt U I:Nat} {S:Sv} {q:PS} {w W w' M:World} (j:Mem C gt U I S q w) (O:Below w.heap.size w W) (N:W.grownBy w' S.la.blk) {J:Rw} {x:Ep} (hr:OwnR w' I 86 4 J (q.la.length+1) (q.la.flatMap epL++epL x)) (L:J.blk=S.la.blk∨J.blk=some W.heap.size) (H:Off w.heap.size W.heap.size w' M) (hn:q.ep.length+q.la.length<40):
  Mem C gt U I {S with la:=J} {q with la:=q.la++[x]} M∧Stp S w {S with la:=J} M:=by
 have aa:=O.size
 have Y:=N.size
 have z: ∀k,k<w.heap.size→S.la.blk≠some k→M.heap[k]? =w.heap[k]?:=fun k A Z=>
  (H.block k (.inl A)).trans ((N.block k (by omega) fun e=>Z e.symm).trans (O.block k A))
 have X:OwnR M I 86 4 J (q.la.length+1) (q.la.flatMap epL++epL x):=hr.keep fun k A=>H.block k (by
  rcases L with e|e
  ·rw[e] at A
   exact .inl (j.own.la.typed A).2.1
  ·rw[e] at A
   obtain rfl:=Option.some.inj A
   exact .inr ⟨Nat.le_refl _,(hr.typed e).2.1⟩)
 have V:(q.la++[x]).length=q.la.length+1:=by simp
 refine⟨⟨⟨j.own.rq.keep fun k A=>z k (j.own.rq.typed A).2.1 (j.own.rq.ne j.own.la (by decide) A),j.own.im.keep fun k A=>z k (j.own.im.typed A).2.1 (j.own.im.ne j.own.la (by decide) A),j.own.ep.keep fun k A=>z k (j.own.ep.typed A).2.1 (fun e=>j.own.apart k A e),j.own.st.keep fun k A=>z k (j.own.st.typed A).2.1 (j.own.st.ne j.own.la (by decide) A),j.own.ex.keep fun k A=>z k (j.own.ex.typed A).2.1 (j.own.ex.ne j.own.la (by decide) A),by show OwnR M I 86 4 J (q.la++[x]).length _;rw[V];simpa using X,fun k A hl=>L.elim (fun e=>j.own.apart k A (by rw[←e];exact hl)) fun e=>by have h1:=(j.own.ep.typed A).2.1;have h2:W.heap.size=k:=Option.some.inj (e.symm.trans hl);omega⟩,⟨j.inv.pos,j.inv.rq,j.inv.im,by have:=j.inv.ep;simp;omega,j.inv.st,j.inv.ex⟩,zbI j.tok (z gt (zav j.tok).1 fun e=>j.gt_free (.inr (.inr (.inr (.inr (.inr e)))))),j.few,Nat.le_trans j.base (by have:=H.size;omega)⟩,?_⟩
 refine⟨H.os.trans (N.os.trans O.os),H.tape.trans (N.tape.trans O.tape),H.output.trans (N.output.trans O.output),Nat.le_trans (Nat.le_trans aa Y) H.size,fun k A hn=>z k A fun e=>hn (.inr (.inr (.inr (.inr (.inr e))))),fun k A=>?_⟩
 rcases A with h|h|h|h|h|h
 ·exact .inl (.inl h)
 ·exact .inl (.inr (.inl h))
 ·exact .inl (.inr (.inr (.inl h)))
 ·exact .inl (.inr (.inr (.inr (.inl h))))
 ·exact .inl (.inr (.inr (.inr (.inr (.inl h)))))
 ·exact L.elim (fun e=>.inl (.inr (.inr (.inr (.inr (.inr (e.symm.trans h))))))) fun e=>.inr (by have:W.heap.size=k:=Option.some.inj (e.symm.trans h);omega)
abbrev PRN:=Except Nat (PS×ByteArray)
def zaR (y:PRN):PR:=bd y fun a=>.ok a.1
def withN (y:PRN) (F:PR→ByteArray→PR):PRN:=bd y fun a=>bd (F (.ok a.1) a.2) fun q=>.ok (q,a.2)
def zc9 (C:Cx) (q:PS):PRN:=withN (bd (zd C 1 zG q) (zo C false)) fun x n=>bd (bd (bd (bd x (zd C 4 cEq)) (pE C .sum 0)) (zd C 4 cSemi)) (zU C 1 n)
def fnP (C:Cx) (q:PS):PRN:=
 withN (bd (zd C 1 zX q) (zo C false)) fun x n=>bd (bd (bd (bd (bd (bd (bd (bd x (zd C 4 zr)) (zd C 4 za8)) (zd C 4 zM)) (zd C 1 zey)) (pE C .sum 0)) (zd C 4 cSemi)) (zd C 4 zb2)) (zU C 2 n)
def asP (C:Cx) (exp:Bool) (a:PS×ByteArray):PRN:=
 if isT C a.1.pos 1 sAs then zo C exp (adv a.1)
 else if (a.2.toList==[100,101,102,97,117,108,116])&& !exp then .error (zu C a.1.pos) else .ok a
abbrev PRL:=Except Nat (PS×List Ep)
def zcL (C:Cx) (exp:Bool):Nat→PS→List Ep→PRL
 |0,_,_=>.error 0
 |f+1,q,acc=>bd (zo C true q) fun a=>bd (asP C exp a) fun b=>
  if isT C b.1.pos 4 zbF then zcL C exp f (adv b.1) (acc++[⟨0,b.2,a.2,sNone⟩]) else bd (zd C 4 zb2 b.1) fun q'=>.ok (q',acc++[⟨0,b.2,a.2,sNone⟩])
def za5 (C:Cx) (exp:Bool) (q:PS) (acc:List Ep):PRL:=zcL C exp (C.ts.length-q.pos+1) q acc
def zcM (C:Cx) (exp:Bool) (q:PS):PRL:=bd (zd C 4 zM q) fun q'=>za5 C exp q' []
def zaF (l:List Ep):Bool:=l.any fun x=>x.loc.toList==[100,101,102,97,117,108,116]
theorem zfg {C:Cx} {j:Bool} {a b:PS×ByteArray} (h:asP C j a= .ok b):a.1.pos≤b.1.pos:=by
 unfold asP at h
 split at h
 ·obtain⟨rfl,_⟩:=zbq h
  show a.1.pos≤a.1.pos+1+1
  omega
 ·split at h
  ·cases h
  ·cases h
   exact Nat.le_refl _
theorem zmI {C:Cx} {j:Bool} (f:Nat): ∀(g:Nat) (q:PS) (acc:List Ep),C.ts.length-q.pos<f→C.ts.length-q.pos<g→zcL C j f q acc=zcL C j g q acc:=by
 induction f with
 |zero=>intro g q acc h;omega
 |succ f A=>
  intro g q acc U N
  obtain⟨g,rfl⟩: ∃L,g=L+1:=⟨g-1,by omega⟩
  rw[zcL,zcL]
  refine zaf fun a H=>zaf fun b J=>?_
  split
  ·next M=>
   obtain⟨rfl,z⟩:=zbq H
   have I:=zfg J
   have O:=za9 M (by decide)
   have V:=zfa z
   simp only[zz] at I
   exact A g _ _ (by rw[zz];omega) (by rw[zz];omega)
  ·rfl
theorem zgd (C:Cx) (j:Bool) (q:PS) (acc:List Ep):za5 C j q acc=bd (zo C true q) fun a=>bd (asP C j a) fun b=>
  if isT C b.1.pos 4 zbF then za5 C j (adv b.1) (acc++[⟨0,b.2,a.2,sNone⟩]) else bd (zd C 4 zb2 b.1) fun q'=>.ok (q',acc++[⟨0,b.2,a.2,sNone⟩]):=by
 rw[za5,zcL]
 refine zaf fun a A=>zaf fun b I=>?_
 split
 ·next J=>
  obtain⟨rfl,z⟩:=zbq A
  have H:=zfg I
  have L:=za9 J (by decide)
  have M:=zfa z
  simp only[zz] at H
  exact zmI _ _ _ _ (by rw[zz];omega) (by rw[zz];omega)
 ·rfl
def zV {α:Type} (f:α→PS→PR):List α→PR→PR
 |[],x=>x
 |a::l,x=>zV f l (bd x (f a))
def zca (s:ByteArray) (e:Ep):Im:=⟨s,e.loc,e.name⟩
def zaI (C:Cx) (x:PR):PRN:=bd (bd x (zd C 1 zY)) (zF C)
def zba (C:Cx) (y:PRN):PRN:=bd y fun a=>bd (zd C 4 cSemi a.1) fun q=>.ok (q,a.2)
def zaX (C:Cx) (q:PS):PR:=
 bd (zd C 1 zao q) fun q=>
  if isT C q.pos 4 zM then bd (zcM C false q) fun a=>bd (zba C (zaI C (.ok a.1))) fun b=>zV (fun e=>zal C (zca b.2 e)) a.2 (.ok b.1)
  else if isT C q.pos 4 zy then bd (bd (bd (zd C 4 zy q) (zd C 1 sAs)) (zo C false)) fun a=>bd (zba C (zaI C (.ok a.1))) fun b=>zal C ⟨b.2,zy,a.2⟩ b.1
  else if zH C q.pos false then bd (zo C false q) fun a=>bd (zba C (zaI C (.ok a.1))) fun b=>zal C ⟨b.2,sDefault,a.2⟩ b.1
  else bd (zF C q) fun a=>zd C 4 cSemi a.1
def zD (e:Ep):Ep:=⟨1,e.name,e.loc,sNone⟩
def zap (s:ByteArray) (e:Ep):Ep:=⟨2,e.name,e.loc,s⟩
def zam (C:Cx) (q:PS):PR:=
 bd (zd C 1 zaj q) fun q=>
  if isT C q.pos 4 zM then bd (zcM C true q) fun a=>
   if !zaF a.2&& !isT C a.1.pos 1 zY then bd (zd C 4 cSemi a.1) fun q=>zV (fun e=>zq C (zD e)) a.2 (.ok q)
   else bd (zba C (zaI C (.ok a.1))) fun b=>zV (fun e=>zq C (zap b.2 e)) a.2 (.ok b.1)
  else if isT C q.pos 4 zy then bd (zba C (zaI C (zd C 4 zy q))) fun b=>zq C ⟨3,sNone,sNone,b.2⟩ b.1
  else if isT C q.pos 1 sDefault then bd (bd (bd (bd (zd C 1 sDefault q) (pE C .sum 0)) (zd C 4 cSemi)) (zU C 1 zck)) (zq C ⟨1,sDefault,zck,sNone⟩)
  else if isT C q.pos 1 zG then bd (zc9 C q) fun a=>zq C ⟨1,a.2,a.2,sNone⟩ a.1
  else if isT C q.pos 1 zX then bd (fnP C q) fun a=>zq C ⟨1,a.2,a.2,sNone⟩ a.1
  else .error (zu C q.pos)
def zA (C:Cx) (q:PS):PR:=
 if !C.scr&&isT C q.pos 1 zao then zaX C q
 else if !C.scr&&isT C q.pos 1 zaj then zam C q
 else if isT C q.pos 1 zG then zaR (zc9 C q)
 else if isT C q.pos 1 zX then zaR (fnP C q)
 else if isT C q.pos 1 za0 then bd (bd (bd (bd (bd (zd C 1 za0 q) (zd C 4 zr)) (pE C .sum 0)) (zd C 4 za8)) (zd C 4 cSemi)) (zU C 4 sNone)
 else if isT C q.pos 1 zaA then bd (bd (bd (zd C 1 zaA q) (pE C .sum 0)) (zd C 4 cSemi)) (zU C 5 sNone)
 else if C.scr&&isT C q.pos 1 zbQ then bd (bd (bd (zd C 1 zbQ q) (pE C .sum 0)) (zd C 4 cSemi)) (zU C 6 sNone)
 else bd (zo C false q) fun a=>bd (bd (bd (zd C 4 cEq a.1) (pE C .sum 0)) (zd C 4 cSemi)) (zU C 3 a.2)
theorem za6 {C:Cx} {k:Int} {s:ByteArray} {q q':PS} (h:zd C k s q= .ok q'):q.pos+1=q'.pos:=by
 obtain⟨rfl,_⟩:=zbL h
 rfl
theorem ze2 {C:Cx} {o:Bool} {q:PS} {a:PS×ByteArray} (h:zo C o q= .ok a):q.pos+1=a.1.pos:=by
 obtain⟨rfl,_⟩:=zbq h
 rfl
theorem ziR {C:Cx} {q:PS} {a:PS×ByteArray} (h:zF C q= .ok a):q.pos+1=a.1.pos:=by
 unfold zF at h
 split at h
 ·split at h
  ·cases h;rfl
  ·split at h
   ·cases h
   ·cases h;rfl
 ·cases h
theorem ze3 {C:Cx} {k:Int} {n:ByteArray} {q q':PS} (h:zU C k n q= .ok q'):q.pos=q'.pos:=by
 unfold zU at h
 split at h
 ·cases h
 ·cases h;rfl
theorem zht {C:Cx} {y:Im} {q q':PS} (h:zal C y q= .ok q'):q.pos=q'.pos:=by
 unfold zal at h
 split at h
 ·cases h
 ·cases h;rfl
theorem ze4 {C:Cx} {y:Ep} {q q':PS} (h:zq C y q= .ok q'):q.pos=q'.pos:=by
 unfold zq at h
 split at h
 ·cases h
 ·split at h
  ·cases h;rfl
  ·cases h;rfl
theorem zhu {α:Type} {f:α→PS→PR} (j: ∀a q q',f a q= .ok q'→q.pos=q'.pos) (l:List α): ∀(x:PR) (q':PS),zV f l x= .ok q'→∃q,x= .ok q∧q.pos=q'.pos:=by
 induction l with
 |nil=>intro x q' h;exact⟨q',h,rfl⟩
 |cons a l z=>
  intro x q' h
  obtain⟨b,I,A⟩:=z _ _ h
  obtain⟨c,J,H⟩:=zf I
  exact⟨c,J,(j _ _ _ H).trans A⟩
theorem ziS {C:Cx} {z:Bool} (m:Nat): ∀(q:PS) (acc:List Ep) (a:PS×List Ep),C.ts.length-q.pos<m→za5 C z q acc= .ok a→q.pos≤a.1.pos:=by
 induction m with
 |zero=>intro q acc a h;omega
 |succ m I=>
  intro q acc a U h
  rw[zgd] at h
  obtain⟨b,L,J⟩:=zf h
  obtain⟨c,N,j⟩:=zf J
  have V:=ze2 L
  have X:=zfg N
  split at j
  ·next O=>
   have H:=za9 O (by decide)
   have:=I _ _ _ (by rw[zz];omega) j
   rw[zz] at this
   omega
  ·obtain⟨d,M,A⟩:=zf j
   have H:=za6 M
   cases A
   show q.pos≤d.pos
   omega
theorem zfh {C:Cx} {x:PR} {b:PS×ByteArray} (h:zba C (zaI C x)= .ok b): ∃q,x= .ok q∧q.pos≤b.1.pos:=by
 obtain⟨a,I,A⟩:=zf h
 obtain⟨c,M,H⟩:=zf A
 obtain⟨d,L,j⟩:=zf I
 obtain⟨e,J,z⟩:=zf L
 have N:=za6 M
 have U:=ziR j
 have O:=za6 z
 cases H
 exact⟨e,J,by show e.pos≤c.pos;omega⟩
theorem zmJ {C:Cx} {q q':PS} (h:zaX C q= .ok q'):q.pos<q'.pos:=by
 obtain⟨q1,Y,z⟩:=zf h
 have e1:=za6 Y
 split at z
 ·obtain⟨a,H,A⟩:=zf z
  obtain⟨b,M,I⟩:=zf A
  obtain⟨c,V,O⟩:=zf H
  obtain⟨d,N,J⟩:=zfh M
  obtain⟨f,j,L⟩:=zhu (fun _ _ _ h=>zht h) _ _ _ I
  have X:=za6 V
  have U:=ziS _ _ _ _ (Nat.lt_succ_self _) O
  cases N
  cases j
  omega
 ·split at z
  ·obtain⟨a,H,A⟩:=zf z
   obtain⟨b,M,I⟩:=zf A
   obtain⟨c,V,O⟩:=zf H
   obtain⟨d,N,J⟩:=zf V
   obtain⟨f,j,L⟩:=zfh M
   have X:=zht I
   have U:=ze2 O
   have e4:=za6 N
   have Z:=za6 J
   cases j
   omega
  ·split at z
   ·obtain⟨a,H,A⟩:=zf z
    obtain⟨b,M,I⟩:=zf A
    obtain⟨f,j,L⟩:=zfh M
    have X:=zht I
    have U:=ze2 H
    cases j
    omega
   ·obtain⟨a,H,A⟩:=zf z
    have X:=ziR H
    have U:=za6 A
    omega
theorem ziT {y:PRN} {F:PR→ByteArray→PR} {a:PS×ByteArray} (h:withN y F= .ok a): ∃b,y= .ok b∧F (.ok b.1) b.2= .ok a.1:=by
 obtain⟨b,j,q⟩:=zf h
 obtain⟨c,A,z⟩:=zf q
 cases z
 exact⟨b,j,A⟩
theorem ziU {C:Cx} {q:PS} {a:PS×ByteArray} (h:zc9 C q= .ok a):q.pos<a.1.pos:=by
 obtain⟨b,L,I⟩:=ziT h
 obtain⟨c,O,J⟩:=zf L
 obtain⟨d,N,z⟩:=zf I
 obtain⟨f,M,H⟩:=zf N
 obtain⟨g,A,j⟩:=zf M
 have V:=za6 O
 have e2:=ze2 J
 have X:=za6 (show zd C 4 cEq b.1= .ok g from A)
 have Z:=zbh j
 have U:=za6 H
 have Y:=ze3 z
 omega
theorem ziV {C:Cx} {q:PS} {a:PS×ByteArray} (h:fnP C q= .ok a):q.pos<a.1.pos:=by
 obtain⟨b,X,U⟩:=ziT h
 obtain⟨c,h3,V⟩:=zf X
 obtain⟨d,Z,h6⟩:=zf U
 obtain⟨f,Y,h8⟩:=zf Z
 obtain⟨g,h9,I⟩:=zf Y
 obtain⟨i,M,J⟩:=zf h9
 obtain⟨j,z,A⟩:=zf M
 obtain⟨k,L,N⟩:=zf z
 obtain⟨l,H,O⟩:=zf L
 have e1:=za6 h3
 have e2:=ze2 V
 have e3:=za6 (show zd C 4 zr b.1= .ok l from H)
 have e4:=za6 O
 have e5:=za6 N
 have e6:=za6 A
 have e7:=zbh J
 have e8:=za6 I
 have e9:=za6 h8
 have aa:=ze3 h6
 omega
theorem zmK {C:Cx} {q q':PS} (h:zam C q= .ok q'):q.pos<q'.pos:=by
 obtain⟨q1,Y,j⟩:=zf h
 have e1:=za6 Y
 split at j
 ·obtain⟨a,J,z⟩:=zf j
  obtain⟨c,V,X⟩:=zf J
  have N:=za6 V
  have O:=ziS _ _ _ _ (Nat.lt_succ_self _) X
  split at z
  ·obtain⟨b,H,L⟩:=zf z
   obtain⟨f,I,U⟩:=zhu (fun _ _ _ h=>ze4 h) _ _ _ L
   have Z:=za6 H
   cases I
   omega
  ·obtain⟨b,H,L⟩:=zf z
   obtain⟨d,M,A⟩:=zfh H
   obtain⟨f,I,U⟩:=zhu (fun _ _ _ h=>ze4 h) _ _ _ L
   cases M
   cases I
   omega
 ·split at j
  ·obtain⟨b,H,L⟩:=zf j
   obtain⟨d,M,A⟩:=zfh H
   have N:=za6 M
   have O:=ze4 L
   omega
  ·split at j
   ·obtain⟨a,J,z⟩:=zf j
    obtain⟨b,H,L⟩:=zf J
    obtain⟨c,V,X⟩:=zf H
    obtain⟨d,M,A⟩:=zf V
    have N:=za6 M
    have O:=zbh A
    have Z:=za6 X
    have e5:=ze3 L
    have e6:=ze4 z
    omega
   ·split at j
    ·obtain⟨a,J,z⟩:=zf j
     have N:=ziU J
     have O:=ze4 z
     omega
    ·split at j
     ·obtain⟨a,J,z⟩:=zf j
      have N:=ziV J
      have O:=ze4 z
      omega
     ·cases j
theorem ziW {C:Cx} {s:ByteArray} {k:Int} {n:ByteArray} {q q':PS} (h:bd (bd (bd (zd C 1 s q) (pE C .sum 0)) (zd C 4 cSemi)) (zU C k n)= .ok q'):q.pos<q'.pos:=by
 obtain⟨a,H,z⟩:=zf h
 obtain⟨b,J,A⟩:=zf H
 obtain⟨c,I,j⟩:=zf J
 have L:=za6 I
 have O:=zbh j
 have M:=za6 A
 have N:=ze3 z
 omega
theorem zge {C:Cx} {q q':PS} (h:zA C q= .ok q'):q.pos<q'.pos:=by
 unfold zA at h
 split at h
 ·exact zmJ h
 ·split at h
  ·exact zmK h
  ·split at h
   ·obtain⟨a,z,j⟩:=zf h
    cases j
    exact ziU z
   ·split at h
    ·obtain⟨a,z,j⟩:=zf h
     cases j
     exact ziV z
    ·split at h
     ·obtain⟨a,z,j⟩:=zf h
      obtain⟨b,N,J⟩:=zf z
      obtain⟨c,M,A⟩:=zf N
      obtain⟨d,L,H⟩:=zf M
      obtain⟨e,U,I⟩:=zf L
      have V:=za6 U
      have Z:=za6 I
      have X:=zbh H
      have Y:=za6 A
      have O:=za6 J
      have e6:=ze3 j
      omega
     ·split at h
      ·exact ziW h
      ·split at h
       ·exact ziW h
       ·obtain⟨a,z,j⟩:=zf h
        obtain⟨b,N,J⟩:=zf j
        obtain⟨c,M,A⟩:=zf N
        obtain⟨d,L,H⟩:=zf M
        have V:=ze2 z
        have Z:=za6 L
        have X:=zbh H
        have Y:=za6 A
        have O:=ze3 J
        omega
def zcN (C:Cx):Nat→PS→PR
 |0,_=>.error 0
 |f+1,q=>if q.pos<C.ts.length then bd (zA C q) (zcN C f) else .ok q
def za1 (C:Cx) (q:PS):PR:=zcN C (C.ts.length-q.pos+1) q
theorem zmL {C:Cx} (f:Nat): ∀(g:Nat) (q:PS),C.ts.length-q.pos<f→C.ts.length-q.pos<g→zcN C f q=zcN C g q:=by
 induction f with
 |zero=>intro g q h;omega
 |succ f j=>
  intro g q I H
  obtain⟨g,rfl⟩: ∃A,g=A+1:=⟨g-1,by omega⟩
  rw[zcN,zcN]
  split
  ·refine zaf fun a z=>?_
   have:=zge z
   exact j g a (by omega) (by omega)
  ·rfl
theorem zgf (C:Cx) (q:PS):za1 C q=if q.pos<C.ts.length then bd (zA C q) (za1 C) else .ok q:=by
 rw[za1,zcN]
 split
 ·refine zaf fun a j=>?_
  have:=zge j
  exact zmL _ _ _ (by omega) (by omega)
 ·rfl
def zbS:PS:=⟨0,[],[],[],[],[],[]⟩
def zbs (s:ByteArray) (scr:Bool) (y:PR):Prop:=∃r,zai s scr r∧y=match r with
 | .error p=>.error p
 | .ok ts=>za1 ⟨ts,s.size,scr⟩ zbS
theorem ziX {s:ByteArray} {j:Bool} {q z:PR} (J:zbs s j q) (A:zbs s j z):q=z:=by
 obtain⟨M,H,rfl⟩:=J
 obtain⟨L,I,rfl⟩:=A
 obtain rfl:=zm2 H I
 rfl
theorem zmM {s:ByteArray} {A:Bool} {a n:Nat} {r:Except Nat (List Tk)} (h:Lx s A a n r): ∀q,r= .ok q→n≤4000→q.length+n≤4000:=by
 induction h using Lx.ind with
 |done=>intro q z H;cases z;simpa using H
 |bad _ _=>intro q z H;cases z
 | @tok a n e b t r h H J L z I=>
  intro q j _
  cases r with
  |error p=>simp[Except.map] at j
  |ok l=>
   simp only[Except.map,Except.ok.injEq] at j
   subst j
   have:=I l rfl (by omega)
   simp only[List.length_cons]
   omega
theorem ziY {s:ByteArray} {q:Bool} {j:List Tk} (h:zai s q (.ok j)):j.length≤4000:=by
 obtain⟨a,_,z⟩:=h
 have:=zmM z j rfl (by omega)
 omega
def R0:Rw:=⟨none,0⟩
def S0:Sv:=⟨R0,R0,R0,R0,R0,R0⟩
theorem zbT (w:World) (j size:Nat) (e:TypeId):OwnR w j e size R0 0 []:=World.ownsRow_nil w j e size
theorem zmN (w:World) (j:Nat):Own w j S0 zbS:=
 ⟨zbT _ _ _ _,zbT _ _ _ _,zbT _ _ _ _,zbT _ _ _ _,zbT _ _ _ _,zbT _ _ _ _,fun k h=>by simp[S0,R0,Rw.blk,Value.ownBlock] at h⟩
theorem ziZ {w:World} {j g q:Nat} {z:List Tk} {n:Nat} {A:Bool} (h:OwnT w j 143 g z.length q z) (H:z.length≤4000) (I:j≤w.heap.size):Mem ⟨z,n,A⟩ g q j S0 zbS w:=
 ⟨zmN _ _,⟨Nat.zero_le _,Nat.zero_le _,Nat.zero_le _,Nat.zero_le _,Nat.zero_le _,Nat.zero_le _⟩,h,H,I⟩
structure OwnMod (w:World) (base:Nat) (S:Sv) (q:PS):Prop where
 rq:OwnR w base 9 1 S.rq q.rq.length (q.rq.map .string)
 im:OwnR w base 84 3 S.im q.im.length (q.im.flatMap imL)
 ep:OwnR w base 86 4 S.ep (q.ep++q.la).length ((q.ep++q.la).flatMap epL)
 st:OwnR w base 107 3 S.st q.st.length (q.st.flatMap smL)
 ex:OwnR w base 109 6 S.ex q.ex.length (q.ex.flatMap exL)
 inv:q.rq.length≤40∧q.im.length≤40∧q.ep.length+q.la.length≤40∧q.st.length≤80∧q.ex.length≤300
def zgg (S:Sv) (q:PS):Value:=.agg #[.slice S.rq.a q.rq.length S.rq.cap,.slice S.im.a q.im.length S.im.cap,.slice S.ep.a (q.ep++q.la).length S.ep.cap,.slice S.st.a q.st.length S.st.cap,.slice S.ex.a q.ex.length S.ex.cap]
def ParseOut (s:ByteArray) (scr:Bool) (w:World) (e:Ending) (w':World):Prop:=
 ∃y,zbs s scr y∧match y with
  | .ok q=>∃S,e= .returned (.tuple #[zgg S q,.int .i64 (-1)])∧OwnMod w' w.heap.size S q
  | .error p=>e= .returned (.tuple #[.agg #[.slice none 0 0,.slice none 0 0,.slice none 0 0,.slice none 0 0,.slice none 0 0],.int .i64 p])
theorem OwnR.low {w:World} {q j size n:Nat} {e:TypeId} {r:Rw} {xs:List Value} (h:OwnR w q e size r n xs) (J:j≤q):OwnR w j e size r n xs:=by
 refine⟨h.1,?_⟩
 rcases h.2 with A|⟨g,H,z,A,I,rest⟩
 ·exact .inl A
 ·exact .inr ⟨g,H,z,A,Nat.le_trans J I,rest⟩
theorem OwnR.nil_or {w:World} {q size n:Nat} {e:TypeId} {r:Rw} {xs:List Value} (h:OwnR w q e size r n xs):(r.a=none∧r.cap=0∧n=0)∨∃g,r.a=some ⟨g,0,none⟩:=by
 rcases h.2 with ⟨j,H⟩|⟨g,A,z,j,_⟩
 ·simp only[Value.slice.injEq] at j
  exact .inl ⟨j.1,j.2.2,H⟩
 ·simp only[Value.slice.injEq] at j
  exact .inr ⟨g,j.1⟩
theorem zmO {P:Program} (W:World) {ops:Array Oper} {rest:List Oper} {o:Oper} {a:Act} {Q:Exit→Act→World→Prop} (Z:o.guard=none) (s x:Operand) (t:TypeId)
  (ho:o.op= .call {callee:=.builtin .append,args:=#[s,x],argTypes:=#[t,t]})
  (H:Nat) (e:TypeId) (i:TypeInfo) (z:Value) (size q:Nat) (ht:P.underlying t=some (.slice e)) (hi:P.info? e=some i) (hz:i.zero=some z) (J:i.size=size) (ac:i.bytes=q) (ad:z.cells.size=size) (ab:0<size) (U:q≤100)
  (r:Rw) (n:Nat) (xs:List Value) (hs:a.eval s= .slice r.a n r.cap) (N:OwnR W H e size r n xs)
  (V m c M:Nat) (A:List Value) (hx:a.eval x= .slice (some ⟨V,0,none⟩) m c) (hg:OwnR W M e size ⟨some ⟨V,0,none⟩,c⟩ m A) (h1: ∀u∈A,u.oneCell'=true) (hn:n+m≤4000000) (L:H≤W.heap.size)
  (h: ∀O w',OwnR w' H e size O (n+m) (xs++A)→W.grownBy w' r.blk→(O.blk=r.blk∨O.blk=some W.heap.size)→wpList P ops Q rest (a.put o.dst (.slice O.a (n+m:Nat) O.cap)) w'):
  wpList P ops Q (o::rest) a W:=by
 refine wpList_append_own_at _ Z s x t ho H e i z size q ht hi hz J ac ad ab _ n _ hs N ⟨V,0,none⟩ m c A hx hg.1 ?_ h1 ?_ ?_ L ?_
 ·intro j u hj
  have e1:(⟨V,0,none⟩:Addr).add j=⟨V,j,none⟩:=by simp[Addr.add];exact fun h=>h.symm
  have aa:j<A.length:=(List.getElem?_eq_some_iff.1 hj).1
  rw[e1,World.ownsRow.cellAt hg j (by rw[←hg.1];exact aa)]
  exact hj
 ·unfold maxLen;omega
 ·have:(n+m)*q≤4000000*100:=Nat.mul_le_mul hn U
  omega
 ·intro v' w' Y k2 k3 k4
  rcases Y.2 with ⟨hv,X⟩|⟨g',I,af,rfl,ae⟩
  ·subst hv
   have:=h ⟨none,0⟩ w' (by rw[X] at Y ⊢;exact Y) (by rw[←zb4 r n];exact k2) (by rw[←zb4 r n];exact k4)
   rw[X] at this
   exact this
  ·refine h ⟨some ⟨g',0,none⟩,I⟩ w' Y ?_ ?_
   ·rw[←zb4 r n];exact k2
   ·rw[←zb4 r n,←zb4 ⟨some ⟨g',0,none⟩,I⟩ (n+m)];exact k4
theorem zmP {P:Program} (W:World) {ops:Array Oper} {rest:List Oper} {o:Oper} {a:Act} {Q:Exit→Act→World→Prop} (z:o.guard=none) (s x:Operand) (t:TypeId)
  (L:o.op= .call {callee:=.builtin .append,args:=#[s,x],argTypes:=#[t,t]})
  (e:TypeId) (i:TypeInfo) (H:P.underlying t=some (.slice e)) (I:P.info? e=some i) (q size n:Nat)
  (r:Rw) (xs:List Value) (U:a.eval s= .slice r.a n r.cap) (j:OwnR W q e size r n xs) (V:a.eval x= .slice none 0 0)
  (h:wpList P ops Q rest (a.put o.dst (.slice r.a n r.cap)) W):wpList P ops Q (o::rest) a W:=by
 have M:(Builtin.append_ #[t,t] o.type #[.slice r.a n r.cap,.slice none 0 0]).run P W= .ok (.slice r.a n r.cap) W:=by
  rcases j.2 with ⟨A,_⟩|⟨g,O,J,A,_,_,X,_⟩
  ·rw[A]
   simp[Builtin.append_,run_underlying H,sizeOf,typeInfo,I,Builtin.lenOf,Builtin.firstCells]
  ·rw[A]
   simp[Builtin.append_,run_underlying H,sizeOf,typeInfo,I,Builtin.lenOf,Builtin.firstCells,loadCells,X,storeCells]
 refine wpList_plain z fun K N=>?_
 unfold Oper.wp execOp
 simp only[L,resolve,invoke,builtin,Sem.run_bind,Sem.run_pure,Result.andThen_ok,List.map_toArray,List.map_cons,List.map_nil,U,V,M]
 exact N _ _ h
theorem zgh (l:List Ep): ∀u∈l.flatMap epL,u.oneCell'=true:=by
 intro u j
 rw[List.mem_flatMap] at j
 obtain⟨x,_,q⟩:=j
 simp[epL] at q
 rcases q with rfl|rfl|rfl|rfl<;>rfl
theorem Mem.whole {C:Cx} {gt N j b B:Nat} {S:Sv} {q:PS} {W w' U:World} {J:Rw} (H:Mem C gt N j S q W) (Z:W.grownBy w' S.ep.blk) (Y:OwnR w' j 86 4 J (q.ep.length+q.la.length) (q.ep.flatMap epL++q.la.flatMap epL)) (M:J.blk=S.ep.blk∨J.blk=some W.heap.size) (hB:B<j) (hb:b<W.heap.size) (z: ¬S.has b)
  (X: ∀k,k≠B→k≠b→U.heap[k]? =w'.heap[k]?):OwnMod U B {S with ep:=J} q:=by
 have I:(q.ep++q.la).length=q.ep.length+q.la.length:=by simp
 have L: ∀(r:Rw) (e:TypeId) (A n:Nat) (V:List Value),OwnR W j e A r n V→e≠86→(∀k,r.blk=some k→S.has k)→OwnR U B e A r n V:=fun r e A n V h he hs=>
  ((h.keep fun k g=>(X k (by have:=(h.typed g).1;omega) (fun O=>z (by rw[←O];exact hs k g))).trans (Z.block k (h.typed g).2.1 fun e'=>(h.ne H.own.ep he g) e'.symm)).low (by omega))
 refine⟨L _ _ _ _ _ H.own.rq (by decide) fun k g=>.inl g,L _ _ _ _ _ H.own.im (by decide) fun k g=>.inr (.inl g),?_,L _ _ _ _ _ H.own.st (by decide) fun k g=>.inr (.inr (.inr (.inl g))),L _ _ _ _ _ H.own.ex (by decide) fun k g=>.inr (.inr (.inr (.inr (.inl g)))),H.inv.rq,H.inv.im,H.inv.ep,H.inv.st,H.inv.ex⟩
 rw[I,List.flatMap_append]
 refine (Y.keep fun k g=>X k (by have:=(Y.typed g).1;omega) ?_).low (by omega)
 rcases M with e|e
 ·intro O
  exact z (by rw[←O];exact .inr (.inr (.inl (by rw[←e];exact g))))
 ·have:W.heap.size=k:=Option.some.inj (e.symm.trans g)
  omega
theorem Mem.whole0 {C:Cx} {V L j b B:Nat} {S:Sv} {q:PS} {W M:World} (A:Mem C V L j S q W) (N:q.la=[]) (Y:B<j) (H: ¬S.has b)
  (X: ∀k,k≠B→k≠b→M.heap[k]? =W.heap[k]?):OwnMod M B S q:=by
 have I: ∀(r:Rw) (e:TypeId) (z n:Nat) (J:List Value),OwnR W j e z r n J→(∀k,r.blk=some k→S.has k)→OwnR M B e z r n J:=fun r e z n J h U=>
  ((h.keep fun k g=>X k (by have:=(h.typed g).1;omega) (fun O=>H (by rw[←O];exact U k g))).low (by omega))
 refine⟨I _ _ _ _ _ A.own.rq fun k g=>.inl g,I _ _ _ _ _ A.own.im fun k g=>.inr (.inl g),?_,I _ _ _ _ _ A.own.st fun k g=>.inr (.inr (.inr (.inl g))),I _ _ _ _ _ A.own.ex fun k g=>.inr (.inr (.inr (.inr (.inl g)))),A.inv.rq,A.inv.im,A.inv.ep,A.inv.st,A.inv.ex⟩
 rw[N,List.append_nil]
 exact I _ _ _ _ _ A.own.ep fun k g=>.inr (.inr (.inl g))
theorem zg {w:World} {b:Nat} {t:TypeId} {v0 v1 v2 v3 v4:Value} (h:w.heap[b]? =some (.cells #[v0,v1,v2,v3,v4] t (0,0))):
  w.cell? ⟨b,0,none⟩=some v0∧w.cell? ⟨b,1,none⟩=some v1∧w.cell? ⟨b,2,none⟩=some v2∧w.cell? ⟨b,3,none⟩=some v3∧w.cell? ⟨b,4,none⟩=some v4∧∀i,w.frozen? ⟨b,i,none⟩=false:=by
 refine⟨?_,?_,?_,?_,?_,fun i=>?_⟩<;>simp[World.cell?,World.frozen?,h]
theorem zaz {w:World} {b i:Nat} {j:Array Value} {u:Value} {t:TypeId} (h:w.heap[b]? =some (.cells j t (0,0))):(w.setCell ⟨b,i,none⟩ u).heap[b]? =some (.cells (j.setIfInBounds i u) t (0,0)):=by
 simp only[World.setCell,Array.getElem?_modify]
 rw[if_pos trivial,h]
 rfl
theorem zbN {w:World} {b:Nat} {v0 v1 v2 v3 v4 x0 x1 x2 x3 x4:Value} {t:TypeId} (h:w.heap[b]? =some (.cells #[v0,v1,v2,v3,v4] t (0,0))):
  (((((w.setCell ⟨b,0,none⟩ x0).setCell ⟨b,1,none⟩ x1).setCell ⟨b,2,none⟩ x2).setCell ⟨b,3,none⟩ x3).setCell ⟨b,4,none⟩ x4).heap[b]? =some (.cells #[x0,x1,x2,x3,x4] t (0,0)):=by
 have e:=zaz (i:=4) (u:=x4) (zaz (i:=3) (u:=x3) (zaz (i:=2) (u:=x2) (zaz (i:=1) (u:=x1) (zaz (i:=0) (u:=x0) h))))
 rw[e]
 simp
theorem zcb {B:Nat} {a w:World} {b:Nat} (h:Below B a w) (j:B≤b) (x0 x1 x2 x3 x4:Value):Below B a (((((w.setCell ⟨b,0,none⟩ x0).setCell ⟨b,1,none⟩ x1).setCell ⟨b,2,none⟩ x2).setCell ⟨b,3,none⟩ x3).setCell ⟨b,4,none⟩ x4):=
 ((((h.setCell j _).setCell j _).setCell j _).setCell j _).setCell j _
end Go.Proofs.YtjdddblpfbmpaaaGreat
