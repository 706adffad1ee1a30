/-
  A program under way in memory: its six rows,what a step leaves as it was. No program is spoken of but for the numbers of its types.
  One of the six rows of a program under way grows by one element: what holds behind it. No program is spoken of but for the numbers of its types.
  Items of programs,as plain functions. No program is spoken of.
  A whole program,as a plain function of its tokens: items one behind the other. No program is spoken of.
  A text has at most 4000 tokens. No program is spoken of.
  A program in memory,as Parse hands it back. No program is spoken of but for the numbers of its types.
-/
import Derived.Maps.AppendAt
import Derived.Test.YtcidlffeeninbaaGreatClTokMem
namespace Go.Proofs.YtcidlffeeninbaaGreat
open Go.RowKit Go.PlainAid
def imL (x:Im):List Value:=[.string x.spec,.string x.first,.string x.loc]
def epL (x:Ep):List Value:=[.int .i64 x.kind,.string x.name,.string x.loc,.string x.spec]
def smL (x:Sm):List Value:=[.int .i64 x.kind,.string x.name,.int .i64 x.expr]
def exL (x:Ex):List Value:=[.int .i64 x.kind,.int .i64 x.num,.string x.name,.string x.field,.int .i64 x.l,.int .i64 x.r]
structure Rw where
 a:Option Addr
 cap:Nat
structure Sv where
 rq:Rw
 im:Rw
 ep:Rw
 st:Rw
 ex:Rw
 la:Rw
def Rw.blk (r:Rw):Option Nat:=(Value.slice r.a 0 r.cap).ownBlock
def Sv.has (S:Sv) (k:Nat):Prop:=S.rq.blk=some k∨S.im.blk=some k∨S.ep.blk=some k∨S.st.blk=some k∨S.ex.blk=some k∨S.la.blk=some k
def OwnR (w:World) (base:Nat) (e:TypeId) (size:Nat) (r:Rw) (n:Nat) (xs:List Value):Prop:=w.ownsRow base e size (.slice r.a n r.cap) n xs
theorem zb0 (r:Rw) (n:Nat):(Value.slice r.a n r.cap).ownBlock=r.blk:=by
 unfold Rw.blk Value.ownBlock
 cases r.a<;>rfl
structure Own (w:World) (base:Nat) (S:Sv) (q:PS):Prop where
 rq:OwnR w base 9 1 S.rq q.rq.length (q.rq.map .string)
 im:OwnR w base 80 3 S.im q.im.length (q.im.flatMap imL)
 ep:OwnR w base 82 4 S.ep q.ep.length (q.ep.flatMap epL)
 st:OwnR w base 87 3 S.st q.st.length (q.st.flatMap smL)
 ex:OwnR w base 85 6 S.ex q.ex.length (q.ex.flatMap exL)
 la:OwnR w base 82 4 S.la q.la.length (q.la.flatMap epL)
 apart: ∀k,S.ep.blk=some k→S.la.blk≠some k
theorem OwnR.typed {w:World} {q size n:Nat} {e:TypeId} {r:Rw} {xs:List Value} (h:OwnR w q e size r n xs) {k:Nat} (A:r.blk=some k):q≤k∧k<w.heap.size∧∃z,w.heap[k]? =some (.cells z e (0,0)):=by
 rcases h.2 with ⟨D,_⟩|⟨g,I,z,D,H,E,_⟩
 ·rw[←zb0 r n,D] at A
  simp[Value.ownBlock] at A
 ·rw[←zb0 r n,D] at A
  simp only[Value.ownBlock,Option.some.injEq] at A
  subst A
  exact⟨H,(Array.getElem?_eq_some_iff.1 E).1,z,E⟩
theorem OwnR.ne {w:World} {V b2 O H I M:Nat} {D z:TypeId} {E A:Rw} {K X:List Value} (N:OwnR w V D O E I K) (L:OwnR w b2 z H A M X) (J:D≠z) {k:Nat} (Y:E.blk=some k):A.blk≠some k:=by
 intro h
 obtain⟨_,_,c1,U⟩:=N.typed Y
 obtain⟨_,_,Z,q⟩:=L.typed h
 rw[U] at q
 simp only[Option.some.injEq,Obj.cells.injEq] at q
 exact J q.2.1
theorem OwnR.keep {w E:World} {q size n:Nat} {e:TypeId} {r:Rw} {xs:List Value} (h:OwnR w q e size r n xs) (J: ∀k,r.blk=some k→E.heap[k]? =w.heap[k]?):OwnR E q e size r n xs:=by
 refine⟨h.1,?_⟩
 rcases h.2 with z|⟨g,D,A,z,I,H,rest⟩
 ·exact .inl z
 ·refine .inr ⟨g,D,A,z,I,?_,rest⟩
  rw[J g (by rw[←zb0 r n,z];rfl)]
  exact H
theorem Own.keep {w D:World} {z:Nat} {S:Sv} {q:PS} (h:Own w z S q) (A: ∀k,S.has k→D.heap[k]? =w.heap[k]?):Own D z S q:=
 ⟨h.rq.keep fun k e=>A k (.inl e),h.im.keep fun k e=>A k (.inr (.inl e)),h.ep.keep fun k e=>A k (.inr (.inr (.inl e))),h.st.keep fun k e=>A k (.inr (.inr (.inr (.inl e)))),
  h.ex.keep fun k e=>A k (.inr (.inr (.inr (.inr (.inl e))))),h.la.keep fun k e=>A k (.inr (.inr (.inr (.inr (.inr e))))),h.apart⟩
theorem Own.has {w:World} {z:Nat} {S:Sv} {q:PS} (h:Own w z S q) {k:Nat} (A:S.has k):z≤k∧k<w.heap.size:=by
 rcases A with e|e|e|e|e|e
 ·exact⟨(h.rq.typed e).1,(h.rq.typed e).2.1⟩
 ·exact⟨(h.im.typed e).1,(h.im.typed e).2.1⟩
 ·exact⟨(h.ep.typed e).1,(h.ep.typed e).2.1⟩
 ·exact⟨(h.st.typed e).1,(h.st.typed e).2.1⟩
 ·exact⟨(h.ex.typed e).1,(h.ex.typed e).2.1⟩
 ·exact⟨(h.la.typed e).1,(h.la.typed e).2.1⟩
theorem Own.later {w A:World} {z:Nat} {S:Sv} {q:PS} (h:Own w z S q) (D:Below w.heap.size w A):Own A z S q:=h.keep fun k e=>D.block k (h.has e).2
theorem Own.other {w:World} {E:Nat} {S:Sv} {q:PS} (h:Own w E S q) {k:Nat} {H:Array Value} {e:TypeId} {z:Nat×Nat} (D:w.heap[k]? =some (.cells H e z)) (J:e≠9) (K:e≠80) (I:e≠82) (L:e≠87) (M:e≠85): ¬S.has k:=by
 rintro (g|g|g|g|g|g)
 ·obtain⟨_,_,c,A⟩:=h.rq.typed g
  rw[D] at A
  simp only[Option.some.injEq,Obj.cells.injEq] at A
  exact J A.2.1
 ·obtain⟨_,_,c,A⟩:=h.im.typed g
  rw[D] at A
  simp only[Option.some.injEq,Obj.cells.injEq] at A
  exact K A.2.1
 ·obtain⟨_,_,c,A⟩:=h.ep.typed g
  rw[D] at A
  simp only[Option.some.injEq,Obj.cells.injEq] at A
  exact I A.2.1
 ·obtain⟨_,_,c,A⟩:=h.st.typed g
  rw[D] at A
  simp only[Option.some.injEq,Obj.cells.injEq] at A
  exact L A.2.1
 ·obtain⟨_,_,c,A⟩:=h.ex.typed g
  rw[D] at A
  simp only[Option.some.injEq,Obj.cells.injEq] at A
  exact M A.2.1
 ·obtain⟨_,_,c,A⟩:=h.la.typed g
  rw[D] at A
  simp only[Option.some.injEq,Obj.cells.injEq] at A
  exact I A.2.1
structure Stp (S:Sv) (w:World) (S':Sv) (w':World):Prop where
 os:w'.os=w.os
 tape:w'.tape=w.tape
 output:w'.output=w.output
 size:w.heap.size≤w'.heap.size
 block: ∀k,k<w.heap.size→¬S.has k→w'.heap[k]? =w.heap[k]?
 sub: ∀k,S'.has k→S.has k∨w.heap.size≤k
theorem Stp.refl (S:Sv) (w:World):Stp S w S w:=⟨rfl,rfl,rfl,Nat.le_refl _,fun _ _ _=>rfl,fun _ h=>.inl h⟩
theorem Stp.trans {S H A:Sv} {w z D:World} (h:Stp S w H z) (k:Stp H z A D):Stp S w A D:=
 ⟨k.os.trans h.os,k.tape.trans h.tape,k.output.trans h.output,Nat.le_trans h.size k.size,
  fun i q E=>(k.block i (Nat.lt_of_lt_of_le q h.size) fun g=>(h.sub i g).elim E fun I=>by omega).trans (h.block i q E),
  fun i q=>(k.sub i q).elim (h.sub i) fun g=>.inr (Nat.le_trans h.size g)⟩
theorem Stp.below {S:Sv} {w q:World} (h:Below w.heap.size w q):Stp S w S q:=⟨h.os,h.tape,h.output,h.size,fun k z _=>h.block k z,fun _ g=>.inl g⟩
theorem Stp.under {S E:Sv} {w A:World} {z:Nat} {q:PS} (h:Stp S w E A) (H:z≤w.heap.size) (D:Own w z S q):Below z w A:=
 ⟨h.os,h.tape,h.output,h.size,fun k I=>h.block k (by omega) fun g=>by have:=(D.has g).1;omega⟩
theorem Stp.grown {S z:Sv} {w q:World} {row:Option Nat} (h:w.grownBy q row) (H: ∀k,row=some k→S.has k) (D: ∀k,z.has k→S.has k∨w.heap.size≤k):Stp S w z q:=
 ⟨h.os,h.tape,h.output,h.size,fun k E A=>h.block k E fun e=>A (H k e.symm),D⟩
structure Inv (C:Cx) (q:PS):Prop where
 pos:q.pos≤C.ts.length
 rq:q.rq.length≤40
 im:q.im.length≤40
 ep:q.ep.length+q.la.length≤40
 st:q.st.length≤80
 ex:q.ex.length≤300
structure Mem (C:Cx) (gt cap base:Nat) (S:Sv) (q:PS) (w:World):Prop where
 own:Own w base S q
 inv:Inv C q
 tok:OwnT w base 136 gt C.ts.length cap C.ts
 few:C.ts.length≤4000
 base:base≤w.heap.size
theorem Mem.later {C:Cx} {H A z:Nat} {S:Sv} {q:PS} {w E:World} (h:Mem C H A z S q w) (D:Below w.heap.size w E):Mem C H A z S q E:=
 ⟨h.own.later D,h.inv,zcx h.tok D,h.few,Nat.le_trans h.base D.size⟩
theorem Mem.alloc {C:Cx} {D A z:Nat} {S:Sv} {q:PS} {w:World} (h:Mem C D A z S q w) (o:Obj):Mem C D A z S q (w.alloc o):=h.later ((Below.refl _ _).alloc (Nat.le_refl _) _)
theorem Own.to {w:World} {z:Nat} {S:Sv} {q q':PS} (h:Own w z S q) (D:q'.rq=q.rq) (E:q'.im=q.im) (A:q'.ep=q.ep) (H:q'.st=q.st) (I:q'.ex=q.ex) (J:q'.la=q.la):Own w z S q':=
 ⟨by rw[D];exact h.rq,by rw[E];exact h.im,by rw[A];exact h.ep,by rw[H];exact h.st,by rw[I];exact h.ex,by rw[J];exact h.la,h.apart⟩
theorem Mem.adv {C:Cx} {D A z:Nat} {S:Sv} {q:PS} {w:World} (h:Mem C D A z S q w) (E:q.pos<C.ts.length):Mem C D A z S (adv q) w:=
 ⟨h.own.to rfl rfl rfl rfl rfl rfl,⟨E,h.inv.rq,h.inv.im,h.inv.ep,h.inv.st,h.inv.ex⟩,h.tok,h.few,h.base⟩
theorem OwnR.alloc {w:World} {q size n:Nat} {e:TypeId} {r:Rw} {xs:List Value} (h:OwnR w q e size r n xs) (o:Obj):OwnR (w.alloc o) q e size r n xs:=
 h.keep fun k z=>Below.heap_alloc w o k (h.typed z).2.1
theorem zfT {w:World} {z g n D:Nat} {e:TypeId} {H:List Tk} (h:OwnT w z e g n D H): ∃q,w.heap[g]? =some (.cells q e (0,0)):=by
 rcases h.1.2 with ⟨A,_⟩|⟨J,E,q,A,K,I,L,_⟩
 ·simp at A
 ·simp only[Value.slice.injEq,Option.some.injEq,Addr.mk.injEq,and_true,true_and] at A
  obtain⟨rfl,rfl⟩:=A
  exact⟨q,I⟩
theorem zbE {w H:World} {q g n A:Nat} {e:TypeId} {E:List Tk} (h:OwnT w q e g n A E) (L:H.heap[g]? =w.heap[g]?):OwnT H q e g n A E:=by
 refine⟨⟨h.1.1,?_⟩,h.2⟩
 rcases h.1.2 with k|⟨N,J,D,I,z,K,M⟩
 ·exact .inl k
 ·simp only[Value.slice.injEq,Option.some.injEq,Addr.mk.injEq,and_true,true_and] at I
  obtain⟨rfl,rfl⟩:=I
  exact .inr ⟨g,A,D,rfl,z,L.trans K,M⟩
theorem Mem.gt_free {C:Cx} {D A z:Nat} {S:Sv} {q:PS} {w:World} (h:Mem C D A z S q w): ¬S.has D:=by
 obtain⟨H,E⟩:=zfT h.tok
 exact h.own.other E (by decide) (by decide) (by decide) (by decide) (by decide)
structure Off (lo hi:Nat) (w w':World):Prop where
 os:w'.os=w.os
 tape:w'.tape=w.tape
 output:w'.output=w.output
 size:w.heap.size≤w'.heap.size
 block: ∀k,k<lo∨hi≤k∧k<w.heap.size→w'.heap[k]? =w.heap[k]?
theorem Off.refl (h q:Nat) (w:World):Off h q w w:=⟨rfl,rfl,rfl,Nat.le_refl _,fun _ _=>rfl⟩
theorem Off.set {z A:Nat} {w q:World} (h:Off z A w q) {b:Nat} (E:z≤b) (H:b<A) (i:Nat) (u:Value):Off z A w (q.setCell ⟨b,i,none⟩ u):=
 ⟨h.os,h.tape,h.output,by show _≤(q.heap.modify _ _).size;simp;exact h.size,fun k D=>(Below.heap_setCell q ⟨b,i,none⟩ u k (by show k≠b;omega)).trans (h.block k D)⟩
theorem Off.below {A E:Nat} {w z D:World} (h:Off A E w z) (q:Below z.heap.size z D) (H:A≤w.heap.size):Off A E w D:=
 ⟨q.os.trans h.os,q.tape.trans h.tape,q.output.trans h.output,Nat.le_trans h.size q.size,fun k I=>(q.block k (by have:=h.size;omega)).trans (h.block k I)⟩
theorem Off.set12 {A E:Nat} {a w:World} (h:Off A E a w) {b:Nat} (q:A≤b) (z:b<E) (O X M V N I K J L U H D:Value):
  Off A E a ((((((((((((w.setCell ⟨b,0,none⟩ O).setCell ⟨b,1,none⟩ X).setCell ⟨b,2,none⟩ M).setCell ⟨b,3,none⟩ V).setCell ⟨b,4,none⟩ N).setCell ⟨b,5,none⟩ I).setCell ⟨b,6,none⟩ K).setCell ⟨b,7,none⟩ J).setCell ⟨b,8,none⟩ L).setCell ⟨b,9,none⟩ U).setCell ⟨b,10,none⟩ H).setCell ⟨b,11,none⟩ D):=
 (((((((((((h.set q z _ _).set q z _ _).set q z _ _).set q z _ _).set q z _ _).set q z _ _).set q z _ _).set q z _ _).set q z _ _).set q z _ _).set q z _ _).set q z _ _
theorem zaZ {P:Program} (W:World) {M:Array Oper} {rest:List Oper} {o:Oper} {a:Act} {Q:Exit→Act→World→Prop} (X:o.guard=none) (s x:Operand) (t:TypeId)
  (ho:o.op= .call {callee:=.builtin .append,args:=#[s,x],argTypes:=#[t,t]})
  (A:Nat) (e:TypeId) (i:TypeInfo) (z:Value) (size q:Nat) (ht:P.underlying t=some (.slice e)) (hi:P.info? e=some i) (hz:i.zero=some z) (H:i.size=size) (U:i.bytes=q) (Y:z.cells.size=size) (V:0<size) (L:q≤100)
  (r:Rw) (n:Nat) (xs:List Value) (hs:a.eval s= .slice r.a n r.cap) (K:OwnR W A e size r n xs)
  (N:Nat) (w:List Value) (hx:a.eval x= .slice (some ⟨N,0,none⟩) 1 1) (hg:W.heap[N]? =some (.cells w.toArray e (0,0))) (hl:w.length=size) (h1: ∀u∈w,u.oneCell'=true) (hn:n+1≤1000000) (E:A≤W.heap.size)
  (h: ∀J I,OwnR I A e size J (n+1) (xs++w)→W.grownBy I r.blk→(J.blk=r.blk∨J.blk=some W.heap.size)→wpList P M Q rest (a.put o.dst (.slice J.a (n+1) J.cap)) I):
  wpList P M Q (o::rest) a W:=by
 refine wpList_append_own_at _ X s x t ho A e i z size q ht hi hz H U Y V _ n _ hs K ⟨N,0,none⟩ 1 1 w hx (by omega) ?_ h1 ?_ ?_ E ?_
 ·intro j u hj
  have:(⟨N,0,none⟩:Addr).add j=⟨N,j,none⟩:=by simp[Addr.add];exact fun h=>h.symm
  rw[this]
  simp[World.cell?,hg,hj]
 ·unfold maxLen;omega
 ·have:(n+1)*q≤1000000*100:=Nat.mul_le_mul hn L
  omega
 ·intro v' I k1 k2 k3 k4
  rcases k1.2 with ⟨hv,ab⟩|⟨Z,D,aa,rfl,O⟩
  ·omega
  ·refine h ⟨some ⟨Z,0,none⟩,D⟩ I k1 ?_ ?_
   ·rw[←zb0 r n];exact k2
   ·rw[←zb0 r n,←zb0 ⟨some ⟨Z,0,none⟩,D⟩ (n+1)];exact k4
theorem Mem.grow_rq {C:Cx} {Z O H:Nat} {S:Sv} {q:PS} {w W X J:World} (z:Mem C Z O H S q w) (N:Below w.heap.size w W) (L:W.grownBy X S.rq.blk) {I:Rw} {x:ByteArray} (hr:OwnR X H 9 1 I (q.rq.length+1) (q.rq.map .string++[.string x])) (K:I.blk=S.rq.blk∨I.blk=some W.heap.size) (E:Off w.heap.size W.heap.size X J) (hn:q.rq.length<40):
  Mem C Z O H {S with rq:=I} {q with rq:=q.rq++[x]} J∧Stp S w {S with rq:=I} J:=by
 have Y:=N.size
 have M:=L.size
 have A: ∀k,k<w.heap.size→S.rq.blk≠some k→J.heap[k]? =w.heap[k]?:=fun k D aa=>
  (E.block k (.inl D)).trans ((L.block k (by omega) fun e=>aa e.symm).trans (N.block k D))
 have U:OwnR J H 9 1 I (q.rq.length+1) (q.rq.map .string++[.string x]):=hr.keep fun k D=>E.block k (by
  rcases K with e|e
  ·rw[e] at D
   exact .inl (z.own.rq.typed D).2.1
  ·rw[e] at D
   obtain rfl:=Option.some.inj D
   exact .inr ⟨Nat.le_refl _,(hr.typed e).2.1⟩)
 have V:(q.rq++[x]).length=q.rq.length+1:=by simp
 refine⟨⟨⟨by show OwnR J H 9 1 I (q.rq++[x]).length _;rw[V];simpa using U,z.own.im.keep fun k D=>A k (z.own.im.typed D).2.1 (z.own.im.ne z.own.rq (by decide) D),z.own.ep.keep fun k D=>A k (z.own.ep.typed D).2.1 (z.own.ep.ne z.own.rq (by decide) D),z.own.st.keep fun k D=>A k (z.own.st.typed D).2.1 (z.own.st.ne z.own.rq (by decide) D),z.own.ex.keep fun k D=>A k (z.own.ex.typed D).2.1 (z.own.ex.ne z.own.rq (by decide) D),z.own.la.keep fun k D=>A k (z.own.la.typed D).2.1 (z.own.la.ne z.own.rq (by decide) D),z.own.apart⟩,⟨z.inv.pos,by simp;omega,z.inv.im,z.inv.ep,z.inv.st,z.inv.ex⟩,zbE z.tok (A Z (zau z.tok).1 fun e=>z.gt_free (.inl e)),z.few,Nat.le_trans z.base (by have:=E.size;omega)⟩,?_⟩
 refine⟨E.os.trans (L.os.trans N.os),E.tape.trans (L.tape.trans N.tape),E.output.trans (L.output.trans N.output),Nat.le_trans (Nat.le_trans Y M) E.size,fun k D hn=>A k D fun e=>hn (.inl e),fun k D=>?_⟩
 rcases D with h|h|h|h|h|h
 ·exact K.elim (fun e=>.inl (.inl (e.symm.trans h))) fun e=>.inr (by have:W.heap.size=k:=Option.some.inj (e.symm.trans h);omega)
 ·exact .inl (.inr (.inl h))
 ·exact .inl (.inr (.inr (.inl h)))
 ·exact .inl (.inr (.inr (.inr (.inl h))))
 ·exact .inl (.inr (.inr (.inr (.inr (.inl h)))))
 ·exact .inl (.inr (.inr (.inr (.inr (.inr h)))))
theorem Mem.grow_im {C:Cx} {Z O H:Nat} {S:Sv} {q:PS} {w W X J:World} (z:Mem C Z O H S q w) (N:Below w.heap.size w W) (L:W.grownBy X S.im.blk) {I:Rw} {x:Im} (hr:OwnR X H 80 3 I (q.im.length+1) (q.im.flatMap imL++imL x)) (K:I.blk=S.im.blk∨I.blk=some W.heap.size) (E:Off w.heap.size W.heap.size X J) (hn:q.im.length<40):
  Mem C Z O H {S with im:=I} {q with im:=q.im++[x]} J∧Stp S w {S with im:=I} J:=by
 have Y:=N.size
 have M:=L.size
 have A: ∀k,k<w.heap.size→S.im.blk≠some k→J.heap[k]? =w.heap[k]?:=fun k D aa=>
  (E.block k (.inl D)).trans ((L.block k (by omega) fun e=>aa e.symm).trans (N.block k D))
 have U:OwnR J H 80 3 I (q.im.length+1) (q.im.flatMap imL++imL x):=hr.keep fun k D=>E.block k (by
  rcases K with e|e
  ·rw[e] at D
   exact .inl (z.own.im.typed D).2.1
  ·rw[e] at D
   obtain rfl:=Option.some.inj D
   exact .inr ⟨Nat.le_refl _,(hr.typed e).2.1⟩)
 have V:(q.im++[x]).length=q.im.length+1:=by simp
 refine⟨⟨⟨z.own.rq.keep fun k D=>A k (z.own.rq.typed D).2.1 (z.own.rq.ne z.own.im (by decide) D),by show OwnR J H 80 3 I (q.im++[x]).length _;rw[V];simpa using U,z.own.ep.keep fun k D=>A k (z.own.ep.typed D).2.1 (z.own.ep.ne z.own.im (by decide) D),z.own.st.keep fun k D=>A k (z.own.st.typed D).2.1 (z.own.st.ne z.own.im (by decide) D),z.own.ex.keep fun k D=>A k (z.own.ex.typed D).2.1 (z.own.ex.ne z.own.im (by decide) D),z.own.la.keep fun k D=>A k (z.own.la.typed D).2.1 (z.own.la.ne z.own.im (by decide) D),z.own.apart⟩,⟨z.inv.pos,z.inv.rq,by simp;omega,z.inv.ep,z.inv.st,z.inv.ex⟩,zbE z.tok (A Z (zau z.tok).1 fun e=>z.gt_free (.inr (.inl e))),z.few,Nat.le_trans z.base (by have:=E.size;omega)⟩,?_⟩
 refine⟨E.os.trans (L.os.trans N.os),E.tape.trans (L.tape.trans N.tape),E.output.trans (L.output.trans N.output),Nat.le_trans (Nat.le_trans Y M) E.size,fun k D hn=>A k D fun e=>hn (.inr (.inl e)),fun k D=>?_⟩
 rcases D with h|h|h|h|h|h
 ·exact .inl (.inl h)
 ·exact K.elim (fun e=>.inl (.inr (.inl (e.symm.trans h)))) fun e=>.inr (by have:W.heap.size=k:=Option.some.inj (e.symm.trans h);omega)
 ·exact .inl (.inr (.inr (.inl h)))
 ·exact .inl (.inr (.inr (.inr (.inl h))))
 ·exact .inl (.inr (.inr (.inr (.inr (.inl h)))))
 ·exact .inl (.inr (.inr (.inr (.inr (.inr h)))))
theorem Mem.grow_ep {C:Cx} {Z O H:Nat} {S:Sv} {q:PS} {w W X K:World} (z:Mem C Z O H S q w) (N:Below w.heap.size w W) (L:W.grownBy X S.ep.blk) {I:Rw} {x:Ep} (hr:OwnR X H 82 4 I (q.ep.length+1) (q.ep.flatMap epL++epL x)) (J:I.blk=S.ep.blk∨I.blk=some W.heap.size) (E:Off w.heap.size W.heap.size X K) (hn:q.ep.length+q.la.length<40):
  Mem C Z O H {S with ep:=I} {q with ep:=q.ep++[x]} K∧Stp S w {S with ep:=I} K:=by
 have Y:=N.size
 have M:=L.size
 have A: ∀k,k<w.heap.size→S.ep.blk≠some k→K.heap[k]? =w.heap[k]?:=fun k D aa=>
  (E.block k (.inl D)).trans ((L.block k (by omega) fun e=>aa e.symm).trans (N.block k D))
 have U:OwnR K H 82 4 I (q.ep.length+1) (q.ep.flatMap epL++epL x):=hr.keep fun k D=>E.block k (by
  rcases J with e|e
  ·rw[e] at D
   exact .inl (z.own.ep.typed D).2.1
  ·rw[e] at D
   obtain rfl:=Option.some.inj D
   exact .inr ⟨Nat.le_refl _,(hr.typed e).2.1⟩)
 have V:(q.ep++[x]).length=q.ep.length+1:=by simp
 refine⟨⟨⟨z.own.rq.keep fun k D=>A k (z.own.rq.typed D).2.1 (z.own.rq.ne z.own.ep (by decide) D),z.own.im.keep fun k D=>A k (z.own.im.typed D).2.1 (z.own.im.ne z.own.ep (by decide) D),by show OwnR K H 82 4 I (q.ep++[x]).length _;rw[V];simpa using U,z.own.st.keep fun k D=>A k (z.own.st.typed D).2.1 (z.own.st.ne z.own.ep (by decide) D),z.own.ex.keep fun k D=>A k (z.own.ex.typed D).2.1 (z.own.ex.ne z.own.ep (by decide) D),z.own.la.keep fun k D=>A k (z.own.la.typed D).2.1 (fun e=>z.own.apart k e D),fun k D hl=>J.elim (fun e=>z.own.apart k (by rw[←e];exact D) hl) fun e=>by have h1:=(z.own.la.typed hl).2.1;have h2:W.heap.size=k:=Option.some.inj (e.symm.trans D);omega⟩,⟨z.inv.pos,z.inv.rq,z.inv.im,by have:=z.inv.ep;simp;omega,z.inv.st,z.inv.ex⟩,zbE z.tok (A Z (zau z.tok).1 fun e=>z.gt_free (.inr (.inr (.inl e)))),z.few,Nat.le_trans z.base (by have:=E.size;omega)⟩,?_⟩
 refine⟨E.os.trans (L.os.trans N.os),E.tape.trans (L.tape.trans N.tape),E.output.trans (L.output.trans N.output),Nat.le_trans (Nat.le_trans Y M) E.size,fun k D hn=>A k D fun e=>hn (.inr (.inr (.inl e))),fun k D=>?_⟩
 rcases D with h|h|h|h|h|h
 ·exact .inl (.inl h)
 ·exact .inl (.inr (.inl h))
 ·exact J.elim (fun e=>.inl (.inr (.inr (.inl (e.symm.trans h))))) fun e=>.inr (by have:W.heap.size=k:=Option.some.inj (e.symm.trans h);omega)
 ·exact .inl (.inr (.inr (.inr (.inl h))))
 ·exact .inl (.inr (.inr (.inr (.inr (.inl h)))))
 ·exact .inl (.inr (.inr (.inr (.inr (.inr h)))))
theorem Mem.grow_st {C:Cx} {Z O H:Nat} {S:Sv} {q:PS} {w W X J:World} (z:Mem C Z O H S q w) (N:Below w.heap.size w W) (L:W.grownBy X S.st.blk) {I:Rw} {x:Sm} (hr:OwnR X H 87 3 I (q.st.length+1) (q.st.flatMap smL++smL x)) (K:I.blk=S.st.blk∨I.blk=some W.heap.size) (E:Off w.heap.size W.heap.size X J) (hn:q.st.length<80):
  Mem C Z O H {S with st:=I} {q with st:=q.st++[x]} J∧Stp S w {S with st:=I} J:=by
 have Y:=N.size
 have M:=L.size
 have A: ∀k,k<w.heap.size→S.st.blk≠some k→J.heap[k]? =w.heap[k]?:=fun k D aa=>
  (E.block k (.inl D)).trans ((L.block k (by omega) fun e=>aa e.symm).trans (N.block k D))
 have U:OwnR J H 87 3 I (q.st.length+1) (q.st.flatMap smL++smL x):=hr.keep fun k D=>E.block k (by
  rcases K with e|e
  ·rw[e] at D
   exact .inl (z.own.st.typed D).2.1
  ·rw[e] at D
   obtain rfl:=Option.some.inj D
   exact .inr ⟨Nat.le_refl _,(hr.typed e).2.1⟩)
 have V:(q.st++[x]).length=q.st.length+1:=by simp
 refine⟨⟨⟨z.own.rq.keep fun k D=>A k (z.own.rq.typed D).2.1 (z.own.rq.ne z.own.st (by decide) D),z.own.im.keep fun k D=>A k (z.own.im.typed D).2.1 (z.own.im.ne z.own.st (by decide) D),z.own.ep.keep fun k D=>A k (z.own.ep.typed D).2.1 (z.own.ep.ne z.own.st (by decide) D),by show OwnR J H 87 3 I (q.st++[x]).length _;rw[V];simpa using U,z.own.ex.keep fun k D=>A k (z.own.ex.typed D).2.1 (z.own.ex.ne z.own.st (by decide) D),z.own.la.keep fun k D=>A k (z.own.la.typed D).2.1 (z.own.la.ne z.own.st (by decide) D),z.own.apart⟩,⟨z.inv.pos,z.inv.rq,z.inv.im,z.inv.ep,by simp;omega,z.inv.ex⟩,zbE z.tok (A Z (zau z.tok).1 fun e=>z.gt_free (.inr (.inr (.inr (.inl e))))),z.few,Nat.le_trans z.base (by have:=E.size;omega)⟩,?_⟩
 refine⟨E.os.trans (L.os.trans N.os),E.tape.trans (L.tape.trans N.tape),E.output.trans (L.output.trans N.output),Nat.le_trans (Nat.le_trans Y M) E.size,fun k D hn=>A k D fun e=>hn (.inr (.inr (.inr (.inl e)))),fun k D=>?_⟩
 rcases D with h|h|h|h|h|h
 ·exact .inl (.inl h)
 ·exact .inl (.inr (.inl h))
 ·exact .inl (.inr (.inr (.inl h)))
 ·exact K.elim (fun e=>.inl (.inr (.inr (.inr (.inl (e.symm.trans h)))))) fun e=>.inr (by have:W.heap.size=k:=Option.some.inj (e.symm.trans h);omega)
 ·exact .inl (.inr (.inr (.inr (.inr (.inl h)))))
 ·exact .inl (.inr (.inr (.inr (.inr (.inr h)))))
theorem Mem.grow_ex {C:Cx} {Z O H:Nat} {S:Sv} {q:PS} {w W X J:World} (z:Mem C Z O H S q w) (N:Below w.heap.size w W) (L:W.grownBy X S.ex.blk) {I:Rw} {x:Ex} (hr:OwnR X H 85 6 I (q.ex.length+1) (q.ex.flatMap exL++exL x)) (K:I.blk=S.ex.blk∨I.blk=some W.heap.size) (E:Off w.heap.size W.heap.size X J) (hn:q.ex.length<300):
  Mem C Z O H {S with ex:=I} {q with ex:=q.ex++[x]} J∧Stp S w {S with ex:=I} J:=by
 have Y:=N.size
 have M:=L.size
 have A: ∀k,k<w.heap.size→S.ex.blk≠some k→J.heap[k]? =w.heap[k]?:=fun k D aa=>
  (E.block k (.inl D)).trans ((L.block k (by omega) fun e=>aa e.symm).trans (N.block k D))
 have U:OwnR J H 85 6 I (q.ex.length+1) (q.ex.flatMap exL++exL x):=hr.keep fun k D=>E.block k (by
  rcases K with e|e
  ·rw[e] at D
   exact .inl (z.own.ex.typed D).2.1
  ·rw[e] at D
   obtain rfl:=Option.some.inj D
   exact .inr ⟨Nat.le_refl _,(hr.typed e).2.1⟩)
 have V:(q.ex++[x]).length=q.ex.length+1:=by simp
 refine⟨⟨⟨z.own.rq.keep fun k D=>A k (z.own.rq.typed D).2.1 (z.own.rq.ne z.own.ex (by decide) D),z.own.im.keep fun k D=>A k (z.own.im.typed D).2.1 (z.own.im.ne z.own.ex (by decide) D),z.own.ep.keep fun k D=>A k (z.own.ep.typed D).2.1 (z.own.ep.ne z.own.ex (by decide) D),z.own.st.keep fun k D=>A k (z.own.st.typed D).2.1 (z.own.st.ne z.own.ex (by decide) D),by show OwnR J H 85 6 I (q.ex++[x]).length _;rw[V];simpa using U,z.own.la.keep fun k D=>A k (z.own.la.typed D).2.1 (z.own.la.ne z.own.ex (by decide) D),z.own.apart⟩,⟨z.inv.pos,z.inv.rq,z.inv.im,z.inv.ep,z.inv.st,by simp;omega⟩,zbE z.tok (A Z (zau z.tok).1 fun e=>z.gt_free (.inr (.inr (.inr (.inr (.inl e)))))),z.few,Nat.le_trans z.base (by have:=E.size;omega)⟩,?_⟩
 refine⟨E.os.trans (L.os.trans N.os),E.tape.trans (L.tape.trans N.tape),E.output.trans (L.output.trans N.output),Nat.le_trans (Nat.le_trans Y M) E.size,fun k D hn=>A k D fun e=>hn (.inr (.inr (.inr (.inr (.inl e))))),fun k D=>?_⟩
 rcases D with h|h|h|h|h|h
 ·exact .inl (.inl h)
 ·exact .inl (.inr (.inl h))
 ·exact .inl (.inr (.inr (.inl h)))
 ·exact .inl (.inr (.inr (.inr (.inl h))))
 ·exact K.elim (fun e=>.inl (.inr (.inr (.inr (.inr (.inl (e.symm.trans h))))))) fun e=>.inr (by have:W.heap.size=k:=Option.some.inj (e.symm.trans h);omega)
 ·exact .inl (.inr (.inr (.inr (.inr (.inr h)))))
theorem Mem.grow_la {C:Cx} {Z O H:Nat} {S:Sv} {q:PS} {w W X K:World} (z:Mem C Z O H S q w) (N:Below w.heap.size w W) (L:W.grownBy X S.la.blk) {I:Rw} {x:Ep} (hr:OwnR X H 82 4 I (q.la.length+1) (q.la.flatMap epL++epL x)) (J:I.blk=S.la.blk∨I.blk=some W.heap.size) (E:Off w.heap.size W.heap.size X K) (hn:q.ep.length+q.la.length<40):
  Mem C Z O H {S with la:=I} {q with la:=q.la++[x]} K∧Stp S w {S with la:=I} K:=by
 have Y:=N.size
 have M:=L.size
 have A: ∀k,k<w.heap.size→S.la.blk≠some k→K.heap[k]? =w.heap[k]?:=fun k D aa=>
  (E.block k (.inl D)).trans ((L.block k (by omega) fun e=>aa e.symm).trans (N.block k D))
 have U:OwnR K H 82 4 I (q.la.length+1) (q.la.flatMap epL++epL x):=hr.keep fun k D=>E.block k (by
  rcases J with e|e
  ·rw[e] at D
   exact .inl (z.own.la.typed D).2.1
  ·rw[e] at D
   obtain rfl:=Option.some.inj D
   exact .inr ⟨Nat.le_refl _,(hr.typed e).2.1⟩)
 have V:(q.la++[x]).length=q.la.length+1:=by simp
 refine⟨⟨⟨z.own.rq.keep fun k D=>A k (z.own.rq.typed D).2.1 (z.own.rq.ne z.own.la (by decide) D),z.own.im.keep fun k D=>A k (z.own.im.typed D).2.1 (z.own.im.ne z.own.la (by decide) D),z.own.ep.keep fun k D=>A k (z.own.ep.typed D).2.1 (fun e=>z.own.apart k D e),z.own.st.keep fun k D=>A k (z.own.st.typed D).2.1 (z.own.st.ne z.own.la (by decide) D),z.own.ex.keep fun k D=>A k (z.own.ex.typed D).2.1 (z.own.ex.ne z.own.la (by decide) D),by show OwnR K H 82 4 I (q.la++[x]).length _;rw[V];simpa using U,fun k D hl=>J.elim (fun e=>z.own.apart k D (by rw[←e];exact hl)) fun e=>by have h1:=(z.own.ep.typed D).2.1;have h2:W.heap.size=k:=Option.some.inj (e.symm.trans hl);omega⟩,⟨z.inv.pos,z.inv.rq,z.inv.im,by have:=z.inv.ep;simp;omega,z.inv.st,z.inv.ex⟩,zbE z.tok (A Z (zau z.tok).1 fun e=>z.gt_free (.inr (.inr (.inr (.inr (.inr e)))))),z.few,Nat.le_trans z.base (by have:=E.size;omega)⟩,?_⟩
 refine⟨E.os.trans (L.os.trans N.os),E.tape.trans (L.tape.trans N.tape),E.output.trans (L.output.trans N.output),Nat.le_trans (Nat.le_trans Y M) E.size,fun k D hn=>A k D fun e=>hn (.inr (.inr (.inr (.inr (.inr e))))),fun k D=>?_⟩
 rcases D with h|h|h|h|h|h
 ·exact .inl (.inl h)
 ·exact .inl (.inr (.inl h))
 ·exact .inl (.inr (.inr (.inl h)))
 ·exact .inl (.inr (.inr (.inr (.inl h))))
 ·exact .inl (.inr (.inr (.inr (.inr (.inl h)))))
 ·exact J.elim (fun e=>.inl (.inr (.inr (.inr (.inr (.inr (e.symm.trans h))))))) fun e=>.inr (by have:W.heap.size=k:=Option.some.inj (e.symm.trans h);omega)
abbrev PRN:=Except Nat (PS×ByteArray)
def zaR (y:PRN):PR:=bd y fun a=>.ok a.1
def withN (y:PRN) (F:PR→ByteArray→PR):PRN:=bd y fun a=>bd (F (.ok a.1) a.2) fun q=>.ok (q,a.2)
def zcK (C:Cx) (q:PS):PRN:=withN (bd (zd C 1 zF q) (zl C false)) fun x n=>bd (bd (bd (bd x (zd C 4 cEq)) (pE C .sum 0)) (zd C 4 cSemi)) (zY C 1 n)
def fnP (C:Cx) (q:PS):PRN:=
 withN (bd (zd C 1 zU q) (zl C false)) fun x n=>bd (bd (bd (bd (bd (bd (bd (bd x (zd C 4 zo)) (zd C 4 za7)) (zd C 4 zM)) (zd C 1 ze2)) (pE C .sum 0)) (zd C 4 cSemi)) (zd C 4 zbx)) (zY C 2 n)
def asP (C:Cx) (exp:Bool) (a:PS×ByteArray):PRN:=
 if isT C a.1.pos 1 sAs then zl C exp (adv a.1)
 else if (a.2.toList==[100,101,102,97,117,108,116])&& !exp then .error (zs C a.1.pos) else .ok a
abbrev PRL:=Except Nat (PS×List Ep)
def zdx (C:Cx) (exp:Bool):Nat→PS→List Ep→PRL
 |0,_,_=>.error 0
 |f+1,q,acc=>bd (zl C true q) fun a=>bd (asP C exp a) fun b=>
  if isT C b.1.pos 4 zbA then zdx C exp f (adv b.1) (acc++[⟨0,b.2,a.2,sNone⟩]) else bd (zd C 4 zbx b.1) fun q'=>.ok (q',acc++[⟨0,b.2,a.2,sNone⟩])
def za3 (C:Cx) (exp:Bool) (q:PS) (acc:List Ep):PRL:=zdx C exp (C.ts.length-q.pos+1) q acc
def zcZ (C:Cx) (exp:Bool) (q:PS):PRL:=bd (zd C 4 zM q) fun q'=>za3 C exp q' []
def zaE (l:List Ep):Bool:=l.any fun x=>x.loc.toList==[100,101,102,97,117,108,116]
theorem zfi {C:Cx} {q:Bool} {a b:PS×ByteArray} (h:asP C q a= .ok b):a.1.pos≤b.1.pos:=by
 unfold asP at h
 split at h
 ·obtain⟨rfl,_⟩:=zby h
  show a.1.pos≤a.1.pos+1+1
  omega
 ·split at h
  ·cases h
  ·cases h
   exact Nat.le_refl _
theorem zmR {C:Cx} {w:Bool} (f:Nat): ∀(g:Nat) (q:PS) (acc:List Ep),C.ts.length-q.pos<f→C.ts.length-q.pos<g→zdx C w f q acc=zdx C w g q acc:=by
 induction f with
 |zero=>intro g q acc h;omega
 |succ f J=>
  intro g q acc K L
  obtain⟨g,rfl⟩: ∃E,g=E+1:=⟨g-1,by omega⟩
  rw[zdx,zdx]
  refine zaf fun a I=>zaf fun b H=>?_
  split
  ·next D=>
   obtain⟨rfl,z⟩:=zby I
   have A:=zfi H
   have M:=za8 D (by decide)
   have N:=zfc z
   simp only[zz] at A
   exact J g _ _ (by rw[zz];omega) (by rw[zz];omega)
  ·rfl
theorem zfU (C:Cx) (h:Bool) (q:PS) (acc:List Ep):za3 C h q acc=bd (zl C true q) fun a=>bd (asP C h a) fun b=>
  if isT C b.1.pos 4 zbA then za3 C h (adv b.1) (acc++[⟨0,b.2,a.2,sNone⟩]) else bd (zd C 4 zbx b.1) fun q'=>.ok (q',acc++[⟨0,b.2,a.2,sNone⟩]):=by
 rw[za3,zdx]
 refine zaf fun a E=>zaf fun b D=>?_
 split
 ·next A=>
  obtain⟨rfl,w⟩:=zby E
  have z:=zfi D
  have H:=za8 A (by decide)
  have I:=zfc w
  simp only[zz] at z
  exact zmR _ _ _ _ (by rw[zz];omega) (by rw[zz];omega)
 ·rfl
def zX {α:Type} (f:α→PS→PR):List α→PR→PR
 |[],x=>x
 |a::l,x=>zX f l (bd x (f a))
def zbZ (s:ByteArray) (e:Ep):Im:=⟨s,e.loc,e.name⟩
def zaK (C:Cx) (x:PR):PRN:=bd (bd x (zd C 1 zV)) (zL C)
def zbf (C:Cx) (y:PRN):PRN:=bd y fun a=>bd (zd C 4 cSemi a.1) fun q=>.ok (q,a.2)
def zba (C:Cx) (q:PS):PR:=
 bd (zd C 1 zal q) fun q=>
  if isT C q.pos 4 zM then bd (zcZ C false q) fun a=>bd (zbf C (zaK C (.ok a.1))) fun b=>zX (fun e=>zap C (zbZ b.2 e)) a.2 (.ok b.1)
  else if isT C q.pos 4 zy then bd (bd (bd (zd C 4 zy q) (zd C 1 sAs)) (zl C false)) fun a=>bd (zbf C (zaK C (.ok a.1))) fun b=>zap C ⟨b.2,zy,a.2⟩ b.1
  else if zG C q.pos false then bd (zl C false q) fun a=>bd (zbf C (zaK C (.ok a.1))) fun b=>zap C ⟨b.2,sDefault,a.2⟩ b.1
  else bd (zL C q) fun a=>zd C 4 cSemi a.1
def zD (e:Ep):Ep:=⟨1,e.name,e.loc,sNone⟩
def zav (s:ByteArray) (e:Ep):Ep:=⟨2,e.name,e.loc,s⟩
def zam (C:Cx) (q:PS):PR:=
 bd (zd C 1 zak q) fun q=>
  if isT C q.pos 4 zM then bd (zcZ C true q) fun a=>
   if !zaE a.2&& !isT C a.1.pos 1 zV then bd (zd C 4 cSemi a.1) fun q=>zX (fun e=>zp C (zD e)) a.2 (.ok q)
   else bd (zbf C (zaK C (.ok a.1))) fun b=>zX (fun e=>zp C (zav b.2 e)) a.2 (.ok b.1)
  else if isT C q.pos 4 zy then bd (zbf C (zaK C (zd C 4 zy q))) fun b=>zp C ⟨3,sNone,sNone,b.2⟩ b.1
  else if isT C q.pos 1 sDefault then bd (bd (bd (bd (zd C 1 sDefault q) (pE C .sum 0)) (zd C 4 cSemi)) (zY C 1 zci)) (zp C ⟨1,sDefault,zci,sNone⟩)
  else if isT C q.pos 1 zF then bd (zcK C q) fun a=>zp C ⟨1,a.2,a.2,sNone⟩ a.1
  else if isT C q.pos 1 zU then bd (fnP C q) fun a=>zp C ⟨1,a.2,a.2,sNone⟩ a.1
  else .error (zs C q.pos)
def zB (C:Cx) (q:PS):PR:=
 if !C.scr&&isT C q.pos 1 zal then zba C q
 else if !C.scr&&isT C q.pos 1 zak then zam C q
 else if isT C q.pos 1 zF then zaR (zcK C q)
 else if isT C q.pos 1 zU then zaR (fnP C q)
 else if isT C q.pos 1 zay then bd (bd (bd (bd (bd (zd C 1 zay q) (zd C 4 zo)) (pE C .sum 0)) (zd C 4 za7)) (zd C 4 cSemi)) (zY C 4 sNone)
 else if isT C q.pos 1 za9 then bd (bd (bd (zd C 1 za9 q) (pE C .sum 0)) (zd C 4 cSemi)) (zY C 5 sNone)
 else if C.scr&&isT C q.pos 1 zbM then bd (bd (bd (zd C 1 zbM q) (pE C .sum 0)) (zd C 4 cSemi)) (zY C 6 sNone)
 else bd (zl C false q) fun a=>bd (bd (bd (zd C 4 cEq a.1) (pE C .sum 0)) (zd C 4 cSemi)) (zY C 3 a.2)
theorem za4 {C:Cx} {k:Int} {s:ByteArray} {q q':PS} (h:zd C k s q= .ok q'):q.pos+1=q'.pos:=by
 obtain⟨rfl,_⟩:=zbO h
 rfl
theorem ze7 {C:Cx} {o:Bool} {q:PS} {a:PS×ByteArray} (h:zl C o q= .ok a):q.pos+1=a.1.pos:=by
 obtain⟨rfl,_⟩:=zby h
 rfl
theorem ziK {C:Cx} {q:PS} {a:PS×ByteArray} (h:zL C q= .ok a):q.pos+1=a.1.pos:=by
 unfold zL at h
 split at h
 ·split at h
  ·cases h;rfl
  ·split at h
   ·cases h
   ·cases h;rfl
 ·cases h
theorem ze8 {C:Cx} {k:Int} {n:ByteArray} {q q':PS} (h:zY C k n q= .ok q'):q.pos=q'.pos:=by
 unfold zY at h
 split at h
 ·cases h
 ·cases h;rfl
theorem zhe {C:Cx} {y:Im} {q q':PS} (h:zap C y q= .ok q'):q.pos=q'.pos:=by
 unfold zap at h
 split at h
 ·cases h
 ·cases h;rfl
theorem ze9 {C:Cx} {y:Ep} {q q':PS} (h:zp C y q= .ok q'):q.pos=q'.pos:=by
 unfold zp at h
 split at h
 ·cases h
 ·split at h
  ·cases h;rfl
  ·cases h;rfl
theorem zhf {α:Type} {f:α→PS→PR} (H: ∀a q q',f a q= .ok q'→q.pos=q'.pos) (l:List α): ∀(x:PR) (q':PS),zX f l x= .ok q'→∃q,x= .ok q∧q.pos=q'.pos:=by
 induction l with
 |nil=>intro x q' h;exact⟨q',h,rfl⟩
 |cons a l E=>
  intro x q' h
  obtain⟨b,z,A⟩:=E _ _ h
  obtain⟨c,w,D⟩:=zm z
  exact⟨c,w,(H _ _ _ D).trans A⟩
theorem ziL {C:Cx} {z:Bool} (m:Nat): ∀(q:PS) (acc:List Ep) (a:PS×List Ep),C.ts.length-q.pos<m→za3 C z q acc= .ok a→q.pos≤a.1.pos:=by
 induction m with
 |zero=>intro q acc a h;omega
 |succ m L=>
  intro q acc a O h
  rw[zfU] at h
  obtain⟨b,E,H⟩:=zm h
  obtain⟨c,A,w⟩:=zm H
  have N:=ze7 E
  have M:=zfi A
  split at w
  ·next D=>
   have J:=za8 D (by decide)
   have:=L _ _ _ (by rw[zz];omega) w
   rw[zz] at this
   omega
  ·obtain⟨d,I,K⟩:=zm w
   have J:=za4 I
   cases K
   show q.pos≤d.pos
   omega
theorem zfj {C:Cx} {x:PR} {b:PS×ByteArray} (h:zbf C (zaK C x)= .ok b): ∃q,x= .ok q∧q.pos≤b.1.pos:=by
 obtain⟨a,A,D⟩:=zm h
 obtain⟨c,z,H⟩:=zm D
 obtain⟨d,E,J⟩:=zm A
 obtain⟨e,w,I⟩:=zm E
 have M:=za4 z
 have K:=ziK J
 have L:=za4 I
 cases H
 exact⟨e,w,by show e.pos≤c.pos;omega⟩
theorem zmS {C:Cx} {q q':PS} (h:zba C q= .ok q'):q.pos<q'.pos:=by
 obtain⟨X,U,A⟩:=zm h
 have Y:=za4 U
 split at A
 ·obtain⟨a,z,D⟩:=zm A
  obtain⟨b,I,J⟩:=zm D
  obtain⟨c,K,O⟩:=zm z
  obtain⟨d,L,H⟩:=zfj I
  obtain⟨f,w,E⟩:=zhf (fun _ _ _ h=>zhe h) _ _ _ J
  have M:=za4 K
  have N:=ziL _ _ _ _ (Nat.lt_succ_self _) O
  cases L
  cases w
  omega
 ·split at A
  ·obtain⟨a,z,D⟩:=zm A
   obtain⟨b,I,J⟩:=zm D
   obtain⟨c,K,O⟩:=zm z
   obtain⟨d,L,H⟩:=zm K
   obtain⟨f,w,E⟩:=zfj I
   have M:=zhe J
   have N:=ze7 O
   have V:=za4 L
   have Z:=za4 H
   cases w
   omega
  ·split at A
   ·obtain⟨a,z,D⟩:=zm A
    obtain⟨b,I,J⟩:=zm D
    obtain⟨f,w,E⟩:=zfj I
    have M:=zhe J
    have N:=ze7 z
    cases w
    omega
   ·obtain⟨a,z,D⟩:=zm A
    have M:=ziK z
    have N:=za4 D
    omega
theorem ziM {y:PRN} {F:PR→ByteArray→PR} {a:PS×ByteArray} (h:withN y F= .ok a): ∃b,y= .ok b∧F (.ok b.1) b.2= .ok a.1:=by
 obtain⟨b,w,z⟩:=zm h
 obtain⟨c,q,A⟩:=zm z
 cases A
 exact⟨b,w,q⟩
theorem ziN {C:Cx} {q:PS} {a:PS×ByteArray} (h:zcK C q= .ok a):q.pos<a.1.pos:=by
 obtain⟨b,D,E⟩:=ziM h
 obtain⟨c,A,J⟩:=zm D
 obtain⟨d,I,L⟩:=zm E
 obtain⟨f,z,K⟩:=zm I
 obtain⟨g,H,w⟩:=zm z
 have V:=za4 A
 have N:=ze7 J
 have O:=za4 (show zd C 4 cEq b.1= .ok g from H)
 have M:=zbe w
 have X:=za4 K
 have U:=ze8 L
 omega
theorem ziO {C:Cx} {q:PS} {a:PS×ByteArray} (h:fnP C q= .ok a):q.pos<a.1.pos:=by
 obtain⟨b,X,U⟩:=ziM h
 obtain⟨c,h3,V⟩:=zm X
 obtain⟨d,L,N⟩:=zm U
 obtain⟨f,Z,M⟩:=zm L
 obtain⟨g,Y,z⟩:=zm Z
 obtain⟨i,A,H⟩:=zm Y
 obtain⟨j,I,J⟩:=zm A
 obtain⟨k,D,E⟩:=zm I
 obtain⟨l,w,K⟩:=zm D
 have e1:=za4 h3
 have e2:=ze7 V
 have e3:=za4 (show zd C 4 zo b.1= .ok l from w)
 have e4:=za4 K
 have e5:=za4 E
 have e6:=za4 J
 have e7:=zbe H
 have e8:=za4 z
 have e9:=za4 M
 have O:=ze8 N
 omega
theorem zmT {C:Cx} {q q':PS} (h:zam C q= .ok q'):q.pos<q'.pos:=by
 obtain⟨X,V,w⟩:=zm h
 have Z:=za4 V
 split at w
 ·obtain⟨a,I,z⟩:=zm w
  obtain⟨c,O,M⟩:=zm I
  have K:=za4 O
  have L:=ziL _ _ _ _ (Nat.lt_succ_self _) M
  split at z
  ·obtain⟨b,A,D⟩:=zm z
   obtain⟨f,H,N⟩:=zhf (fun _ _ _ h=>ze9 h) _ _ _ D
   have U:=za4 A
   cases H
   omega
  ·obtain⟨b,A,D⟩:=zm z
   obtain⟨d,J,E⟩:=zfj A
   obtain⟨f,H,N⟩:=zhf (fun _ _ _ h=>ze9 h) _ _ _ D
   cases J
   cases H
   omega
 ·split at w
  ·obtain⟨b,A,D⟩:=zm w
   obtain⟨d,J,E⟩:=zfj A
   have K:=za4 J
   have L:=ze9 D
   omega
  ·split at w
   ·obtain⟨a,I,z⟩:=zm w
    obtain⟨b,A,D⟩:=zm I
    obtain⟨c,O,M⟩:=zm A
    obtain⟨d,J,E⟩:=zm O
    have K:=za4 J
    have L:=zbe E
    have U:=za4 M
    have Y:=ze8 D
    have e6:=ze9 z
    omega
   ·split at w
    ·obtain⟨a,I,z⟩:=zm w
     have K:=ziN I
     have L:=ze9 z
     omega
    ·split at w
     ·obtain⟨a,I,z⟩:=zm w
      have K:=ziO I
      have L:=ze9 z
      omega
     ·cases w
theorem ziP {C:Cx} {s:ByteArray} {k:Int} {n:ByteArray} {q q':PS} (h:bd (bd (bd (zd C 1 s q) (pE C .sum 0)) (zd C 4 cSemi)) (zY C k n)= .ok q'):q.pos<q'.pos:=by
 obtain⟨a,z,A⟩:=zm h
 obtain⟨b,w,E⟩:=zm z
 obtain⟨c,D,H⟩:=zm w
 have L:=za4 D
 have J:=zbe H
 have K:=za4 E
 have I:=ze8 A
 omega
theorem zfV {C:Cx} {q q':PS} (h:zB C q= .ok q'):q.pos<q'.pos:=by
 unfold zB at h
 split at h
 ·exact zmS h
 ·split at h
  ·exact zmT h
  ·split at h
   ·obtain⟨a,w,z⟩:=zm h
    cases z
    exact ziN w
   ·split at h
    ·obtain⟨a,w,z⟩:=zm h
     cases z
     exact ziO w
    ·split at h
     ·obtain⟨a,w,z⟩:=zm h
      obtain⟨b,D,I⟩:=zm w
      obtain⟨c,H,K⟩:=zm D
      obtain⟨d,A,J⟩:=zm H
      obtain⟨e,M,E⟩:=zm A
      have U:=za4 M
      have N:=za4 E
      have O:=zbe J
      have L:=za4 K
      have V:=za4 I
      have X:=ze8 z
      omega
     ·split at h
      ·exact ziP h
      ·split at h
       ·exact ziP h
       ·obtain⟨a,w,z⟩:=zm h
        obtain⟨b,D,I⟩:=zm z
        obtain⟨c,H,K⟩:=zm D
        obtain⟨d,A,J⟩:=zm H
        have U:=ze7 w
        have N:=za4 A
        have O:=zbe J
        have L:=za4 K
        have V:=ze8 I
        omega
def zdy (C:Cx):Nat→PS→PR
 |0,_=>.error 0
 |f+1,q=>if q.pos<C.ts.length then bd (zB C q) (zdy C f) else .ok q
def zaz (C:Cx) (q:PS):PR:=zdy C (C.ts.length-q.pos+1) q
theorem zmU {C:Cx} (f:Nat): ∀(g:Nat) (q:PS),C.ts.length-q.pos<f→C.ts.length-q.pos<g→zdy C f q=zdy C g q:=by
 induction f with
 |zero=>intro g q h;omega
 |succ f A=>
  intro g q D E
  obtain⟨g,rfl⟩: ∃w,g=w+1:=⟨g-1,by omega⟩
  rw[zdy,zdy]
  split
  ·refine zaf fun a z=>?_
   have:=zfV z
   exact A g a (by omega) (by omega)
  ·rfl
theorem zfW (C:Cx) (q:PS):zaz C q=if q.pos<C.ts.length then bd (zB C q) (zaz C) else .ok q:=by
 rw[zaz,zdy]
 split
 ·refine zaf fun a h=>?_
  have:=zfV h
  exact zmU _ _ _ (by omega) (by omega)
 ·rfl
def zbQ:PS:=⟨0,[],[],[],[],[],[]⟩
def zbF (s:ByteArray) (scr:Bool) (y:PR):Prop:=∃r,zaj s scr r∧y=match r with
 | .error p=>.error p
 | .ok ts=>zaz ⟨ts,s.size,scr⟩ zbQ
theorem ziQ {s:ByteArray} {h:Bool} {w q:PR} (A:zbF s h w) (D:zbF s h q):w=q:=by
 obtain⟨I,E,rfl⟩:=A
 obtain⟨H,z,rfl⟩:=D
 obtain rfl:=zmA E z
 rfl
theorem zmV {s:ByteArray} {D:Bool} {a n:Nat} {r:Except Nat (List Tk)} (h:Lx s D a n r): ∀w,r= .ok w→n≤4000→w.length+n≤4000:=by
 induction h using Lx.ind with
 |done=>intro w z A;cases z;simpa using A
 |bad _ _=>intro w z A;cases z
 | @tok a n e b t r h A H I z E=>
  intro w q _
  cases r with
  |error p=>simp[Except.map] at q
  |ok l=>
   simp only[Except.map,Except.ok.injEq] at q
   subst q
   have:=E l rfl (by omega)
   simp only[List.length_cons]
   omega
theorem ziR {s:ByteArray} {w:Bool} {q:List Tk} (h:zaj s w (.ok q)):q.length≤4000:=by
 obtain⟨a,_,z⟩:=h
 have:=zmV z q rfl (by omega)
 omega
def R0:Rw:=⟨none,0⟩
def S0:Sv:=⟨R0,R0,R0,R0,R0,R0⟩
theorem zeA (w:World) (h size:Nat) (e:TypeId):OwnR w h e size R0 0 []:=World.ownsRow_nil w h e size
theorem zmW (w:World) (q:Nat):Own w q S0 zbQ:=
 ⟨zeA _ _ _ _,zeA _ _ _ _,zeA _ _ _ _,zeA _ _ _ _,zeA _ _ _ _,zeA _ _ _ _,fun k h=>by simp[S0,R0,Rw.blk,Value.ownBlock] at h⟩
theorem ziS {w:World} {q g z:Nat} {A:List Tk} {n:Nat} {D:Bool} (h:OwnT w q 136 g A.length z A) (E:A.length≤4000) (H:q≤w.heap.size):Mem ⟨A,n,D⟩ g z q S0 zbQ w:=
 ⟨zmW _ _,⟨Nat.zero_le _,Nat.zero_le _,Nat.zero_le _,Nat.zero_le _,Nat.zero_le _,Nat.zero_le _⟩,h,E,H⟩
structure OwnMod (w:World) (base:Nat) (S:Sv) (q:PS):Prop where
 rq:OwnR w base 9 1 S.rq q.rq.length (q.rq.map .string)
 im:OwnR w base 80 3 S.im q.im.length (q.im.flatMap imL)
 ep:OwnR w base 82 4 S.ep (q.ep++q.la).length ((q.ep++q.la).flatMap epL)
 st:OwnR w base 87 3 S.st q.st.length (q.st.flatMap smL)
 ex:OwnR w base 85 6 S.ex q.ex.length (q.ex.flatMap exL)
 inv:q.rq.length≤40∧q.im.length≤40∧q.ep.length+q.la.length≤40∧q.st.length≤80∧q.ex.length≤300
def zfX (S:Sv) (q:PS):Value:=.agg #[.slice S.rq.a q.rq.length S.rq.cap,.slice S.im.a q.im.length S.im.cap,.slice S.ep.a (q.ep++q.la).length S.ep.cap,.slice S.st.a q.st.length S.st.cap,.slice S.ex.a q.ex.length S.ex.cap]
def ParseOut (s:ByteArray) (scr:Bool) (w:World) (e:Ending) (w':World):Prop:=
 ∃y,zbF s scr y∧match y with
  | .ok q=>∃S,e= .returned (.tuple #[zfX S q,.int .i64 (-1)])∧OwnMod w' w.heap.size S q
  | .error p=>e= .returned (.tuple #[.agg #[.slice none 0 0,.slice none 0 0,.slice none 0 0,.slice none 0 0,.slice none 0 0],.int .i64 p])
theorem OwnR.low {w:World} {z q size n:Nat} {e:TypeId} {r:Rw} {xs:List Value} (h:OwnR w z e size r n xs) (I:q≤z):OwnR w q e size r n xs:=by
 refine⟨h.1,?_⟩
 rcases h.2 with A|⟨g,E,D,A,H,rest⟩
 ·exact .inl A
 ·exact .inr ⟨g,E,D,A,Nat.le_trans I H,rest⟩
theorem OwnR.nil_or {w:World} {z size n:Nat} {e:TypeId} {r:Rw} {xs:List Value} (h:OwnR w z e size r n xs):(r.a=none∧r.cap=0∧n=0)∨∃g,r.a=some ⟨g,0,none⟩:=by
 rcases h.2 with ⟨q,D⟩|⟨g,E,A,q,_⟩
 ·simp only[Value.slice.injEq] at q
  exact .inl ⟨q.1,q.2.2,D⟩
 ·simp only[Value.slice.injEq] at q
  exact .inr ⟨g,q.1⟩
theorem zmX {P:Program} (W:World) {N:Array Oper} {rest:List Oper} {o:Oper} {a:Act} {Q:Exit→Act→World→Prop} (ab:o.guard=none) (s x:Operand) (t:TypeId)
  (ho:o.op= .call {callee:=.builtin .append,args:=#[s,x],argTypes:=#[t,t]})
  (A:Nat) (e:TypeId) (i:TypeInfo) (z:Value) (size q:Nat) (ht:P.underlying t=some (.slice e)) (hi:P.info? e=some i) (hz:i.zero=some z) (H:i.size=size) (Z:i.bytes=q) (ac:z.cells.size=size) (aa:0<size) (M:q≤100)
  (r:Rw) (n:Nat) (xs:List Value) (hs:a.eval s= .slice r.a n r.cap) (L:OwnR W A e size r n xs)
  (U m c I:Nat) (w:List Value) (hx:a.eval x= .slice (some ⟨U,0,none⟩) m c) (hg:OwnR W I e size ⟨some ⟨U,0,none⟩,c⟩ m w) (h1: ∀u∈w,u.oneCell'=true) (hn:n+m≤1000000) (E:A≤W.heap.size)
  (h: ∀K J,OwnR J A e size K (n+m) (xs++w)→W.grownBy J r.blk→(K.blk=r.blk∨K.blk=some W.heap.size)→wpList P N Q rest (a.put o.dst (.slice K.a (n+m:Nat) K.cap)) J):
  wpList P N Q (o::rest) a W:=by
 refine wpList_append_own_at _ ab s x t ho A e i z size q ht hi hz H Z ac aa _ n _ hs L ⟨U,0,none⟩ m c w hx hg.1 ?_ h1 ?_ ?_ E ?_
 ·intro j u hj
  have e1:(⟨U,0,none⟩:Addr).add j=⟨U,j,none⟩:=by simp[Addr.add];exact fun h=>h.symm
  have Y:j<w.length:=(List.getElem?_eq_some_iff.1 hj).1
  rw[e1,World.ownsRow.cellAt hg j (by rw[←hg.1];exact Y)]
  exact hj
 ·unfold maxLen;omega
 ·have:(n+m)*q≤1000000*100:=Nat.mul_le_mul hn M
  omega
 ·intro v' J V k2 k3 k4
  rcases V.2 with ⟨hv,O⟩|⟨g',D,ad,rfl,X⟩
  ·subst hv
   have:=h ⟨none,0⟩ J (by rw[O] at V ⊢;exact V) (by rw[←zb0 r n];exact k2) (by rw[←zb0 r n];exact k4)
   rw[O] at this
   exact this
  ·refine h ⟨some ⟨g',0,none⟩,D⟩ J V ?_ ?_
   ·rw[←zb0 r n];exact k2
   ·rw[←zb0 r n,←zb0 ⟨some ⟨g',0,none⟩,D⟩ (n+m)];exact k4
theorem zmY {P:Program} (W:World) {z:Array Oper} {rest:List Oper} {o:Oper} {a:Act} {Q:Exit→Act→World→Prop} (D:o.guard=none) (s x:Operand) (t:TypeId)
  (L:o.op= .call {callee:=.builtin .append,args:=#[s,x],argTypes:=#[t,t]})
  (e:TypeId) (i:TypeInfo) (E:P.underlying t=some (.slice e)) (H:P.info? e=some i) (q size n:Nat)
  (r:Rw) (xs:List Value) (N:a.eval s= .slice r.a n r.cap) (w:OwnR W q e size r n xs) (I:a.eval x= .slice none 0 0)
  (h:wpList P z Q rest (a.put o.dst (.slice r.a n r.cap)) W):wpList P z Q (o::rest) a W:=by
 have V:(Builtin.append_ #[t,t] o.type #[.slice r.a n r.cap,.slice none 0 0]).run P W= .ok (.slice r.a n r.cap) W:=by
  rcases w.2 with ⟨A,_⟩|⟨g,U,M,A,_,_,O,_⟩
  ·rw[A]
   simp[Builtin.append_,run_underlying E,sizeOf,typeInfo,H,Builtin.lenOf,Builtin.firstCells]
  ·rw[A]
   simp[Builtin.append_,run_underlying E,sizeOf,typeInfo,H,Builtin.lenOf,Builtin.firstCells,loadCells,O,storeCells]
 refine wpList_plain D fun K J=>?_
 unfold Oper.wp execOp
 simp only[L,resolve,invoke,builtin,Sem.run_bind,Sem.run_pure,Result.andThen_ok,List.map_toArray,List.map_cons,List.map_nil,N,I,V]
 exact J _ _ h
theorem zhg (l:List Ep): ∀u∈l.flatMap epL,u.oneCell'=true:=by
 intro u h
 rw[List.mem_flatMap] at h
 obtain⟨x,_,q⟩:=h
 simp[epL] at q
 rcases q with rfl|rfl|rfl|rfl<;>rfl
theorem Mem.whole {C:Cx} {gt O w b B:Nat} {S:Sv} {q:PS} {W K J:World} {H:Rw} (D:Mem C gt O w S q W) (Z:W.grownBy K S.ep.blk) (U:OwnR K w 82 4 H (q.ep.length+q.la.length) (q.ep.flatMap epL++q.la.flatMap epL)) (M:H.blk=S.ep.blk∨H.blk=some W.heap.size) (hB:B<w) (hb:b<W.heap.size) (A: ¬S.has b)
  (V: ∀k,k≠B→k≠b→J.heap[k]? =K.heap[k]?):OwnMod J B {S with ep:=H} q:=by
 have E:(q.ep++q.la).length=q.ep.length+q.la.length:=by simp
 have I: ∀(r:Rw) (e:TypeId) (z n:Nat) (L:List Value),OwnR W w e z r n L→e≠82→(∀k,r.blk=some k→S.has k)→OwnR J B e z r n L:=fun r e z n L h Y hs=>
  ((h.keep fun k g=>(V k (by have:=(h.typed g).1;omega) (fun N=>A (by rw[←N];exact hs k g))).trans (Z.block k (h.typed g).2.1 fun X=>(h.ne D.own.ep Y g) X.symm)).low (by omega))
 refine⟨I _ _ _ _ _ D.own.rq (by decide) fun k g=>.inl g,I _ _ _ _ _ D.own.im (by decide) fun k g=>.inr (.inl g),?_,I _ _ _ _ _ D.own.st (by decide) fun k g=>.inr (.inr (.inr (.inl g))),I _ _ _ _ _ D.own.ex (by decide) fun k g=>.inr (.inr (.inr (.inr (.inl g)))),D.inv.rq,D.inv.im,D.inv.ep,D.inv.st,D.inv.ex⟩
 rw[E,List.flatMap_append]
 refine (U.keep fun k g=>V k (by have:=(U.typed g).1;omega) ?_).low (by omega)
 rcases M with e|e
 ·intro N
  exact A (by rw[←N];exact .inr (.inr (.inl (by rw[←e];exact g))))
 ·have:W.heap.size=k:=Option.some.inj (e.symm.trans g)
  omega
theorem Mem.whole0 {C:Cx} {M J w b B:Nat} {S:Sv} {q:PS} {W H:World} (A:Mem C M J w S q W) (L:q.la=[]) (hB:B<w) (D: ¬S.has b)
  (K: ∀k,k≠B→k≠b→H.heap[k]? =W.heap[k]?):OwnMod H B S q:=by
 have E: ∀(r:Rw) (e:TypeId) (z n:Nat) (I:List Value),OwnR W w e z r n I→(∀k,r.blk=some k→S.has k)→OwnR H B e z r n I:=fun r e z n I h N=>
  ((h.keep fun k g=>K k (by have:=(h.typed g).1;omega) (fun O=>D (by rw[←O];exact N k g))).low (by omega))
 refine⟨E _ _ _ _ _ A.own.rq fun k g=>.inl g,E _ _ _ _ _ A.own.im fun k g=>.inr (.inl g),?_,E _ _ _ _ _ A.own.st fun k g=>.inr (.inr (.inr (.inl g))),E _ _ _ _ _ A.own.ex fun k g=>.inr (.inr (.inr (.inr (.inl g)))),A.inv.rq,A.inv.im,A.inv.ep,A.inv.st,A.inv.ex⟩
 rw[L,List.append_nil]
 exact E _ _ _ _ _ A.own.ep fun k g=>.inr (.inr (.inl g))
theorem zk {w:World} {b:Nat} {t:TypeId} {q D z A E:Value} (h:w.heap[b]? =some (.cells #[q,D,z,A,E] t (0,0))):
  w.cell? ⟨b,0,none⟩=some q∧w.cell? ⟨b,1,none⟩=some D∧w.cell? ⟨b,2,none⟩=some z∧w.cell? ⟨b,3,none⟩=some A∧w.cell? ⟨b,4,none⟩=some E∧∀i,w.frozen? ⟨b,i,none⟩=false:=by
 refine⟨?_,?_,?_,?_,?_,fun i=>?_⟩<;>simp[World.cell?,World.frozen?,h]
theorem zag {w:World} {b i:Nat} {q:Array Value} {u:Value} {t:TypeId} (h:w.heap[b]? =some (.cells q t (0,0))):(w.setCell ⟨b,i,none⟩ u).heap[b]? =some (.cells (q.setIfInBounds i u) t (0,0)):=by
 simp only[World.setCell,Array.getElem?_modify]
 rw[if_pos trivial,h]
 rfl
theorem zd9 {w:World} {b:Nat} {H K I J L q E z A D:Value} {t:TypeId} (h:w.heap[b]? =some (.cells #[H,K,I,J,L] t (0,0))):
  (((((w.setCell ⟨b,0,none⟩ q).setCell ⟨b,1,none⟩ E).setCell ⟨b,2,none⟩ z).setCell ⟨b,3,none⟩ A).setCell ⟨b,4,none⟩ D).heap[b]? =some (.cells #[q,E,z,A,D] t (0,0)):=by
 have e:=zag (i:=4) (u:=D) (zag (i:=3) (u:=A) (zag (i:=2) (u:=z) (zag (i:=1) (u:=E) (zag (i:=0) (u:=q) h))))
 rw[e]
 simp
theorem zdU {B:Nat} {a w:World} {b:Nat} (h:Below B a w) (q:B≤b) (D H z E A:Value):Below B a (((((w.setCell ⟨b,0,none⟩ D).setCell ⟨b,1,none⟩ H).setCell ⟨b,2,none⟩ z).setCell ⟨b,3,none⟩ E).setCell ⟨b,4,none⟩ A):=
 ((((h.setCell q _).setCell q _).setCell q _).setCell q _).setCell q _
end Go.Proofs.YtcidlffeeninbaaGreat
