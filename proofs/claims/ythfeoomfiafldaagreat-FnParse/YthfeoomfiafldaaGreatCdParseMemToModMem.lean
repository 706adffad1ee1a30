/-
  A program under way in memory: its six rows,what a step leaves as it was. No program is spoken of but for the numbers of its types.
  One of the six rows of a program under way grows by one element: what holds behind it. No program is spoken of but for the numbers of its types.
  Items of programs,as plain functions. No program is spoken of.
  A whole program,as a plain function of its tokens: items one behind the other. No program is spoken of.
  A text has at most 4000 tokens. No program is spoken of.
  A program in memory,as Parse hands it back. No program is spoken of but for the numbers of its types.
-/
import Derived.Maps.AppendAt
import Derived.Test.YthfeoomfiafldaaGreatCdDrawProgCToTokMem
namespace Go.Proofs.YthfeoomfiafldaaGreat
open Go.RowKit Go.PlainAid
def imL (x:Im):List Value:=[.string x.spec,.string x.first,.string x.loc]
def epL (x:Ep):List Value:=[.int .i64 x.kind,.string x.name,.string x.loc,.string x.spec]
def smL (x:Sm):List Value:=[.int .i64 x.kind,.string x.name,.int .i64 x.expr]
def exL (x:Ex):List Value:=[.int .i64 x.kind,.int .i64 x.num,.string x.name,.string x.field,.int .i64 x.l,.int .i64 x.r]
structure Rw where
 a:Option Addr
 cap:Nat
structure Sv where
 rq:Rw
 im:Rw
 ep:Rw
 st:Rw
 ex:Rw
 la:Rw
def Rw.blk (r:Rw):Option Nat:=(Value.slice r.a 0 r.cap).ownBlock
def Sv.has (S:Sv) (k:Nat):Prop:=S.rq.blk=some k∨S.im.blk=some k∨S.ep.blk=some k∨S.st.blk=some k∨S.ex.blk=some k∨S.la.blk=some k
def OwnR (w:World) (base:Nat) (e:TypeId) (size:Nat) (r:Rw) (n:Nat) (xs:List Value):Prop:=w.ownsRow base e size (.slice r.a n r.cap) n xs
theorem zb9 (r:Rw) (n:Nat):(Value.slice r.a n r.cap).ownBlock=r.blk:=by
 unfold Rw.blk Value.ownBlock
 cases r.a<;>rfl
structure Own (w:World) (base:Nat) (S:Sv) (q:PS):Prop where
 rq:OwnR w base 9 1 S.rq q.rq.length (q.rq.map .string)
 im:OwnR w base 75 3 S.im q.im.length (q.im.flatMap imL)
 ep:OwnR w base 77 4 S.ep q.ep.length (q.ep.flatMap epL)
 st:OwnR w base 79 3 S.st q.st.length (q.st.flatMap smL)
 ex:OwnR w base 81 6 S.ex q.ex.length (q.ex.flatMap exL)
 la:OwnR w base 77 4 S.la q.la.length (q.la.flatMap epL)
 apart: ∀k,S.ep.blk=some k→S.la.blk≠some k
theorem OwnR.typed {w:World} {j size n:Nat} {e:TypeId} {r:Rw} {xs:List Value} (h:OwnR w j e size r n xs) {k:Nat} (z:r.blk=some k):j≤k∧k<w.heap.size∧∃o,w.heap[k]? =some (.cells o e (0,0)):=by
 rcases h.2 with ⟨D,_⟩|⟨g,I,o,D,H,E,_⟩
 ·rw[←zb9 r n,D] at z
  simp[Value.ownBlock] at z
 ·rw[←zb9 r n,D] at z
  simp only[Value.ownBlock,Option.some.injEq] at z
  subst z
  exact⟨H,(Array.getElem?_eq_some_iff.1 E).1,o,E⟩
theorem OwnR.ne {w:World} {Q b2 V H O M:Nat} {D o:TypeId} {E z:Rw} {N X:List Value} (J:OwnR w Q D V E O N) (I:OwnR w b2 o H z M X) (U:D≠o) {k:Nat} (L:E.blk=some k):z.blk≠some k:=by
 intro h
 obtain⟨_,_,Z,K⟩:=J.typed L
 obtain⟨_,_,Y,j⟩:=I.typed h
 rw[K] at j
 simp only[Option.some.injEq,Obj.cells.injEq] at j
 exact U j.2.1
theorem OwnR.keep {w E:World} {j size n:Nat} {e:TypeId} {r:Rw} {xs:List Value} (h:OwnR w j e size r n xs) (H: ∀k,r.blk=some k→E.heap[k]? =w.heap[k]?):OwnR E j e size r n xs:=by
 refine⟨h.1,?_⟩
 rcases h.2 with o|⟨g,D,z,o,J,I,rest⟩
 ·exact .inl o
 ·refine .inr ⟨g,D,z,o,J,?_,rest⟩
  rw[H g (by rw[←zb9 r n,o];rfl)]
  exact I
theorem Own.keep {w z:World} {j:Nat} {S:Sv} {q:PS} (h:Own w j S q) (o: ∀k,S.has k→z.heap[k]? =w.heap[k]?):Own z j S q:=
 ⟨h.rq.keep fun k e=>o k (.inl e),h.im.keep fun k e=>o k (.inr (.inl e)),h.ep.keep fun k e=>o k (.inr (.inr (.inl e))),h.st.keep fun k e=>o k (.inr (.inr (.inr (.inl e)))),
  h.ex.keep fun k e=>o k (.inr (.inr (.inr (.inr (.inl e))))),h.la.keep fun k e=>o k (.inr (.inr (.inr (.inr (.inr e))))),h.apart⟩
theorem Own.has {w:World} {j:Nat} {S:Sv} {q:PS} (h:Own w j S q) {k:Nat} (o:S.has k):j≤k∧k<w.heap.size:=by
 rcases o with e|e|e|e|e|e
 ·exact⟨(h.rq.typed e).1,(h.rq.typed e).2.1⟩
 ·exact⟨(h.im.typed e).1,(h.im.typed e).2.1⟩
 ·exact⟨(h.ep.typed e).1,(h.ep.typed e).2.1⟩
 ·exact⟨(h.st.typed e).1,(h.st.typed e).2.1⟩
 ·exact⟨(h.ex.typed e).1,(h.ex.typed e).2.1⟩
 ·exact⟨(h.la.typed e).1,(h.la.typed e).2.1⟩
theorem Own.later {w o:World} {j:Nat} {S:Sv} {q:PS} (h:Own w j S q) (z:Below w.heap.size w o):Own o j S q:=h.keep fun k e=>z.block k (h.has e).2
theorem Own.other {w:World} {D:Nat} {S:Sv} {q:PS} (h:Own w D S q) {k:Nat} {E:Array Value} {e:TypeId} {z:Nat×Nat} (o:w.heap[k]? =some (.cells E e z)) (K:e≠9) (J:e≠75) (H:e≠77) (L:e≠79) (I:e≠81): ¬S.has k:=by
 rintro (g|g|g|g|g|g)
 ·obtain⟨_,_,c,j⟩:=h.rq.typed g
  rw[o] at j
  simp only[Option.some.injEq,Obj.cells.injEq] at j
  exact K j.2.1
 ·obtain⟨_,_,c,j⟩:=h.im.typed g
  rw[o] at j
  simp only[Option.some.injEq,Obj.cells.injEq] at j
  exact J j.2.1
 ·obtain⟨_,_,c,j⟩:=h.ep.typed g
  rw[o] at j
  simp only[Option.some.injEq,Obj.cells.injEq] at j
  exact H j.2.1
 ·obtain⟨_,_,c,j⟩:=h.st.typed g
  rw[o] at j
  simp only[Option.some.injEq,Obj.cells.injEq] at j
  exact L j.2.1
 ·obtain⟨_,_,c,j⟩:=h.ex.typed g
  rw[o] at j
  simp only[Option.some.injEq,Obj.cells.injEq] at j
  exact I j.2.1
 ·obtain⟨_,_,c,j⟩:=h.la.typed g
  rw[o] at j
  simp only[Option.some.injEq,Obj.cells.injEq] at j
  exact H j.2.1
structure Stp (S:Sv) (w:World) (S':Sv) (w':World):Prop where
 os:w'.os=w.os
 tape:w'.tape=w.tape
 output:w'.output=w.output
 size:w.heap.size≤w'.heap.size
 block: ∀k,k<w.heap.size→¬S.has k→w'.heap[k]? =w.heap[k]?
 sub: ∀k,S'.has k→S.has k∨w.heap.size≤k
theorem Stp.refl (S:Sv) (w:World):Stp S w S w:=⟨rfl,rfl,rfl,Nat.le_refl _,fun _ _ _=>rfl,fun _ h=>.inl h⟩
theorem Stp.trans {S o E:Sv} {w D H:World} (h:Stp S w o D) (k:Stp o D E H):Stp S w E H:=
 ⟨k.os.trans h.os,k.tape.trans h.tape,k.output.trans h.output,Nat.le_trans h.size k.size,
  fun i j z=>(k.block i (Nat.lt_of_lt_of_le j h.size) fun g=>(h.sub i g).elim z fun I=>by omega).trans (h.block i j z),
  fun i j=>(k.sub i j).elim (h.sub i) fun g=>.inr (Nat.le_trans h.size g)⟩
theorem Stp.below {S:Sv} {w j:World} (h:Below w.heap.size w j):Stp S w S j:=⟨h.os,h.tape,h.output,h.size,fun k o _=>h.block k o,fun _ g=>.inl g⟩
theorem Stp.under {S D:Sv} {w o:World} {j:Nat} {q:PS} (h:Stp S w D o) (H:j≤w.heap.size) (z:Own w j S q):Below j w o:=
 ⟨h.os,h.tape,h.output,h.size,fun k E=>h.block k (by omega) fun g=>by have:=(z.has g).1;omega⟩
theorem Stp.grown {S o:Sv} {w z:World} {row:Option Nat} (j:w.grownBy z row) (E: ∀k,row=some k→S.has k) (I: ∀k,o.has k→S.has k∨w.heap.size≤k):Stp S w o z:=
 ⟨j.os,j.tape,j.output,j.size,fun k H D=>j.block k H fun e=>D (E k e.symm),I⟩
structure Inv (C:Cx) (q:PS):Prop where
 pos:q.pos≤C.ts.length
 rq:q.rq.length≤40
 im:q.im.length≤40
 ep:q.ep.length+q.la.length≤40
 st:q.st.length≤80
 ex:q.ex.length≤300
structure Mem (C:Cx) (gt cap base:Nat) (S:Sv) (q:PS) (w:World):Prop where
 own:Own w base S q
 inv:Inv C q
 tok:OwnT w base 40 gt C.ts.length cap C.ts
 few:C.ts.length≤4000
 base:base≤w.heap.size
theorem Mem.later {C:Cx} {E o j:Nat} {S:Sv} {q:PS} {w D:World} (h:Mem C E o j S q w) (z:Below w.heap.size w D):Mem C E o j S q D:=
 ⟨h.own.later z,h.inv,zcn h.tok z,h.few,Nat.le_trans h.base z.size⟩
theorem Mem.alloc {C:Cx} {D z j:Nat} {S:Sv} {q:PS} {w:World} (h:Mem C D z j S q w) (o:Obj):Mem C D z j S q (w.alloc o):=h.later ((Below.refl _ _).alloc (Nat.le_refl _) _)
theorem Own.to {w:World} {j:Nat} {S:Sv} {q q':PS} (h:Own w j S q) (E:q'.rq=q.rq) (H:q'.im=q.im) (z:q'.ep=q.ep) (I:q'.st=q.st) (o:q'.ex=q.ex) (D:q'.la=q.la):Own w j S q':=
 ⟨by rw[E];exact h.rq,by rw[H];exact h.im,by rw[z];exact h.ep,by rw[I];exact h.st,by rw[o];exact h.ex,by rw[D];exact h.la,h.apart⟩
theorem Mem.adv {C:Cx} {z o j:Nat} {S:Sv} {q:PS} {w:World} (h:Mem C z o j S q w) (D:q.pos<C.ts.length):Mem C z o j S (adv q) w:=
 ⟨h.own.to rfl rfl rfl rfl rfl rfl,⟨D,h.inv.rq,h.inv.im,h.inv.ep,h.inv.st,h.inv.ex⟩,h.tok,h.few,h.base⟩
theorem OwnR.alloc {w:World} {j size n:Nat} {e:TypeId} {r:Rw} {xs:List Value} (h:OwnR w j e size r n xs) (o:Obj):OwnR (w.alloc o) j e size r n xs:=
 h.keep fun k z=>Below.heap_alloc w o k (h.typed z).2.1
theorem zgy {w:World} {o g n D:Nat} {e:TypeId} {H:List Tk} (h:OwnT w o e g n D H): ∃j,w.heap[g]? =some (.cells j e (0,0)):=by
 rcases h.1.2 with ⟨z,_⟩|⟨K,E,j,z,L,I,J,_⟩
 ·simp at z
 ·simp only[Value.slice.injEq,Option.some.injEq,Addr.mk.injEq,and_true,true_and] at z
  obtain⟨rfl,rfl⟩:=z
  exact⟨j,I⟩
theorem zbJ {w I:World} {j g n o:Nat} {e:TypeId} {E:List Tk} (h:OwnT w j e g n o E) (L:I.heap[g]? =w.heap[g]?):OwnT I j e g n o E:=by
 refine⟨⟨h.1.1,?_⟩,h.2⟩
 rcases h.1.2 with k|⟨N,J,D,H,z,M,K⟩
 ·exact .inl k
 ·simp only[Value.slice.injEq,Option.some.injEq,Addr.mk.injEq,and_true,true_and] at H
  obtain⟨rfl,rfl⟩:=H
  exact .inr ⟨g,o,D,rfl,z,L.trans M,K⟩
theorem Mem.gt_free {C:Cx} {z o j:Nat} {S:Sv} {q:PS} {w:World} (h:Mem C z o j S q w): ¬S.has z:=by
 obtain⟨E,D⟩:=zgy h.tok
 exact h.own.other D (by decide) (by decide) (by decide) (by decide) (by decide)
structure Off (lo hi:Nat) (w w':World):Prop where
 os:w'.os=w.os
 tape:w'.tape=w.tape
 output:w'.output=w.output
 size:w.heap.size≤w'.heap.size
 block: ∀k,k<lo∨hi≤k∧k<w.heap.size→w'.heap[k]? =w.heap[k]?
theorem Off.refl (o j:Nat) (w:World):Off o j w w:=⟨rfl,rfl,rfl,Nat.le_refl _,fun _ _=>rfl⟩
theorem Off.set {o z:Nat} {w j:World} (h:Off o z w j) {b:Nat} (H:o≤b) (E:b<z) (i:Nat) (u:Value):Off o z w (j.setCell ⟨b,i,none⟩ u):=
 ⟨h.os,h.tape,h.output,by show _≤(j.heap.modify _ _).size;simp;exact h.size,fun k D=>(Below.heap_setCell j ⟨b,i,none⟩ u k (by show k≠b;omega)).trans (h.block k D)⟩
theorem Off.below {z E:Nat} {w o D:World} (h:Off z E w o) (j:Below o.heap.size o D) (I:z≤w.heap.size):Off z E w D:=
 ⟨j.os.trans h.os,j.tape.trans h.tape,j.output.trans h.output,Nat.le_trans h.size j.size,fun k H=>(j.block k (by have:=h.size;omega)).trans (h.block k H)⟩
theorem Off.set12 {D H:Nat} {a w:World} (h:Off D H a w) {b:Nat} (o:D≤b) (j:b<H) (Q L K U J N I V M O z E:Value):
  Off D H a ((((((((((((w.setCell ⟨b,0,none⟩ Q).setCell ⟨b,1,none⟩ L).setCell ⟨b,2,none⟩ K).setCell ⟨b,3,none⟩ U).setCell ⟨b,4,none⟩ J).setCell ⟨b,5,none⟩ N).setCell ⟨b,6,none⟩ I).setCell ⟨b,7,none⟩ V).setCell ⟨b,8,none⟩ M).setCell ⟨b,9,none⟩ O).setCell ⟨b,10,none⟩ z).setCell ⟨b,11,none⟩ E):=
 (((((((((((h.set o j _ _).set o j _ _).set o j _ _).set o j _ _).set o j _ _).set o j _ _).set o j _ _).set o j _ _).set o j _ _).set o j _ _).set o j _ _).set o j _ _
theorem zcC {P:Program} (W:World) {N:Array Oper} {rest:List Oper} {o:Oper} {a:Act} {Q:Exit→Act→World→Prop} (Y:o.guard=none) (s x:Operand) (t:TypeId)
  (ho:o.op= .call {callee:=.builtin .append,args:=#[s,x],argTypes:=#[t,t]})
  (H:Nat) (e:TypeId) (i:TypeInfo) (z:Value) (size D:Nat) (ht:P.underlying t=some (.slice e)) (hi:P.info? e=some i) (hz:i.zero=some z) (J:i.size=size) (Z:i.bytes=D) (X:z.cells.size=size) (ab:0<size) (O:D≤100)
  (r:Rw) (n:Nat) (xs:List Value) (hs:a.eval s= .slice r.a n r.cap) (L:OwnR W H e size r n xs)
  (U:Nat) (E:List Value) (hx:a.eval x= .slice (some ⟨U,0,none⟩) 1 1) (hg:W.heap[U]? =some (.cells E.toArray e (0,0))) (hl:E.length=size) (h1: ∀u∈E,u.oneCell'=true) (hn:n+1≤1000000) (K:H≤W.heap.size)
  (h: ∀M V,OwnR V H e size M (n+1) (xs++E)→W.grownBy V r.blk→(M.blk=r.blk∨M.blk=some W.heap.size)→wpList P N Q rest (a.put o.dst (.slice M.a (n+1) M.cap)) V):
  wpList P N Q (o::rest) a W:=by
 refine wpList_append_own_at _ Y s x t ho H e i z size D ht hi hz J Z X ab _ n _ hs L ⟨U,0,none⟩ 1 1 E hx (by omega) ?_ h1 ?_ ?_ K ?_
 ·intro j u hj
  have:(⟨U,0,none⟩:Addr).add j=⟨U,j,none⟩:=by simp[Addr.add];exact fun h=>h.symm
  rw[this]
  simp[World.cell?,hg,hj]
 ·unfold maxLen;omega
 ·have:(n+1)*D≤1000000*100:=Nat.mul_le_mul hn O
  omega
 ·intro v' V k1 k2 k3 k4
  rcases k1.2 with ⟨hv,ac⟩|⟨g',I,ad,rfl,aa⟩
  ·omega
  ·refine h ⟨some ⟨g',0,none⟩,I⟩ V k1 ?_ ?_
   ·rw[←zb9 r n];exact k2
   ·rw[←zb9 r n,←zb9 ⟨some ⟨g',0,none⟩,I⟩ (n+1)];exact k4
theorem Mem.grow_rq {C:Cx} {U N E:Nat} {S:Sv} {q:PS} {w W V I:World} (j:Mem C U N E S q w) (L:Below w.heap.size w W) (K:W.grownBy V S.rq.blk) {H:Rw} {x:ByteArray} (hr:OwnR V E 9 1 H (q.rq.length+1) (q.rq.map .string++[.string x])) (M:H.blk=S.rq.blk∨H.blk=some W.heap.size) (D:Off w.heap.size W.heap.size V I) (Z:q.rq.length<40):
  Mem C U N E {S with rq:=H} {q with rq:=q.rq++[x]} I∧Stp S w {S with rq:=H} I:=by
 have X:=L.size
 have J:=K.size
 have o: ∀k,k<w.heap.size→S.rq.blk≠some k→I.heap[k]? =w.heap[k]?:=fun k z Y=>
  (D.block k (.inl z)).trans ((K.block k (by omega) fun e=>Y e.symm).trans (L.block k z))
 have Q:OwnR I E 9 1 H (q.rq.length+1) (q.rq.map .string++[.string x]):=hr.keep fun k z=>D.block k (by
  rcases M with e|e
  ·rw[e] at z
   exact .inl (j.own.rq.typed z).2.1
  ·rw[e] at z
   obtain rfl:=Option.some.inj z
   exact .inr ⟨Nat.le_refl _,(hr.typed e).2.1⟩)
 have O:(q.rq++[x]).length=q.rq.length+1:=by simp
 refine⟨⟨⟨by show OwnR I E 9 1 H (q.rq++[x]).length _;rw[O];simpa using Q,j.own.im.keep fun k z=>o k (j.own.im.typed z).2.1 (j.own.im.ne j.own.rq (by decide) z),j.own.ep.keep fun k z=>o k (j.own.ep.typed z).2.1 (j.own.ep.ne j.own.rq (by decide) z),j.own.st.keep fun k z=>o k (j.own.st.typed z).2.1 (j.own.st.ne j.own.rq (by decide) z),j.own.ex.keep fun k z=>o k (j.own.ex.typed z).2.1 (j.own.ex.ne j.own.rq (by decide) z),j.own.la.keep fun k z=>o k (j.own.la.typed z).2.1 (j.own.la.ne j.own.rq (by decide) z),j.own.apart⟩,⟨j.inv.pos,by simp;omega,j.inv.im,j.inv.ep,j.inv.st,j.inv.ex⟩,zbJ j.tok (o U (zan j.tok).1 fun e=>j.gt_free (.inl e)),j.few,Nat.le_trans j.base (by have:=D.size;omega)⟩,?_⟩
 refine⟨D.os.trans (K.os.trans L.os),D.tape.trans (K.tape.trans L.tape),D.output.trans (K.output.trans L.output),Nat.le_trans (Nat.le_trans X J) D.size,fun k z Z=>o k z fun e=>Z (.inl e),fun k z=>?_⟩
 rcases z with h|h|h|h|h|h
 ·exact M.elim (fun e=>.inl (.inl (e.symm.trans h))) fun e=>.inr (by have:W.heap.size=k:=Option.some.inj (e.symm.trans h);omega)
 ·exact .inl (.inr (.inl h))
 ·exact .inl (.inr (.inr (.inl h)))
 ·exact .inl (.inr (.inr (.inr (.inl h))))
 ·exact .inl (.inr (.inr (.inr (.inr (.inl h)))))
 ·exact .inl (.inr (.inr (.inr (.inr (.inr h)))))
theorem Mem.grow_im {C:Cx} {U N E:Nat} {S:Sv} {q:PS} {w W V I:World} (j:Mem C U N E S q w) (L:Below w.heap.size w W) (K:W.grownBy V S.im.blk) {H:Rw} {x:Im} (hr:OwnR V E 75 3 H (q.im.length+1) (q.im.flatMap imL++imL x)) (M:H.blk=S.im.blk∨H.blk=some W.heap.size) (D:Off w.heap.size W.heap.size V I) (Z:q.im.length<40):
  Mem C U N E {S with im:=H} {q with im:=q.im++[x]} I∧Stp S w {S with im:=H} I:=by
 have X:=L.size
 have J:=K.size
 have o: ∀k,k<w.heap.size→S.im.blk≠some k→I.heap[k]? =w.heap[k]?:=fun k z Y=>
  (D.block k (.inl z)).trans ((K.block k (by omega) fun e=>Y e.symm).trans (L.block k z))
 have Q:OwnR I E 75 3 H (q.im.length+1) (q.im.flatMap imL++imL x):=hr.keep fun k z=>D.block k (by
  rcases M with e|e
  ·rw[e] at z
   exact .inl (j.own.im.typed z).2.1
  ·rw[e] at z
   obtain rfl:=Option.some.inj z
   exact .inr ⟨Nat.le_refl _,(hr.typed e).2.1⟩)
 have O:(q.im++[x]).length=q.im.length+1:=by simp
 refine⟨⟨⟨j.own.rq.keep fun k z=>o k (j.own.rq.typed z).2.1 (j.own.rq.ne j.own.im (by decide) z),by show OwnR I E 75 3 H (q.im++[x]).length _;rw[O];simpa using Q,j.own.ep.keep fun k z=>o k (j.own.ep.typed z).2.1 (j.own.ep.ne j.own.im (by decide) z),j.own.st.keep fun k z=>o k (j.own.st.typed z).2.1 (j.own.st.ne j.own.im (by decide) z),j.own.ex.keep fun k z=>o k (j.own.ex.typed z).2.1 (j.own.ex.ne j.own.im (by decide) z),j.own.la.keep fun k z=>o k (j.own.la.typed z).2.1 (j.own.la.ne j.own.im (by decide) z),j.own.apart⟩,⟨j.inv.pos,j.inv.rq,by simp;omega,j.inv.ep,j.inv.st,j.inv.ex⟩,zbJ j.tok (o U (zan j.tok).1 fun e=>j.gt_free (.inr (.inl e))),j.few,Nat.le_trans j.base (by have:=D.size;omega)⟩,?_⟩
 refine⟨D.os.trans (K.os.trans L.os),D.tape.trans (K.tape.trans L.tape),D.output.trans (K.output.trans L.output),Nat.le_trans (Nat.le_trans X J) D.size,fun k z Z=>o k z fun e=>Z (.inr (.inl e)),fun k z=>?_⟩
 rcases z with h|h|h|h|h|h
 ·exact .inl (.inl h)
 ·exact M.elim (fun e=>.inl (.inr (.inl (e.symm.trans h)))) fun e=>.inr (by have:W.heap.size=k:=Option.some.inj (e.symm.trans h);omega)
 ·exact .inl (.inr (.inr (.inl h)))
 ·exact .inl (.inr (.inr (.inr (.inl h))))
 ·exact .inl (.inr (.inr (.inr (.inr (.inl h)))))
 ·exact .inl (.inr (.inr (.inr (.inr (.inr h)))))
theorem Mem.grow_ep {C:Cx} {U N E:Nat} {S:Sv} {q:PS} {w W V J:World} (j:Mem C U N E S q w) (M:Below w.heap.size w W) (L:W.grownBy V S.ep.blk) {H:Rw} {x:Ep} (hr:OwnR V E 77 4 H (q.ep.length+1) (q.ep.flatMap epL++epL x)) (I:H.blk=S.ep.blk∨H.blk=some W.heap.size) (D:Off w.heap.size W.heap.size V J) (hn:q.ep.length+q.la.length<40):
  Mem C U N E {S with ep:=H} {q with ep:=q.ep++[x]} J∧Stp S w {S with ep:=H} J:=by
 have X:=M.size
 have K:=L.size
 have o: ∀k,k<w.heap.size→S.ep.blk≠some k→J.heap[k]? =w.heap[k]?:=fun k z Y=>
  (D.block k (.inl z)).trans ((L.block k (by omega) fun e=>Y e.symm).trans (M.block k z))
 have Q:OwnR J E 77 4 H (q.ep.length+1) (q.ep.flatMap epL++epL x):=hr.keep fun k z=>D.block k (by
  rcases I with e|e
  ·rw[e] at z
   exact .inl (j.own.ep.typed z).2.1
  ·rw[e] at z
   obtain rfl:=Option.some.inj z
   exact .inr ⟨Nat.le_refl _,(hr.typed e).2.1⟩)
 have O:(q.ep++[x]).length=q.ep.length+1:=by simp
 refine⟨⟨⟨j.own.rq.keep fun k z=>o k (j.own.rq.typed z).2.1 (j.own.rq.ne j.own.ep (by decide) z),j.own.im.keep fun k z=>o k (j.own.im.typed z).2.1 (j.own.im.ne j.own.ep (by decide) z),by show OwnR J E 77 4 H (q.ep++[x]).length _;rw[O];simpa using Q,j.own.st.keep fun k z=>o k (j.own.st.typed z).2.1 (j.own.st.ne j.own.ep (by decide) z),j.own.ex.keep fun k z=>o k (j.own.ex.typed z).2.1 (j.own.ex.ne j.own.ep (by decide) z),j.own.la.keep fun k z=>o k (j.own.la.typed z).2.1 (fun e=>j.own.apart k e z),fun k z Z=>I.elim (fun e=>j.own.apart k (by rw[←e];exact z) Z) fun e=>by have h1:=(j.own.la.typed Z).2.1;have h2:W.heap.size=k:=Option.some.inj (e.symm.trans z);omega⟩,⟨j.inv.pos,j.inv.rq,j.inv.im,by have:=j.inv.ep;simp;omega,j.inv.st,j.inv.ex⟩,zbJ j.tok (o U (zan j.tok).1 fun e=>j.gt_free (.inr (.inr (.inl e)))),j.few,Nat.le_trans j.base (by have:=D.size;omega)⟩,?_⟩
 refine⟨D.os.trans (L.os.trans M.os),D.tape.trans (L.tape.trans M.tape),D.output.trans (L.output.trans M.output),Nat.le_trans (Nat.le_trans X K) D.size,fun k z hn=>o k z fun e=>hn (.inr (.inr (.inl e))),fun k z=>?_⟩
 rcases z with h|h|h|h|h|h
 ·exact .inl (.inl h)
 ·exact .inl (.inr (.inl h))
 ·exact I.elim (fun e=>.inl (.inr (.inr (.inl (e.symm.trans h))))) fun e=>.inr (by have:W.heap.size=k:=Option.some.inj (e.symm.trans h);omega)
 ·exact .inl (.inr (.inr (.inr (.inl h))))
 ·exact .inl (.inr (.inr (.inr (.inr (.inl h)))))
 ·exact .inl (.inr (.inr (.inr (.inr (.inr h)))))
theorem Mem.grow_st {C:Cx} {U N E:Nat} {S:Sv} {q:PS} {w W V I:World} (j:Mem C U N E S q w) (L:Below w.heap.size w W) (K:W.grownBy V S.st.blk) {H:Rw} {x:Sm} (hr:OwnR V E 79 3 H (q.st.length+1) (q.st.flatMap smL++smL x)) (M:H.blk=S.st.blk∨H.blk=some W.heap.size) (D:Off w.heap.size W.heap.size V I) (Z:q.st.length<80):
  Mem C U N E {S with st:=H} {q with st:=q.st++[x]} I∧Stp S w {S with st:=H} I:=by
 have X:=L.size
 have J:=K.size
 have o: ∀k,k<w.heap.size→S.st.blk≠some k→I.heap[k]? =w.heap[k]?:=fun k z Y=>
  (D.block k (.inl z)).trans ((K.block k (by omega) fun e=>Y e.symm).trans (L.block k z))
 have Q:OwnR I E 79 3 H (q.st.length+1) (q.st.flatMap smL++smL x):=hr.keep fun k z=>D.block k (by
  rcases M with e|e
  ·rw[e] at z
   exact .inl (j.own.st.typed z).2.1
  ·rw[e] at z
   obtain rfl:=Option.some.inj z
   exact .inr ⟨Nat.le_refl _,(hr.typed e).2.1⟩)
 have O:(q.st++[x]).length=q.st.length+1:=by simp
 refine⟨⟨⟨j.own.rq.keep fun k z=>o k (j.own.rq.typed z).2.1 (j.own.rq.ne j.own.st (by decide) z),j.own.im.keep fun k z=>o k (j.own.im.typed z).2.1 (j.own.im.ne j.own.st (by decide) z),j.own.ep.keep fun k z=>o k (j.own.ep.typed z).2.1 (j.own.ep.ne j.own.st (by decide) z),by show OwnR I E 79 3 H (q.st++[x]).length _;rw[O];simpa using Q,j.own.ex.keep fun k z=>o k (j.own.ex.typed z).2.1 (j.own.ex.ne j.own.st (by decide) z),j.own.la.keep fun k z=>o k (j.own.la.typed z).2.1 (j.own.la.ne j.own.st (by decide) z),j.own.apart⟩,⟨j.inv.pos,j.inv.rq,j.inv.im,j.inv.ep,by simp;omega,j.inv.ex⟩,zbJ j.tok (o U (zan j.tok).1 fun e=>j.gt_free (.inr (.inr (.inr (.inl e))))),j.few,Nat.le_trans j.base (by have:=D.size;omega)⟩,?_⟩
 refine⟨D.os.trans (K.os.trans L.os),D.tape.trans (K.tape.trans L.tape),D.output.trans (K.output.trans L.output),Nat.le_trans (Nat.le_trans X J) D.size,fun k z Z=>o k z fun e=>Z (.inr (.inr (.inr (.inl e)))),fun k z=>?_⟩
 rcases z with h|h|h|h|h|h
 ·exact .inl (.inl h)
 ·exact .inl (.inr (.inl h))
 ·exact .inl (.inr (.inr (.inl h)))
 ·exact M.elim (fun e=>.inl (.inr (.inr (.inr (.inl (e.symm.trans h)))))) fun e=>.inr (by have:W.heap.size=k:=Option.some.inj (e.symm.trans h);omega)
 ·exact .inl (.inr (.inr (.inr (.inr (.inl h)))))
 ·exact .inl (.inr (.inr (.inr (.inr (.inr h)))))
theorem Mem.grow_ex {C:Cx} {U N E:Nat} {S:Sv} {q:PS} {w W V I:World} (j:Mem C U N E S q w) (L:Below w.heap.size w W) (K:W.grownBy V S.ex.blk) {H:Rw} {x:Ex} (hr:OwnR V E 81 6 H (q.ex.length+1) (q.ex.flatMap exL++exL x)) (M:H.blk=S.ex.blk∨H.blk=some W.heap.size) (D:Off w.heap.size W.heap.size V I) (Z:q.ex.length<300):
  Mem C U N E {S with ex:=H} {q with ex:=q.ex++[x]} I∧Stp S w {S with ex:=H} I:=by
 have X:=L.size
 have J:=K.size
 have o: ∀k,k<w.heap.size→S.ex.blk≠some k→I.heap[k]? =w.heap[k]?:=fun k z Y=>
  (D.block k (.inl z)).trans ((K.block k (by omega) fun e=>Y e.symm).trans (L.block k z))
 have Q:OwnR I E 81 6 H (q.ex.length+1) (q.ex.flatMap exL++exL x):=hr.keep fun k z=>D.block k (by
  rcases M with e|e
  ·rw[e] at z
   exact .inl (j.own.ex.typed z).2.1
  ·rw[e] at z
   obtain rfl:=Option.some.inj z
   exact .inr ⟨Nat.le_refl _,(hr.typed e).2.1⟩)
 have O:(q.ex++[x]).length=q.ex.length+1:=by simp
 refine⟨⟨⟨j.own.rq.keep fun k z=>o k (j.own.rq.typed z).2.1 (j.own.rq.ne j.own.ex (by decide) z),j.own.im.keep fun k z=>o k (j.own.im.typed z).2.1 (j.own.im.ne j.own.ex (by decide) z),j.own.ep.keep fun k z=>o k (j.own.ep.typed z).2.1 (j.own.ep.ne j.own.ex (by decide) z),j.own.st.keep fun k z=>o k (j.own.st.typed z).2.1 (j.own.st.ne j.own.ex (by decide) z),by show OwnR I E 81 6 H (q.ex++[x]).length _;rw[O];simpa using Q,j.own.la.keep fun k z=>o k (j.own.la.typed z).2.1 (j.own.la.ne j.own.ex (by decide) z),j.own.apart⟩,⟨j.inv.pos,j.inv.rq,j.inv.im,j.inv.ep,j.inv.st,by simp;omega⟩,zbJ j.tok (o U (zan j.tok).1 fun e=>j.gt_free (.inr (.inr (.inr (.inr (.inl e)))))),j.few,Nat.le_trans j.base (by have:=D.size;omega)⟩,?_⟩
 refine⟨D.os.trans (K.os.trans L.os),D.tape.trans (K.tape.trans L.tape),D.output.trans (K.output.trans L.output),Nat.le_trans (Nat.le_trans X J) D.size,fun k z Z=>o k z fun e=>Z (.inr (.inr (.inr (.inr (.inl e))))),fun k z=>?_⟩
 rcases z with h|h|h|h|h|h
 ·exact .inl (.inl h)
 ·exact .inl (.inr (.inl h))
 ·exact .inl (.inr (.inr (.inl h)))
 ·exact .inl (.inr (.inr (.inr (.inl h))))
 ·exact M.elim (fun e=>.inl (.inr (.inr (.inr (.inr (.inl (e.symm.trans h))))))) fun e=>.inr (by have:W.heap.size=k:=Option.some.inj (e.symm.trans h);omega)
 ·exact .inl (.inr (.inr (.inr (.inr (.inr h)))))
theorem Mem.grow_la {C:Cx} {U N E:Nat} {S:Sv} {q:PS} {w W V J:World} (j:Mem C U N E S q w) (M:Below w.heap.size w W) (L:W.grownBy V S.la.blk) {H:Rw} {x:Ep} (hr:OwnR V E 77 4 H (q.la.length+1) (q.la.flatMap epL++epL x)) (I:H.blk=S.la.blk∨H.blk=some W.heap.size) (D:Off w.heap.size W.heap.size V J) (hn:q.ep.length+q.la.length<40):
  Mem C U N E {S with la:=H} {q with la:=q.la++[x]} J∧Stp S w {S with la:=H} J:=by
 have X:=M.size
 have K:=L.size
 have o: ∀k,k<w.heap.size→S.la.blk≠some k→J.heap[k]? =w.heap[k]?:=fun k z Y=>
  (D.block k (.inl z)).trans ((L.block k (by omega) fun e=>Y e.symm).trans (M.block k z))
 have Q:OwnR J E 77 4 H (q.la.length+1) (q.la.flatMap epL++epL x):=hr.keep fun k z=>D.block k (by
  rcases I with e|e
  ·rw[e] at z
   exact .inl (j.own.la.typed z).2.1
  ·rw[e] at z
   obtain rfl:=Option.some.inj z
   exact .inr ⟨Nat.le_refl _,(hr.typed e).2.1⟩)
 have O:(q.la++[x]).length=q.la.length+1:=by simp
 refine⟨⟨⟨j.own.rq.keep fun k z=>o k (j.own.rq.typed z).2.1 (j.own.rq.ne j.own.la (by decide) z),j.own.im.keep fun k z=>o k (j.own.im.typed z).2.1 (j.own.im.ne j.own.la (by decide) z),j.own.ep.keep fun k z=>o k (j.own.ep.typed z).2.1 (fun e=>j.own.apart k z e),j.own.st.keep fun k z=>o k (j.own.st.typed z).2.1 (j.own.st.ne j.own.la (by decide) z),j.own.ex.keep fun k z=>o k (j.own.ex.typed z).2.1 (j.own.ex.ne j.own.la (by decide) z),by show OwnR J E 77 4 H (q.la++[x]).length _;rw[O];simpa using Q,fun k z Z=>I.elim (fun e=>j.own.apart k z (by rw[←e];exact Z)) fun e=>by have h1:=(j.own.ep.typed z).2.1;have h2:W.heap.size=k:=Option.some.inj (e.symm.trans Z);omega⟩,⟨j.inv.pos,j.inv.rq,j.inv.im,by have:=j.inv.ep;simp;omega,j.inv.st,j.inv.ex⟩,zbJ j.tok (o U (zan j.tok).1 fun e=>j.gt_free (.inr (.inr (.inr (.inr (.inr e)))))),j.few,Nat.le_trans j.base (by have:=D.size;omega)⟩,?_⟩
 refine⟨D.os.trans (L.os.trans M.os),D.tape.trans (L.tape.trans M.tape),D.output.trans (L.output.trans M.output),Nat.le_trans (Nat.le_trans X K) D.size,fun k z hn=>o k z fun e=>hn (.inr (.inr (.inr (.inr (.inr e))))),fun k z=>?_⟩
 rcases z with h|h|h|h|h|h
 ·exact .inl (.inl h)
 ·exact .inl (.inr (.inl h))
 ·exact .inl (.inr (.inr (.inl h)))
 ·exact .inl (.inr (.inr (.inr (.inl h))))
 ·exact .inl (.inr (.inr (.inr (.inr (.inl h)))))
 ·exact I.elim (fun e=>.inl (.inr (.inr (.inr (.inr (.inr (e.symm.trans h))))))) fun e=>.inr (by have:W.heap.size=k:=Option.some.inj (e.symm.trans h);omega)
abbrev PRN:=Except Nat (PS×ByteArray)
def za7 (y:PRN):PR:=bd y fun a=>.ok a.1
def withN (y:PRN) (F:PR→ByteArray→PR):PRN:=bd y fun a=>bd (F (.ok a.1) a.2) fun q=>.ok (q,a.2)
def zbA (C:Cx) (q:PS):PRN:=withN (bd (zd C 1 sLet q) (zk C false)) fun x n=>bd (bd (bd (bd x (zd C 4 cEq)) (pE C .sum 0)) (zd C 4 cSemi)) (zE C 1 n)
def fnP (C:Cx) (q:PS):PRN:=
 withN (bd (zd C 1 sFunction q) (zk C false)) fun x n=>bd (bd (bd (bd (bd (bd (bd (bd x (zd C 4 cOpen)) (zd C 4 zU)) (zd C 4 zF)) (zd C 1 zdw)) (pE C .sum 0)) (zd C 4 cSemi)) (zd C 4 zaJ)) (zE C 2 n)
def asP (C:Cx) (exp:Bool) (a:PS×ByteArray):PRN:=
 if isT C a.1.pos 1 sAs then zk C exp (adv a.1)
 else if (a.2.toList==[100,101,102,97,117,108,116])&& !exp then .error (zu C a.1.pos) else .ok a
abbrev PRL:=Except Nat (PS×List Ep)
def zbK (C:Cx) (exp:Bool):Nat→PS→List Ep→PRL
 |0,_,_=>.error 0
 |f+1,q,acc=>bd (zk C true q) fun a=>bd (asP C exp a) fun b=>
  if isT C b.1.pos 4 zbv then zbK C exp f (adv b.1) (acc++[⟨0,b.2,a.2,sNone⟩]) else bd (zd C 4 zaJ b.1) fun q'=>.ok (q',acc++[⟨0,b.2,a.2,sNone⟩])
def zay (C:Cx) (exp:Bool) (q:PS) (acc:List Ep):PRL:=zbK C exp (C.ts.length-q.pos+1) q acc
def zbB (C:Cx) (exp:Bool) (q:PS):PRL:=bd (zd C 4 zF q) fun q'=>zay C exp q' []
def za2 (l:List Ep):Bool:=l.any fun x=>x.loc.toList==[100,101,102,97,117,108,116]
theorem zf6 {C:Cx} {j:Bool} {a b:PS×ByteArray} (h:asP C j a= .ok b):a.1.pos≤b.1.pos:=by
 unfold asP at h
 split at h
 ·obtain⟨rfl,_⟩:=zaX h
  show a.1.pos≤a.1.pos+1+1
  omega
 ·split at h
  ·cases h
  ·cases h
   exact Nat.le_refl _
theorem znR {C:Cx} {j:Bool} (f:Nat): ∀(g:Nat) (q:PS) (acc:List Ep),C.ts.length-q.pos<f→C.ts.length-q.pos<g→zbK C j f q acc=zbK C j g q acc:=by
 induction f with
 |zero=>intro g q acc h;omega
 |succ f o=>
  intro g q acc M L
  obtain⟨g,rfl⟩: ∃D,g=D+1:=⟨g-1,by omega⟩
  rw[zbK,zbK]
  refine zaf fun a z=>zaf fun b I=>?_
  split
  ·next H=>
   obtain⟨rfl,J⟩:=zaX z
   have E:=zf6 I
   have N:=za1 H (by decide)
   have K:=zed J
   simp only[zz] at E
   exact o g _ _ (by rw[zz];omega) (by rw[zz];omega)
  ·rfl
theorem zeM (C:Cx) (j:Bool) (q:PS) (acc:List Ep):zay C j q acc=bd (zk C true q) fun a=>bd (asP C j a) fun b=>
  if isT C b.1.pos 4 zbv then zay C j (adv b.1) (acc++[⟨0,b.2,a.2,sNone⟩]) else bd (zd C 4 zaJ b.1) fun q'=>.ok (q',acc++[⟨0,b.2,a.2,sNone⟩]):=by
 rw[zay,zbK]
 refine zaf fun a o=>zaf fun b E=>?_
 split
 ·next D=>
  obtain⟨rfl,H⟩:=zaX o
  have z:=zf6 E
  have J:=za1 D (by decide)
  have I:=zed H
  simp only[zz] at z
  exact znR _ _ _ _ (by rw[zz];omega) (by rw[zz];omega)
 ·rfl
def zK {α:Type} (f:α→PS→PR):List α→PR→PR
 |[],x=>x
 |a::l,x=>zK f l (bd x (f a))
def zbW (s:ByteArray) (e:Ep):Im:=⟨s,e.loc,e.name⟩
def zav (C:Cx) (x:PR):PRN:=bd (bd x (zd C 1 zH)) (zy C)
def zaD (C:Cx) (y:PRN):PRN:=bd y fun a=>bd (zd C 4 cSemi a.1) fun q=>.ok (q,a.2)
def za3 (C:Cx) (q:PS):PR:=
 bd (zd C 1 sImport q) fun q=>
  if isT C q.pos 4 zF then bd (zbB C false q) fun a=>bd (zaD C (zav C (.ok a.1))) fun b=>zK (fun e=>zX C (zbW b.2 e)) a.2 (.ok b.1)
  else if isT C q.pos 4 zp then bd (bd (bd (zd C 4 zp q) (zd C 1 sAs)) (zk C false)) fun a=>bd (zaD C (zav C (.ok a.1))) fun b=>zX C ⟨b.2,zp,a.2⟩ b.1
  else if plainB C q.pos false then bd (zk C false q) fun a=>bd (zaD C (zav C (.ok a.1))) fun b=>zX C ⟨b.2,sDefault,a.2⟩ b.1
  else bd (zy C q) fun a=>zd C 4 cSemi a.1
def zD (e:Ep):Ep:=⟨1,e.name,e.loc,sNone⟩
def zaj (s:ByteArray) (e:Ep):Ep:=⟨2,e.name,e.loc,s⟩
def zV (C:Cx) (q:PS):PR:=
 bd (zd C 1 sExport q) fun q=>
  if isT C q.pos 4 zF then bd (zbB C true q) fun a=>
   if !za2 a.2&& !isT C a.1.pos 1 zH then bd (zd C 4 cSemi a.1) fun q=>zK (fun e=>zm C (zD e)) a.2 (.ok q)
   else bd (zaD C (zav C (.ok a.1))) fun b=>zK (fun e=>zm C (zaj b.2 e)) a.2 (.ok b.1)
  else if isT C q.pos 4 zp then bd (zaD C (zav C (zd C 4 zp q))) fun b=>zm C ⟨3,sNone,sNone,b.2⟩ b.1
  else if isT C q.pos 1 sDefault then bd (bd (bd (bd (zd C 1 sDefault q) (pE C .sum 0)) (zd C 4 cSemi)) (zE C 1 zbp)) (zm C ⟨1,sDefault,zbp,sNone⟩)
  else if isT C q.pos 1 sLet then bd (zbA C q) fun a=>zm C ⟨1,a.2,a.2,sNone⟩ a.1
  else if isT C q.pos 1 sFunction then bd (fnP C q) fun a=>zm C ⟨1,a.2,a.2,sNone⟩ a.1
  else .error (zu C q.pos)
def zo (C:Cx) (q:PS):PR:=
 if !C.scr&&isT C q.pos 1 sImport then za3 C q
 else if !C.scr&&isT C q.pos 1 sExport then zV C q
 else if isT C q.pos 1 sLet then za7 (zbA C q)
 else if isT C q.pos 1 sFunction then za7 (fnP C q)
 else if isT C q.pos 1 sPrint then bd (bd (bd (bd (bd (zd C 1 sPrint q) (zd C 4 cOpen)) (pE C .sum 0)) (zd C 4 zU)) (zd C 4 cSemi)) (zE C 4 sNone)
 else if isT C q.pos 1 sThrow then bd (bd (bd (zd C 1 sThrow q) (pE C .sum 0)) (zd C 4 cSemi)) (zE C 5 sNone)
 else if C.scr&&isT C q.pos 1 sFail then bd (bd (bd (zd C 1 sFail q) (pE C .sum 0)) (zd C 4 cSemi)) (zE C 6 sNone)
 else bd (zk C false q) fun a=>bd (bd (bd (zd C 4 cEq a.1) (pE C .sum 0)) (zd C 4 cSemi)) (zE C 3 a.2)
theorem za4 {C:Cx} {k:Int} {s:ByteArray} {q q':PS} (h:zd C k s q= .ok q'):q.pos+1=q'.pos:=by
 obtain⟨rfl,_⟩:=zbh h
 rfl
theorem zeN {C:Cx} {o:Bool} {q:PS} {a:PS×ByteArray} (h:zk C o q= .ok a):q.pos+1=a.1.pos:=by
 obtain⟨rfl,_⟩:=zaX h
 rfl
theorem zj6 {C:Cx} {q:PS} {a:PS×ByteArray} (h:zy C q= .ok a):q.pos+1=a.1.pos:=by
 unfold zy at h
 split at h
 ·split at h
  ·cases h;rfl
  ·split at h
   ·cases h
   ·cases h;rfl
 ·cases h
theorem zeO {C:Cx} {k:Int} {n:ByteArray} {q q':PS} (h:zE C k n q= .ok q'):q.pos=q'.pos:=by
 unfold zE at h
 split at h
 ·cases h
 ·cases h;rfl
theorem zhH {C:Cx} {y:Im} {q q':PS} (h:zX C y q= .ok q'):q.pos=q'.pos:=by
 unfold zX at h
 split at h
 ·cases h
 ·cases h;rfl
theorem zeP {C:Cx} {y:Ep} {q q':PS} (h:zm C y q= .ok q'):q.pos=q'.pos:=by
 unfold zm at h
 split at h
 ·cases h
 ·split at h
  ·cases h;rfl
  ·cases h;rfl
theorem zhI {α:Type} {f:α→PS→PR} (z: ∀a q q',f a q= .ok q'→q.pos=q'.pos) (l:List α): ∀(x:PR) (q':PS),zK f l x= .ok q'→∃q,x= .ok q∧q.pos=q'.pos:=by
 induction l with
 |nil=>intro x q' h;exact⟨q',h,rfl⟩
 |cons a l j=>
  intro x q' h
  obtain⟨b,E,D⟩:=j _ _ h
  obtain⟨c,o,H⟩:=ze E
  exact⟨c,o,(z _ _ _ H).trans D⟩
theorem zj7 {C:Cx} {j:Bool} (m:Nat): ∀(q:PS) (acc:List Ep) (a:PS×List Ep),C.ts.length-q.pos<m→zay C j q acc= .ok a→q.pos≤a.1.pos:=by
 induction m with
 |zero=>intro q acc a h;omega
 |succ m z=>
  intro q acc a M h
  rw[zeM] at h
  obtain⟨b,L,K⟩:=ze h
  obtain⟨c,H,o⟩:=ze K
  have N:=zeN L
  have O:=zf6 H
  split at o
  ·next J=>
   have D:=za1 J (by decide)
   have:=z _ _ _ (by rw[zz];omega) o
   rw[zz] at this
   omega
  ·obtain⟨d,E,I⟩:=ze o
   have D:=za4 E
   cases I
   show q.pos≤d.pos
   omega
theorem zf7 {C:Cx} {x:PR} {b:PS×ByteArray} (h:zaD C (zav C x)= .ok b): ∃q,x= .ok q∧q.pos≤b.1.pos:=by
 obtain⟨a,I,H⟩:=ze h
 obtain⟨c,D,J⟩:=ze H
 obtain⟨d,z,E⟩:=ze I
 obtain⟨e,o,j⟩:=ze z
 have K:=za4 D
 have M:=zj6 E
 have L:=za4 j
 cases J
 exact⟨e,o,by show e.pos≤c.pos;omega⟩
theorem znS {C:Cx} {q q':PS} (h:za3 C q= .ok q'):q.pos<q'.pos:=by
 obtain⟨X,Q,z⟩:=ze h
 have U:=za4 Q
 split at z
 ·obtain⟨a,o,D⟩:=ze z
  obtain⟨b,I,H⟩:=ze D
  obtain⟨c,M,N⟩:=ze o
  obtain⟨d,O,J⟩:=zf7 I
  obtain⟨f,j,E⟩:=zhI (fun _ _ _ h=>zhH h) _ _ _ H
  have L:=za4 M
  have K:=zj7 _ _ _ _ (Nat.lt_succ_self _) N
  cases O
  cases j
  omega
 ·split at z
  ·obtain⟨a,o,D⟩:=ze z
   obtain⟨b,I,H⟩:=ze D
   obtain⟨c,M,N⟩:=ze o
   obtain⟨d,O,J⟩:=ze M
   obtain⟨f,j,E⟩:=zf7 I
   have L:=zhH H
   have K:=zeN N
   have Y:=za4 O
   have V:=za4 J
   cases j
   omega
  ·split at z
   ·obtain⟨a,o,D⟩:=ze z
    obtain⟨b,I,H⟩:=ze D
    obtain⟨f,j,E⟩:=zf7 I
    have L:=zhH H
    have K:=zeN o
    cases j
    omega
   ·obtain⟨a,o,D⟩:=ze z
    have L:=zj6 o
    have K:=za4 D
    omega
theorem zj8 {y:PRN} {F:PR→ByteArray→PR} {a:PS×ByteArray} (h:withN y F= .ok a): ∃b,y= .ok b∧F (.ok b.1) b.2= .ok a.1:=by
 obtain⟨b,D,z⟩:=ze h
 obtain⟨c,o,j⟩:=ze z
 cases j
 exact⟨b,D,o⟩
theorem zj9 {C:Cx} {q:PS} {a:PS×ByteArray} (h:zbA C q= .ok a):q.pos<a.1.pos:=by
 obtain⟨b,J,I⟩:=zj8 h
 obtain⟨c,E,L⟩:=ze J
 obtain⟨d,D,H⟩:=ze I
 obtain⟨f,z,o⟩:=ze D
 obtain⟨g,K,j⟩:=ze z
 have M:=za4 E
 have O:=zeN L
 have N:=za4 (show zd C 4 cEq b.1= .ok g from K)
 have U:=zbr j
 have Q:=za4 o
 have V:=zeO H
 omega
theorem zjA {C:Cx} {q:PS} {a:PS×ByteArray} (h:fnP C q= .ok a):q.pos<a.1.pos:=by
 obtain⟨b,O,N⟩:=zj8 h
 obtain⟨c,h3,Y⟩:=ze O
 obtain⟨d,Z,M⟩:=ze N
 obtain⟨f,U,Q⟩:=ze Z
 obtain⟨g,X,K⟩:=ze U
 obtain⟨i,H,E⟩:=ze X
 obtain⟨j,L,z⟩:=ze H
 obtain⟨k,D,J⟩:=ze L
 obtain⟨l,o,I⟩:=ze D
 have e1:=za4 h3
 have e2:=zeN Y
 have e3:=za4 (show zd C 4 cOpen b.1= .ok l from o)
 have e4:=za4 I
 have e5:=za4 J
 have e6:=za4 z
 have e7:=zbr E
 have e8:=za4 K
 have e9:=za4 Q
 have V:=zeO M
 omega
theorem znT {C:Cx} {q q':PS} (h:zV C q= .ok q'):q.pos<q'.pos:=by
 obtain⟨X,Q,j⟩:=ze h
 have Z:=za4 Q
 split at j
 ·obtain⟨a,I,o⟩:=ze j
  obtain⟨c,O,M⟩:=ze I
  have L:=za4 O
  have K:=zj7 _ _ _ _ (Nat.lt_succ_self _) M
  split at o
  ·obtain⟨b,H,z⟩:=ze o
   obtain⟨f,D,N⟩:=zhI (fun _ _ _ h=>zeP h) _ _ _ z
   have U:=za4 H
   cases D
   omega
  ·obtain⟨b,H,z⟩:=ze o
   obtain⟨d,J,E⟩:=zf7 H
   obtain⟨f,D,N⟩:=zhI (fun _ _ _ h=>zeP h) _ _ _ z
   cases J
   cases D
   omega
 ·split at j
  ·obtain⟨b,H,z⟩:=ze j
   obtain⟨d,J,E⟩:=zf7 H
   have L:=za4 J
   have K:=zeP z
   omega
  ·split at j
   ·obtain⟨a,I,o⟩:=ze j
    obtain⟨b,H,z⟩:=ze I
    obtain⟨c,O,M⟩:=ze H
    obtain⟨d,J,E⟩:=ze O
    have L:=za4 J
    have K:=zbr E
    have U:=za4 M
    have V:=zeO z
    have Y:=zeP o
    omega
   ·split at j
    ·obtain⟨a,I,o⟩:=ze j
     have L:=zj9 I
     have K:=zeP o
     omega
    ·split at j
     ·obtain⟨a,I,o⟩:=ze j
      have L:=zjA I
      have K:=zeP o
      omega
     ·cases j
theorem zjB {C:Cx} {s:ByteArray} {k:Int} {n:ByteArray} {q q':PS} (h:bd (bd (bd (zd C 1 s q) (pE C .sum 0)) (zd C 4 cSemi)) (zE C k n)= .ok q'):q.pos<q'.pos:=by
 obtain⟨a,E,D⟩:=ze h
 obtain⟨b,o,H⟩:=ze E
 obtain⟨c,j,z⟩:=ze o
 have I:=za4 j
 have K:=zbr z
 have J:=za4 H
 have L:=zeO D
 omega
theorem zgz {C:Cx} {q q':PS} (h:zo C q= .ok q'):q.pos<q'.pos:=by
 unfold zo at h
 split at h
 ·exact znS h
 ·split at h
  ·exact znT h
  ·split at h
   ·obtain⟨a,o,j⟩:=ze h
    cases j
    exact zj9 o
   ·split at h
    ·obtain⟨a,o,j⟩:=ze h
     cases j
     exact zjA o
    ·split at h
     ·obtain⟨a,o,j⟩:=ze h
      obtain⟨b,H,J⟩:=ze o
      obtain⟨c,E,I⟩:=ze H
      obtain⟨d,D,z⟩:=ze E
      obtain⟨e,Q,K⟩:=ze D
      have L:=za4 Q
      have N:=za4 K
      have M:=zbr z
      have U:=za4 I
      have O:=za4 J
      have V:=zeO j
      omega
     ·split at h
      ·exact zjB h
      ·split at h
       ·exact zjB h
       ·obtain⟨a,o,j⟩:=ze h
        obtain⟨b,H,J⟩:=ze j
        obtain⟨c,E,I⟩:=ze H
        obtain⟨d,D,z⟩:=ze E
        have L:=zeN o
        have N:=za4 D
        have M:=zbr z
        have U:=za4 I
        have O:=zeO J
        omega
def zbL (C:Cx):Nat→PS→PR
 |0,_=>.error 0
 |f+1,q=>if q.pos<C.ts.length then bd (zo C q) (zbL C f) else .ok q
def zM (C:Cx) (q:PS):PR:=zbL C (C.ts.length-q.pos+1) q
theorem znU {C:Cx} (f:Nat): ∀(g:Nat) (q:PS),C.ts.length-q.pos<f→C.ts.length-q.pos<g→zbL C f q=zbL C g q:=by
 induction f with
 |zero=>intro g q h;omega
 |succ f j=>
  intro g q E D
  obtain⟨g,rfl⟩: ∃z,g=z+1:=⟨g-1,by omega⟩
  rw[zbL,zbL]
  split
  ·refine zaf fun a o=>?_
   have:=zgz o
   exact j g a (by omega) (by omega)
  ·rfl
theorem zeQ (C:Cx) (q:PS):zM C q=if q.pos<C.ts.length then bd (zo C q) (zM C) else .ok q:=by
 rw[zM,zbL]
 split
 ·refine zaf fun a j=>?_
  have:=zgz j
  exact znU _ _ _ (by omega) (by omega)
 ·rfl
def startP:PS:=⟨0,[],[],[],[],[],[]⟩
def za8 (s:ByteArray) (scr:Bool) (y:PR):Prop:=∃r,zY s scr r∧y=match r with
 | .error p=>.error p
 | .ok ts=>zM ⟨ts,s.size,scr⟩ startP
theorem zdy {s:ByteArray} {scr:Bool} {o j:PR} (D:za8 s scr o) (z:za8 s scr j):o=j:=by
 obtain⟨I,E,rfl⟩:=D
 obtain⟨J,H,rfl⟩:=z
 obtain rfl:=zh5 E H
 rfl
theorem znV {s:ByteArray} {scr:Bool} {a n:Nat} {r:Except Nat (List Tk)} (h:Lx s scr a n r): ∀o,r= .ok o→n≤4000→o.length+n≤4000:=by
 induction h using Lx.ind with
 |done=>intro o z D;cases z;simpa using D
 |bad _ _=>intro o z D;cases z
 | @tok a n e b t r h D H I z E=>
  intro o j _
  cases r with
  |error p=>simp[Except.map] at j
  |ok l=>
   simp only[Except.map,Except.ok.injEq] at j
   subst j
   have:=E l rfl (by omega)
   simp only[List.length_cons]
   omega
theorem zg0 {s:ByteArray} {scr:Bool} {j:List Tk} (h:zY s scr (.ok j)):j.length≤4000:=by
 obtain⟨a,_,o⟩:=h
 have:=znV o j rfl (by omega)
 omega
def R0:Rw:=⟨none,0⟩
def S0:Sv:=⟨R0,R0,R0,R0,R0,R0⟩
theorem zeR (w:World) (j size:Nat) (e:TypeId):OwnR w j e size R0 0 []:=World.ownsRow_nil w j e size
theorem znW (w:World) (j:Nat):Own w j S0 startP:=
 ⟨zeR _ _ _ _,zeR _ _ _ _,zeR _ _ _ _,zeR _ _ _ _,zeR _ _ _ _,zeR _ _ _ _,fun k h=>by simp[S0,R0,Rw.blk,Value.ownBlock] at h⟩
theorem zjC {w:World} {j g o:Nat} {z:List Tk} {n:Nat} {scr:Bool} (h:OwnT w j 40 g z.length o z) (E:z.length≤4000) (D:j≤w.heap.size):Mem ⟨z,n,scr⟩ g o j S0 startP w:=
 ⟨znW _ _,⟨Nat.zero_le _,Nat.zero_le _,Nat.zero_le _,Nat.zero_le _,Nat.zero_le _,Nat.zero_le _⟩,h,E,D⟩
structure OwnMod (w:World) (base:Nat) (S:Sv) (q:PS):Prop where
 rq:OwnR w base 9 1 S.rq q.rq.length (q.rq.map .string)
 im:OwnR w base 75 3 S.im q.im.length (q.im.flatMap imL)
 ep:OwnR w base 77 4 S.ep (q.ep++q.la).length ((q.ep++q.la).flatMap epL)
 st:OwnR w base 79 3 S.st q.st.length (q.st.flatMap smL)
 ex:OwnR w base 81 6 S.ex q.ex.length (q.ex.flatMap exL)
 inv:q.rq.length≤40∧q.im.length≤40∧q.ep.length+q.la.length≤40∧q.st.length≤80∧q.ex.length≤300
def zg1 (S:Sv) (q:PS):Value:=.agg #[.slice S.rq.a q.rq.length S.rq.cap,.slice S.im.a q.im.length S.im.cap,.slice S.ep.a (q.ep++q.la).length S.ep.cap,.slice S.st.a q.st.length S.st.cap,.slice S.ex.a q.ex.length S.ex.cap]
def ParseOut (s:ByteArray) (scr:Bool) (w:World) (e:Ending) (w':World):Prop:=
 ∃y,za8 s scr y∧match y with
  | .ok q=>∃S,e= .returned (.tuple #[zg1 S q,.int .i64 (-1)])∧OwnMod w' w.heap.size S q
  | .error p=>e= .returned (.tuple #[.agg #[.slice none 0 0,.slice none 0 0,.slice none 0 0,.slice none 0 0,.slice none 0 0],.int .i64 p])
theorem OwnR.low {w:World} {o j size n:Nat} {e:TypeId} {r:Rw} {xs:List Value} (h:OwnR w o e size r n xs) (H:j≤o):OwnR w j e size r n xs:=by
 refine⟨h.1,?_⟩
 rcases h.2 with z|⟨g,E,D,z,I,rest⟩
 ·exact .inl z
 ·exact .inr ⟨g,E,D,z,Nat.le_trans H I,rest⟩
theorem OwnR.nil_or {w:World} {o size n:Nat} {e:TypeId} {r:Rw} {xs:List Value} (h:OwnR w o e size r n xs):(r.a=none∧r.cap=0∧n=0)∨∃g,r.a=some ⟨g,0,none⟩:=by
 rcases h.2 with ⟨j,z⟩|⟨g,E,D,j,_⟩
 ·simp only[Value.slice.injEq] at j
  exact .inl ⟨j.1,j.2.2,z⟩
 ·simp only[Value.slice.injEq] at j
  exact .inr ⟨g,j.1⟩
theorem znX {P:Program} (W:World) {U:Array Oper} {rest:List Oper} {o:Oper} {a:Act} {Q:Exit→Act→World→Prop} (ac:o.guard=none) (s x:Operand) (t:TypeId)
  (ho:o.op= .call {callee:=.builtin .append,args:=#[s,x],argTypes:=#[t,t]})
  (H:Nat) (e:TypeId) (i:TypeInfo) (z:Value) (size D:Nat) (ht:P.underlying t=some (.slice e)) (hi:P.info? e=some i) (hz:i.zero=some z) (K:i.size=size) (ad:i.bytes=D) (ab:z.cells.size=size) (af:0<size) (X:D≤100)
  (r:Rw) (n:Nat) (xs:List Value) (hs:a.eval s= .slice r.a n r.cap) (N:OwnR W H e size r n xs)
  (Y m c J:Nat) (E:List Value) (hx:a.eval x= .slice (some ⟨Y,0,none⟩) m c) (hg:OwnR W J e size ⟨some ⟨Y,0,none⟩,c⟩ m E) (h1: ∀u∈E,u.oneCell'=true) (hn:n+m≤1000000) (L:H≤W.heap.size)
  (h: ∀O M,OwnR M H e size O (n+m) (xs++E)→W.grownBy M r.blk→(O.blk=r.blk∨O.blk=some W.heap.size)→wpList P U Q rest (a.put o.dst (.slice O.a (n+m:Nat) O.cap)) M):
  wpList P U Q (o::rest) a W:=by
 refine wpList_append_own_at _ ac s x t ho H e i z size D ht hi hz K ad ab af _ n _ hs N ⟨Y,0,none⟩ m c E hx hg.1 ?_ h1 ?_ ?_ L ?_
 ·intro j u hj
  have e1:(⟨Y,0,none⟩:Addr).add j=⟨Y,j,none⟩:=by simp[Addr.add];exact fun h=>h.symm
  have aa:j<E.length:=(List.getElem?_eq_some_iff.1 hj).1
  rw[e1,World.ownsRow.cellAt hg j (by rw[←hg.1];exact aa)]
  exact hj
 ·unfold maxLen;omega
 ·have:(n+m)*D≤1000000*100:=Nat.mul_le_mul hn X
  omega
 ·intro v' M Z k2 k3 k4
  rcases Z.2 with ⟨hv,V⟩|⟨g',I,ag,rfl,ae⟩
  ·subst hv
   have:=h ⟨none,0⟩ M (by rw[V] at Z ⊢;exact Z) (by rw[←zb9 r n];exact k2) (by rw[←zb9 r n];exact k4)
   rw[V] at this
   exact this
  ·refine h ⟨some ⟨g',0,none⟩,I⟩ M Z ?_ ?_
   ·rw[←zb9 r n];exact k2
   ·rw[←zb9 r n,←zb9 ⟨some ⟨g',0,none⟩,I⟩ (n+m)];exact k4
theorem znY {P:Program} (W:World) {D:Array Oper} {rest:List Oper} {o:Oper} {a:Act} {Q:Exit→Act→World→Prop} (E:o.guard=none) (s x:Operand) (t:TypeId)
  (N:o.op= .call {callee:=.builtin .append,args:=#[s,x],argTypes:=#[t,t]})
  (e:TypeId) (i:TypeInfo) (I:P.underlying t=some (.slice e)) (J:P.info? e=some i) (z size n:Nat)
  (r:Rw) (xs:List Value) (O:a.eval s= .slice r.a n r.cap) (j:OwnR W z e size r n xs) (V:a.eval x= .slice none 0 0)
  (h:wpList P D Q rest (a.put o.dst (.slice r.a n r.cap)) W):wpList P D Q (o::rest) a W:=by
 have M:(Builtin.append_ #[t,t] o.type #[.slice r.a n r.cap,.slice none 0 0]).run P W= .ok (.slice r.a n r.cap) W:=by
  rcases j.2 with ⟨H,_⟩|⟨g,Y,X,H,_,_,L,_⟩
  ·rw[H]
   simp[Builtin.append_,run_underlying I,sizeOf,typeInfo,J,Builtin.lenOf,Builtin.firstCells]
  ·rw[H]
   simp[Builtin.append_,run_underlying I,sizeOf,typeInfo,J,Builtin.lenOf,Builtin.firstCells,loadCells,L,storeCells]
 refine wpList_plain E fun K U=>?_
 unfold Oper.wp execOp
 simp only[N,resolve,invoke,builtin,Sem.run_bind,Sem.run_pure,Result.andThen_ok,List.map_toArray,List.map_cons,List.map_nil,O,V,M]
 exact U _ _ h
theorem zhJ (l:List Ep): ∀u∈l.flatMap epL,u.oneCell'=true:=by
 intro u j
 rw[List.mem_flatMap] at j
 obtain⟨x,_,o⟩:=j
 simp[epL] at o
 rcases o with rfl|rfl|rfl|rfl<;>rfl
theorem Mem.whole {C:Cx} {X L j b B:Nat} {S:Sv} {q:PS} {W M J:World} {H:Rw} (D:Mem C X L j S q W) (V:W.grownBy M S.ep.blk) (Q:OwnR M j 77 4 H (q.ep.length+q.la.length) (q.ep.flatMap epL++q.la.flatMap epL)) (K:H.blk=S.ep.blk∨H.blk=some W.heap.size) (hB:B<j) (hb:b<W.heap.size) (o: ¬S.has b)
  (U: ∀k,k≠B→k≠b→J.heap[k]? =M.heap[k]?):OwnMod J B {S with ep:=H} q:=by
 have E:(q.ep++q.la).length=q.ep.length+q.la.length:=by simp
 have I: ∀(r:Rw) (e:TypeId) (z n:Nat) (N:List Value),OwnR W j e z r n N→e≠77→(∀k,r.blk=some k→S.has k)→OwnR J B e z r n N:=fun r e z n N h Z Y=>
  ((h.keep fun k g=>(U k (by have:=(h.typed g).1;omega) (fun O=>o (by rw[←O];exact Y k g))).trans (V.block k (h.typed g).2.1 fun e'=>(h.ne D.own.ep Z g) e'.symm)).low (by omega))
 refine⟨I _ _ _ _ _ D.own.rq (by decide) fun k g=>.inl g,I _ _ _ _ _ D.own.im (by decide) fun k g=>.inr (.inl g),?_,I _ _ _ _ _ D.own.st (by decide) fun k g=>.inr (.inr (.inr (.inl g))),I _ _ _ _ _ D.own.ex (by decide) fun k g=>.inr (.inr (.inr (.inr (.inl g)))),D.inv.rq,D.inv.im,D.inv.ep,D.inv.st,D.inv.ex⟩
 rw[E,List.flatMap_append]
 refine (Q.keep fun k g=>U k (by have:=(Q.typed g).1;omega) ?_).low (by omega)
 rcases K with e|e
 ·intro O
  exact o (by rw[←O];exact .inr (.inr (.inl (by rw[←e];exact g))))
 ·have:W.heap.size=k:=Option.some.inj (e.symm.trans g)
  omega
theorem Mem.whole0 {C:Cx} {N I j b B:Nat} {S:Sv} {q:PS} {W H:World} (z:Mem C N I j S q W) (M:q.la=[]) (Q:B<j) (D: ¬S.has b)
  (L: ∀k,k≠B→k≠b→H.heap[k]? =W.heap[k]?):OwnMod H B S q:=by
 have E: ∀(r:Rw) (e:TypeId) (o n:Nat) (J:List Value),OwnR W j e o r n J→(∀k,r.blk=some k→S.has k)→OwnR H B e o r n J:=fun r e o n J h K=>
  ((h.keep fun k g=>L k (by have:=(h.typed g).1;omega) (fun O=>D (by rw[←O];exact K k g))).low (by omega))
 refine⟨E _ _ _ _ _ z.own.rq fun k g=>.inl g,E _ _ _ _ _ z.own.im fun k g=>.inr (.inl g),?_,E _ _ _ _ _ z.own.st fun k g=>.inr (.inr (.inr (.inl g))),E _ _ _ _ _ z.own.ex fun k g=>.inr (.inr (.inr (.inr (.inl g)))),z.inv.rq,z.inv.im,z.inv.ep,z.inv.st,z.inv.ex⟩
 rw[M,List.append_nil]
 exact E _ _ _ _ _ z.own.ep fun k g=>.inr (.inr (.inl g))
theorem zaa {w:World} {b:Nat} {t:TypeId} {E z j D o:Value} (h:w.heap[b]? =some (.cells #[E,z,j,D,o] t (0,0))):
  w.cell? ⟨b,0,none⟩=some E∧w.cell? ⟨b,1,none⟩=some z∧w.cell? ⟨b,2,none⟩=some j∧w.cell? ⟨b,3,none⟩=some D∧w.cell? ⟨b,4,none⟩=some o∧∀i,w.frozen? ⟨b,i,none⟩=false:=by
 refine⟨?_,?_,?_,?_,?_,fun i=>?_⟩<;>simp[World.cell?,World.frozen?,h]
theorem zbf {w:World} {b i:Nat} {cs:Array Value} {u:Value} {t:TypeId} (h:w.heap[b]? =some (.cells cs t (0,0))):(w.setCell ⟨b,i,none⟩ u).heap[b]? =some (.cells (cs.setIfInBounds i u) t (0,0)):=by
 simp only[World.setCell,Array.getElem?_modify]
 rw[if_pos trivial,h]
 rfl
theorem zei {w:World} {b:Nat} {L J H K I D z o E j:Value} {t:TypeId} (h:w.heap[b]? =some (.cells #[L,J,H,K,I] t (0,0))):
  (((((w.setCell ⟨b,0,none⟩ D).setCell ⟨b,1,none⟩ z).setCell ⟨b,2,none⟩ o).setCell ⟨b,3,none⟩ E).setCell ⟨b,4,none⟩ j).heap[b]? =some (.cells #[D,z,o,E,j] t (0,0)):=by
 have e:=zbf (i:=4) (u:=j) (zbf (i:=3) (u:=E) (zbf (i:=2) (u:=o) (zbf (i:=1) (u:=z) (zbf (i:=0) (u:=D) h))))
 rw[e]
 simp
theorem zej {B:Nat} {a w:World} {b:Nat} (h:Below B a w) (j:B≤b) (E D z H o:Value):Below B a (((((w.setCell ⟨b,0,none⟩ E).setCell ⟨b,1,none⟩ D).setCell ⟨b,2,none⟩ z).setCell ⟨b,3,none⟩ H).setCell ⟨b,4,none⟩ o):=
 ((((h.setCell j _).setCell j _).setCell j _).setCell j _).setCell j _
end Go.Proofs.YthfeoomfiafldaaGreat
