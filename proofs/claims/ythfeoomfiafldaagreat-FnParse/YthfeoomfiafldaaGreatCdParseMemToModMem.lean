/-
  A program under way in memory: its six rows,what a step leaves as it was. No program is spoken of but for the numbers of its types.
  One of the six rows of a program under way grows by one element: what holds behind it. No program is spoken of but for the numbers of its types.
  Items of programs,as plain functions. No program is spoken of.
  A whole program,as a plain function of its tokens: items one behind the other. No program is spoken of.
  A text has at most 4000 tokens. No program is spoken of.
  A program in memory,as Parse hands it back. No program is spoken of but for the numbers of its types.
-/
import Derived.Maps.AppendAt
import Derived.Test.YthfeoomfiafldaaGreatCdDrawProgCToTokMem
namespace Go.Proofs.YthfeoomfiafldaaGreat
open Go.RowKit Go.PlainAid
def imL (x:Im):List Value:=[.string x.spec,.string x.first,.string x.loc]
def epL (x:Ep):List Value:=[.int .i64 x.kind,.string x.name,.string x.loc,.string x.spec]
def smL (x:Sm):List Value:=[.int .i64 x.kind,.string x.name,.int .i64 x.expr]
def exL (x:Ex):List Value:=[.int .i64 x.kind,.int .i64 x.num,.string x.name,.string x.field,.int .i64 x.l,.int .i64 x.r]
structure Rw where
 a:Option Addr
 cap:Nat
structure Sv where
 rq:Rw
 im:Rw
 ep:Rw
 st:Rw
 ex:Rw
 la:Rw
def Rw.blk (r:Rw):Option Nat:=(Value.slice r.a 0 r.cap).ownBlock
def Sv.has (S:Sv) (k:Nat):Prop:=S.rq.blk=some k∨S.im.blk=some k∨S.ep.blk=some k∨S.st.blk=some k∨S.ex.blk=some k∨S.la.blk=some k
def OwnR (w:World) (base:Nat) (e:TypeId) (size:Nat) (r:Rw) (n:Nat) (xs:List Value):Prop:=w.ownsRow base e size (.slice r.a n r.cap) n xs
theorem zb9 (r:Rw) (n:Nat):(Value.slice r.a n r.cap).ownBlock=r.blk:=by
 unfold Rw.blk Value.ownBlock
 cases r.a<;>rfl
structure Own (w:World) (base:Nat) (S:Sv) (q:PS):Prop where
 rq:OwnR w base 9 1 S.rq q.rq.length (q.rq.map .string)
 im:OwnR w base 75 3 S.im q.im.length (q.im.flatMap imL)
 ep:OwnR w base 77 4 S.ep q.ep.length (q.ep.flatMap epL)
 st:OwnR w base 79 3 S.st q.st.length (q.st.flatMap smL)
 ex:OwnR w base 81 6 S.ex q.ex.length (q.ex.flatMap exL)
 la:OwnR w base 77 4 S.la q.la.length (q.la.flatMap epL)
 apart: ∀k,S.ep.blk=some k→S.la.blk≠some k
theorem OwnR.typed {w:World} {j size n:Nat} {e:TypeId} {r:Rw} {xs:List Value} (h:OwnR w j e size r n xs) {k:Nat} (z:r.blk=some k):j≤k∧k<w.heap.size∧∃o,w.heap[k]? =some (.cells o e (0,0)):=by
 rcases h.2 with ⟨D,_⟩|⟨g,I,o,D,H,E,_⟩
 ·rw[←zb9 r n,D] at z
  simp[Value.ownBlock] at z
 ·rw[←zb9 r n,D] at z
  simp only[Value.ownBlock,Option.some.injEq] at z
  subst z
  exact⟨H,(Array.getElem?_eq_some_iff.1 E).1,o,E⟩
theorem OwnR.ne {w:World} {H b2 J O I U:Nat} {z D:TypeId} {E o:Rw} {K V:List Value} (X:OwnR w H z J E I K) (M:OwnR w b2 D O o U V) (L:z≠D) {k:Nat} (N:E.blk=some k):o.blk≠some k:=by
 intro h
 obtain⟨_,_,Y,Q⟩:=X.typed N
 obtain⟨_,_,Z,j⟩:=M.typed h
 rw[Q] at j
 simp only[Option.some.injEq,Obj.cells.injEq] at j
 exact L j.2.1
theorem OwnR.keep {w E:World} {j size n:Nat} {e:TypeId} {r:Rw} {xs:List Value} (h:OwnR w j e size r n xs) (I: ∀k,r.blk=some k→E.heap[k]? =w.heap[k]?):OwnR E j e size r n xs:=by
 refine⟨h.1,?_⟩
 rcases h.2 with o|⟨g,D,z,o,H,J,rest⟩
 ·exact .inl o
 ·refine .inr ⟨g,D,z,o,H,?_,rest⟩
  rw[I g (by rw[←zb9 r n,o];rfl)]
  exact J
theorem Own.keep {w z:World} {j:Nat} {S:Sv} {q:PS} (h:Own w j S q) (o: ∀k,S.has k→z.heap[k]? =w.heap[k]?):Own z j S q:=
 ⟨h.rq.keep fun k e=>o k (.inl e),h.im.keep fun k e=>o k (.inr (.inl e)),h.ep.keep fun k e=>o k (.inr (.inr (.inl e))),h.st.keep fun k e=>o k (.inr (.inr (.inr (.inl e)))),
  h.ex.keep fun k e=>o k (.inr (.inr (.inr (.inr (.inl e))))),h.la.keep fun k e=>o k (.inr (.inr (.inr (.inr (.inr e))))),h.apart⟩
theorem Own.has {w:World} {j:Nat} {S:Sv} {q:PS} (h:Own w j S q) {k:Nat} (o:S.has k):j≤k∧k<w.heap.size:=by
 rcases o with e|e|e|e|e|e
 ·exact⟨(h.rq.typed e).1,(h.rq.typed e).2.1⟩
 ·exact⟨(h.im.typed e).1,(h.im.typed e).2.1⟩
 ·exact⟨(h.ep.typed e).1,(h.ep.typed e).2.1⟩
 ·exact⟨(h.st.typed e).1,(h.st.typed e).2.1⟩
 ·exact⟨(h.ex.typed e).1,(h.ex.typed e).2.1⟩
 ·exact⟨(h.la.typed e).1,(h.la.typed e).2.1⟩
theorem Own.later {w o:World} {j:Nat} {S:Sv} {q:PS} (h:Own w j S q) (z:Below w.heap.size w o):Own o j S q:=h.keep fun k e=>z.block k (h.has e).2
theorem Own.other {w:World} {D:Nat} {S:Sv} {q:PS} (h:Own w D S q) {k:Nat} {E:Array Value} {e:TypeId} {z:Nat×Nat} (o:w.heap[k]? =some (.cells E e z)) (J:e≠9) (L:e≠75) (H:e≠77) (I:e≠79) (K:e≠81): ¬S.has k:=by
 rintro (g|g|g|g|g|g)
 ·obtain⟨_,_,c,j⟩:=h.rq.typed g
  rw[o] at j
  simp only[Option.some.injEq,Obj.cells.injEq] at j
  exact J j.2.1
 ·obtain⟨_,_,c,j⟩:=h.im.typed g
  rw[o] at j
  simp only[Option.some.injEq,Obj.cells.injEq] at j
  exact L j.2.1
 ·obtain⟨_,_,c,j⟩:=h.ep.typed g
  rw[o] at j
  simp only[Option.some.injEq,Obj.cells.injEq] at j
  exact H j.2.1
 ·obtain⟨_,_,c,j⟩:=h.st.typed g
  rw[o] at j
  simp only[Option.some.injEq,Obj.cells.injEq] at j
  exact I j.2.1
 ·obtain⟨_,_,c,j⟩:=h.ex.typed g
  rw[o] at j
  simp only[Option.some.injEq,Obj.cells.injEq] at j
  exact K j.2.1
 ·obtain⟨_,_,c,j⟩:=h.la.typed g
  rw[o] at j
  simp only[Option.some.injEq,Obj.cells.injEq] at j
  exact H j.2.1
structure Stp (S:Sv) (w:World) (S':Sv) (w':World):Prop where
 os:w'.os=w.os
 tape:w'.tape=w.tape
 output:w'.output=w.output
 size:w.heap.size≤w'.heap.size
 block: ∀k,k<w.heap.size→¬S.has k→w'.heap[k]? =w.heap[k]?
 sub: ∀k,S'.has k→S.has k∨w.heap.size≤k
theorem Stp.refl (S:Sv) (w:World):Stp S w S w:=⟨rfl,rfl,rfl,Nat.le_refl _,fun _ _ _=>rfl,fun _ h=>.inl h⟩
theorem Stp.trans {S z D:Sv} {w E H:World} (h:Stp S w z E) (k:Stp z E D H):Stp S w D H:=
 ⟨k.os.trans h.os,k.tape.trans h.tape,k.output.trans h.output,Nat.le_trans h.size k.size,
  fun i j o=>(k.block i (Nat.lt_of_lt_of_le j h.size) fun g=>(h.sub i g).elim o fun I=>by omega).trans (h.block i j o),
  fun i j=>(k.sub i j).elim (h.sub i) fun g=>.inr (Nat.le_trans h.size g)⟩
theorem Stp.below {S:Sv} {w j:World} (h:Below w.heap.size w j):Stp S w S j:=⟨h.os,h.tape,h.output,h.size,fun k o _=>h.block k o,fun _ g=>.inl g⟩
theorem Stp.under {S z:Sv} {w o:World} {j:Nat} {q:PS} (h:Stp S w z o) (E:j≤w.heap.size) (D:Own w j S q):Below j w o:=
 ⟨h.os,h.tape,h.output,h.size,fun k H=>h.block k (by omega) fun g=>by have:=(D.has g).1;omega⟩
theorem Stp.grown {S z:Sv} {w o:World} {row:Option Nat} (j:w.grownBy o row) (E: ∀k,row=some k→S.has k) (I: ∀k,z.has k→S.has k∨w.heap.size≤k):Stp S w z o:=
 ⟨j.os,j.tape,j.output,j.size,fun k D H=>j.block k D fun e=>H (E k e.symm),I⟩
structure Inv (C:Cx) (q:PS):Prop where
 pos:q.pos≤C.ts.length
 rq:q.rq.length≤40
 im:q.im.length≤40
 ep:q.ep.length+q.la.length≤40
 st:q.st.length≤80
 ex:q.ex.length≤300
structure Mem (C:Cx) (gt cap base:Nat) (S:Sv) (q:PS) (w:World):Prop where
 own:Own w base S q
 inv:Inv C q
 tok:OwnT w base 40 gt C.ts.length cap C.ts
 few:C.ts.length≤4000
 base:base≤w.heap.size
theorem Mem.later {C:Cx} {E o j:Nat} {S:Sv} {q:PS} {w D:World} (h:Mem C E o j S q w) (z:Below w.heap.size w D):Mem C E o j S q D:=
 ⟨h.own.later z,h.inv,zcn h.tok z,h.few,Nat.le_trans h.base z.size⟩
theorem Mem.alloc {C:Cx} {D z j:Nat} {S:Sv} {q:PS} {w:World} (h:Mem C D z j S q w) (o:Obj):Mem C D z j S q (w.alloc o):=h.later ((Below.refl _ _).alloc (Nat.le_refl _) _)
theorem Own.to {w:World} {j:Nat} {S:Sv} {q q':PS} (h:Own w j S q) (I:q'.rq=q.rq) (H:q'.im=q.im) (D:q'.ep=q.ep) (o:q'.st=q.st) (E:q'.ex=q.ex) (z:q'.la=q.la):Own w j S q':=
 ⟨by rw[I];exact h.rq,by rw[H];exact h.im,by rw[D];exact h.ep,by rw[o];exact h.st,by rw[E];exact h.ex,by rw[z];exact h.la,h.apart⟩
theorem Mem.adv {C:Cx} {z o j:Nat} {S:Sv} {q:PS} {w:World} (h:Mem C z o j S q w) (D:q.pos<C.ts.length):Mem C z o j S (adv q) w:=
 ⟨h.own.to rfl rfl rfl rfl rfl rfl,⟨D,h.inv.rq,h.inv.im,h.inv.ep,h.inv.st,h.inv.ex⟩,h.tok,h.few,h.base⟩
theorem OwnR.alloc {w:World} {j size n:Nat} {e:TypeId} {r:Rw} {xs:List Value} (h:OwnR w j e size r n xs) (o:Obj):OwnR (w.alloc o) j e size r n xs:=
 h.keep fun k z=>Below.heap_alloc w o k (h.typed z).2.1
theorem zgy {w:World} {o g n D:Nat} {e:TypeId} {H:List Tk} (h:OwnT w o e g n D H): ∃j,w.heap[g]? =some (.cells j e (0,0)):=by
 rcases h.1.2 with ⟨z,_⟩|⟨J,E,j,z,K,I,L,_⟩
 ·simp at z
 ·simp only[Value.slice.injEq,Option.some.injEq,Addr.mk.injEq,and_true,true_and] at z
  obtain⟨rfl,rfl⟩:=z
  exact⟨j,I⟩
theorem zbJ {w J:World} {j g n o:Nat} {e:TypeId} {I:List Tk} (h:OwnT w j e g n o I) (K:J.heap[g]? =w.heap[g]?):OwnT J j e g n o I:=by
 refine⟨⟨h.1.1,?_⟩,h.2⟩
 rcases h.1.2 with k|⟨N,E,D,H,z,M,L⟩
 ·exact .inl k
 ·simp only[Value.slice.injEq,Option.some.injEq,Addr.mk.injEq,and_true,true_and] at H
  obtain⟨rfl,rfl⟩:=H
  exact .inr ⟨g,o,D,rfl,z,K.trans M,L⟩
theorem Mem.gt_free {C:Cx} {z o j:Nat} {S:Sv} {q:PS} {w:World} (h:Mem C z o j S q w): ¬S.has z:=by
 obtain⟨D,E⟩:=zgy h.tok
 exact h.own.other E (by decide) (by decide) (by decide) (by decide) (by decide)
structure Off (lo hi:Nat) (w w':World):Prop where
 os:w'.os=w.os
 tape:w'.tape=w.tape
 output:w'.output=w.output
 size:w.heap.size≤w'.heap.size
 block: ∀k,k<lo∨hi≤k∧k<w.heap.size→w'.heap[k]? =w.heap[k]?
theorem Off.refl (j o:Nat) (w:World):Off j o w w:=⟨rfl,rfl,rfl,Nat.le_refl _,fun _ _=>rfl⟩
theorem Off.set {z o:Nat} {w j:World} (h:Off z o w j) {b:Nat} (H:z≤b) (E:b<o) (i:Nat) (u:Value):Off z o w (j.setCell ⟨b,i,none⟩ u):=
 ⟨h.os,h.tape,h.output,by show _≤(j.heap.modify _ _).size;simp;exact h.size,fun k D=>(Below.heap_setCell j ⟨b,i,none⟩ u k (by show k≠b;omega)).trans (h.block k D)⟩
theorem Off.below {o D:Nat} {w z E:World} (h:Off o D w z) (j:Below z.heap.size z E) (H:o≤w.heap.size):Off o D w E:=
 ⟨j.os.trans h.os,j.tape.trans h.tape,j.output.trans h.output,Nat.le_trans h.size j.size,fun k I=>(j.block k (by have:=h.size;omega)).trans (h.block k I)⟩
theorem Off.set12 {D z:Nat} {a w:World} (h:Off D z a w) {b:Nat} (j:D≤b) (o:b<z) (I N M V L K Q O J U E H:Value):
  Off D z a ((((((((((((w.setCell ⟨b,0,none⟩ I).setCell ⟨b,1,none⟩ N).setCell ⟨b,2,none⟩ M).setCell ⟨b,3,none⟩ V).setCell ⟨b,4,none⟩ L).setCell ⟨b,5,none⟩ K).setCell ⟨b,6,none⟩ Q).setCell ⟨b,7,none⟩ O).setCell ⟨b,8,none⟩ J).setCell ⟨b,9,none⟩ U).setCell ⟨b,10,none⟩ E).setCell ⟨b,11,none⟩ H):=
 (((((((((((h.set j o _ _).set j o _ _).set j o _ _).set j o _ _).set j o _ _).set j o _ _).set j o _ _).set j o _ _).set j o _ _).set j o _ _).set j o _ _).set j o _ _
theorem zcC {P:Program} (W:World) {O:Array Oper} {rest:List Oper} {o:Oper} {a:Act} {Q:Exit→Act→World→Prop} (X:o.guard=none) (s x:Operand) (t:TypeId)
  (ho:o.op= .call {callee:=.builtin .append,args:=#[s,x],argTypes:=#[t,t]})
  (H:Nat) (e:TypeId) (i:TypeInfo) (z:Value) (size D:Nat) (ht:P.underlying t=some (.slice e)) (hi:P.info? e=some i) (hz:i.zero=some z) (K:i.size=size) (Z:i.bytes=D) (ab:z.cells.size=size) (Y:0<size) (L:D≤100)
  (r:Rw) (n:Nat) (xs:List Value) (hs:a.eval s= .slice r.a n r.cap) (M:OwnR W H e size r n xs)
  (U:Nat) (E:List Value) (hx:a.eval x= .slice (some ⟨U,0,none⟩) 1 1) (hg:W.heap[U]? =some (.cells E.toArray e (0,0))) (hl:E.length=size) (h1: ∀u∈E,u.oneCell'=true) (hn:n+1≤1000000) (J:H≤W.heap.size)
  (h: ∀V N,OwnR N H e size V (n+1) (xs++E)→W.grownBy N r.blk→(V.blk=r.blk∨V.blk=some W.heap.size)→wpList P O Q rest (a.put o.dst (.slice V.a (n+1) V.cap)) N):
  wpList P O Q (o::rest) a W:=by
 refine wpList_append_own_at _ X s x t ho H e i z size D ht hi hz K Z ab Y _ n _ hs M ⟨U,0,none⟩ 1 1 E hx (by omega) ?_ h1 ?_ ?_ J ?_
 ·intro j u hj
  have:(⟨U,0,none⟩:Addr).add j=⟨U,j,none⟩:=by simp[Addr.add];exact fun h=>h.symm
  rw[this]
  simp[World.cell?,hg,hj]
 ·unfold maxLen;omega
 ·have:(n+1)*D≤1000000*100:=Nat.mul_le_mul hn L
  omega
 ·intro v' N k1 k2 k3 k4
  rcases k1.2 with ⟨hv,ad⟩|⟨g',I,ac,rfl,aa⟩
  ·omega
  ·refine h ⟨some ⟨g',0,none⟩,I⟩ N k1 ?_ ?_
   ·rw[←zb9 r n];exact k2
   ·rw[←zb9 r n,←zb9 ⟨some ⟨g',0,none⟩,I⟩ (n+1)];exact k4
theorem Mem.grow_rq {C:Cx} {V O E:Nat} {S:Sv} {q:PS} {w W X I:World} (j:Mem C V O E S q w) (Q:Below w.heap.size w W) (M:W.grownBy X S.rq.blk) {H:Rw} {x:ByteArray} (hr:OwnR X E 9 1 H (q.rq.length+1) (q.rq.map .string++[.string x])) (J:H.blk=S.rq.blk∨H.blk=some W.heap.size) (D:Off w.heap.size W.heap.size X I) (Z:q.rq.length<40):
  Mem C V O E {S with rq:=H} {q with rq:=q.rq++[x]} I∧Stp S w {S with rq:=H} I:=by
 have U:=Q.size
 have K:=M.size
 have o: ∀k,k<w.heap.size→S.rq.blk≠some k→I.heap[k]? =w.heap[k]?:=fun k z Y=>
  (D.block k (.inl z)).trans ((M.block k (by omega) fun e=>Y e.symm).trans (Q.block k z))
 have L:OwnR I E 9 1 H (q.rq.length+1) (q.rq.map .string++[.string x]):=hr.keep fun k z=>D.block k (by
  rcases J with e|e
  ·rw[e] at z
   exact .inl (j.own.rq.typed z).2.1
  ·rw[e] at z
   obtain rfl:=Option.some.inj z
   exact .inr ⟨Nat.le_refl _,(hr.typed e).2.1⟩)
 have N:(q.rq++[x]).length=q.rq.length+1:=by simp
 refine⟨⟨⟨by show OwnR I E 9 1 H (q.rq++[x]).length _;rw[N];simpa using L,j.own.im.keep fun k z=>o k (j.own.im.typed z).2.1 (j.own.im.ne j.own.rq (by decide) z),j.own.ep.keep fun k z=>o k (j.own.ep.typed z).2.1 (j.own.ep.ne j.own.rq (by decide) z),j.own.st.keep fun k z=>o k (j.own.st.typed z).2.1 (j.own.st.ne j.own.rq (by decide) z),j.own.ex.keep fun k z=>o k (j.own.ex.typed z).2.1 (j.own.ex.ne j.own.rq (by decide) z),j.own.la.keep fun k z=>o k (j.own.la.typed z).2.1 (j.own.la.ne j.own.rq (by decide) z),j.own.apart⟩,⟨j.inv.pos,by simp;omega,j.inv.im,j.inv.ep,j.inv.st,j.inv.ex⟩,zbJ j.tok (o V (zan j.tok).1 fun e=>j.gt_free (.inl e)),j.few,Nat.le_trans j.base (by have:=D.size;omega)⟩,?_⟩
 refine⟨D.os.trans (M.os.trans Q.os),D.tape.trans (M.tape.trans Q.tape),D.output.trans (M.output.trans Q.output),Nat.le_trans (Nat.le_trans U K) D.size,fun k z Z=>o k z fun e=>Z (.inl e),fun k z=>?_⟩
 rcases z with h|h|h|h|h|h
 ·exact J.elim (fun e=>.inl (.inl (e.symm.trans h))) fun e=>.inr (by have:W.heap.size=k:=Option.some.inj (e.symm.trans h);omega)
 ·exact .inl (.inr (.inl h))
 ·exact .inl (.inr (.inr (.inl h)))
 ·exact .inl (.inr (.inr (.inr (.inl h))))
 ·exact .inl (.inr (.inr (.inr (.inr (.inl h)))))
 ·exact .inl (.inr (.inr (.inr (.inr (.inr h)))))
theorem Mem.grow_im {C:Cx} {V O E:Nat} {S:Sv} {q:PS} {w W X I:World} (j:Mem C V O E S q w) (Q:Below w.heap.size w W) (M:W.grownBy X S.im.blk) {H:Rw} {x:Im} (hr:OwnR X E 75 3 H (q.im.length+1) (q.im.flatMap imL++imL x)) (J:H.blk=S.im.blk∨H.blk=some W.heap.size) (D:Off w.heap.size W.heap.size X I) (Z:q.im.length<40):
  Mem C V O E {S with im:=H} {q with im:=q.im++[x]} I∧Stp S w {S with im:=H} I:=by
 have U:=Q.size
 have K:=M.size
 have o: ∀k,k<w.heap.size→S.im.blk≠some k→I.heap[k]? =w.heap[k]?:=fun k z Y=>
  (D.block k (.inl z)).trans ((M.block k (by omega) fun e=>Y e.symm).trans (Q.block k z))
 have L:OwnR I E 75 3 H (q.im.length+1) (q.im.flatMap imL++imL x):=hr.keep fun k z=>D.block k (by
  rcases J with e|e
  ·rw[e] at z
   exact .inl (j.own.im.typed z).2.1
  ·rw[e] at z
   obtain rfl:=Option.some.inj z
   exact .inr ⟨Nat.le_refl _,(hr.typed e).2.1⟩)
 have N:(q.im++[x]).length=q.im.length+1:=by simp
 refine⟨⟨⟨j.own.rq.keep fun k z=>o k (j.own.rq.typed z).2.1 (j.own.rq.ne j.own.im (by decide) z),by show OwnR I E 75 3 H (q.im++[x]).length _;rw[N];simpa using L,j.own.ep.keep fun k z=>o k (j.own.ep.typed z).2.1 (j.own.ep.ne j.own.im (by decide) z),j.own.st.keep fun k z=>o k (j.own.st.typed z).2.1 (j.own.st.ne j.own.im (by decide) z),j.own.ex.keep fun k z=>o k (j.own.ex.typed z).2.1 (j.own.ex.ne j.own.im (by decide) z),j.own.la.keep fun k z=>o k (j.own.la.typed z).2.1 (j.own.la.ne j.own.im (by decide) z),j.own.apart⟩,⟨j.inv.pos,j.inv.rq,by simp;omega,j.inv.ep,j.inv.st,j.inv.ex⟩,zbJ j.tok (o V (zan j.tok).1 fun e=>j.gt_free (.inr (.inl e))),j.few,Nat.le_trans j.base (by have:=D.size;omega)⟩,?_⟩
 refine⟨D.os.trans (M.os.trans Q.os),D.tape.trans (M.tape.trans Q.tape),D.output.trans (M.output.trans Q.output),Nat.le_trans (Nat.le_trans U K) D.size,fun k z Z=>o k z fun e=>Z (.inr (.inl e)),fun k z=>?_⟩
 rcases z with h|h|h|h|h|h
 ·exact .inl (.inl h)
 ·exact J.elim (fun e=>.inl (.inr (.inl (e.symm.trans h)))) fun e=>.inr (by have:W.heap.size=k:=Option.some.inj (e.symm.trans h);omega)
 ·exact .inl (.inr (.inr (.inl h)))
 ·exact .inl (.inr (.inr (.inr (.inl h))))
 ·exact .inl (.inr (.inr (.inr (.inr (.inl h)))))
 ·exact .inl (.inr (.inr (.inr (.inr (.inr h)))))
theorem Mem.grow_ep {C:Cx} {V O E:Nat} {S:Sv} {q:PS} {w W X J:World} (j:Mem C V O E S q w) (Q:Below w.heap.size w W) (M:W.grownBy X S.ep.blk) {I:Rw} {x:Ep} (hr:OwnR X E 77 4 I (q.ep.length+1) (q.ep.flatMap epL++epL x)) (H:I.blk=S.ep.blk∨I.blk=some W.heap.size) (D:Off w.heap.size W.heap.size X J) (Z:q.ep.length+q.la.length<40):
  Mem C V O E {S with ep:=I} {q with ep:=q.ep++[x]} J∧Stp S w {S with ep:=I} J:=by
 have U:=Q.size
 have K:=M.size
 have o: ∀k,k<w.heap.size→S.ep.blk≠some k→J.heap[k]? =w.heap[k]?:=fun k z Y=>
  (D.block k (.inl z)).trans ((M.block k (by omega) fun e=>Y e.symm).trans (Q.block k z))
 have L:OwnR J E 77 4 I (q.ep.length+1) (q.ep.flatMap epL++epL x):=hr.keep fun k z=>D.block k (by
  rcases H with e|e
  ·rw[e] at z
   exact .inl (j.own.ep.typed z).2.1
  ·rw[e] at z
   obtain rfl:=Option.some.inj z
   exact .inr ⟨Nat.le_refl _,(hr.typed e).2.1⟩)
 have N:(q.ep++[x]).length=q.ep.length+1:=by simp
 refine⟨⟨⟨j.own.rq.keep fun k z=>o k (j.own.rq.typed z).2.1 (j.own.rq.ne j.own.ep (by decide) z),j.own.im.keep fun k z=>o k (j.own.im.typed z).2.1 (j.own.im.ne j.own.ep (by decide) z),by show OwnR J E 77 4 I (q.ep++[x]).length _;rw[N];simpa using L,j.own.st.keep fun k z=>o k (j.own.st.typed z).2.1 (j.own.st.ne j.own.ep (by decide) z),j.own.ex.keep fun k z=>o k (j.own.ex.typed z).2.1 (j.own.ex.ne j.own.ep (by decide) z),j.own.la.keep fun k z=>o k (j.own.la.typed z).2.1 (fun e=>j.own.apart k e z),fun k z hl=>H.elim (fun e=>j.own.apart k (by rw[←e];exact z) hl) fun e=>by have h1:=(j.own.la.typed hl).2.1;have h2:W.heap.size=k:=Option.some.inj (e.symm.trans z);omega⟩,⟨j.inv.pos,j.inv.rq,j.inv.im,by have:=j.inv.ep;simp;omega,j.inv.st,j.inv.ex⟩,zbJ j.tok (o V (zan j.tok).1 fun e=>j.gt_free (.inr (.inr (.inl e)))),j.few,Nat.le_trans j.base (by have:=D.size;omega)⟩,?_⟩
 refine⟨D.os.trans (M.os.trans Q.os),D.tape.trans (M.tape.trans Q.tape),D.output.trans (M.output.trans Q.output),Nat.le_trans (Nat.le_trans U K) D.size,fun k z Z=>o k z fun e=>Z (.inr (.inr (.inl e))),fun k z=>?_⟩
 rcases z with h|h|h|h|h|h
 ·exact .inl (.inl h)
 ·exact .inl (.inr (.inl h))
 ·exact H.elim (fun e=>.inl (.inr (.inr (.inl (e.symm.trans h))))) fun e=>.inr (by have:W.heap.size=k:=Option.some.inj (e.symm.trans h);omega)
 ·exact .inl (.inr (.inr (.inr (.inl h))))
 ·exact .inl (.inr (.inr (.inr (.inr (.inl h)))))
 ·exact .inl (.inr (.inr (.inr (.inr (.inr h)))))
theorem Mem.grow_st {C:Cx} {V O E:Nat} {S:Sv} {q:PS} {w W X I:World} (j:Mem C V O E S q w) (Q:Below w.heap.size w W) (M:W.grownBy X S.st.blk) {H:Rw} {x:Sm} (hr:OwnR X E 79 3 H (q.st.length+1) (q.st.flatMap smL++smL x)) (J:H.blk=S.st.blk∨H.blk=some W.heap.size) (D:Off w.heap.size W.heap.size X I) (Z:q.st.length<80):
  Mem C V O E {S with st:=H} {q with st:=q.st++[x]} I∧Stp S w {S with st:=H} I:=by
 have U:=Q.size
 have K:=M.size
 have o: ∀k,k<w.heap.size→S.st.blk≠some k→I.heap[k]? =w.heap[k]?:=fun k z Y=>
  (D.block k (.inl z)).trans ((M.block k (by omega) fun e=>Y e.symm).trans (Q.block k z))
 have L:OwnR I E 79 3 H (q.st.length+1) (q.st.flatMap smL++smL x):=hr.keep fun k z=>D.block k (by
  rcases J with e|e
  ·rw[e] at z
   exact .inl (j.own.st.typed z).2.1
  ·rw[e] at z
   obtain rfl:=Option.some.inj z
   exact .inr ⟨Nat.le_refl _,(hr.typed e).2.1⟩)
 have N:(q.st++[x]).length=q.st.length+1:=by simp
 refine⟨⟨⟨j.own.rq.keep fun k z=>o k (j.own.rq.typed z).2.1 (j.own.rq.ne j.own.st (by decide) z),j.own.im.keep fun k z=>o k (j.own.im.typed z).2.1 (j.own.im.ne j.own.st (by decide) z),j.own.ep.keep fun k z=>o k (j.own.ep.typed z).2.1 (j.own.ep.ne j.own.st (by decide) z),by show OwnR I E 79 3 H (q.st++[x]).length _;rw[N];simpa using L,j.own.ex.keep fun k z=>o k (j.own.ex.typed z).2.1 (j.own.ex.ne j.own.st (by decide) z),j.own.la.keep fun k z=>o k (j.own.la.typed z).2.1 (j.own.la.ne j.own.st (by decide) z),j.own.apart⟩,⟨j.inv.pos,j.inv.rq,j.inv.im,j.inv.ep,by simp;omega,j.inv.ex⟩,zbJ j.tok (o V (zan j.tok).1 fun e=>j.gt_free (.inr (.inr (.inr (.inl e))))),j.few,Nat.le_trans j.base (by have:=D.size;omega)⟩,?_⟩
 refine⟨D.os.trans (M.os.trans Q.os),D.tape.trans (M.tape.trans Q.tape),D.output.trans (M.output.trans Q.output),Nat.le_trans (Nat.le_trans U K) D.size,fun k z Z=>o k z fun e=>Z (.inr (.inr (.inr (.inl e)))),fun k z=>?_⟩
 rcases z with h|h|h|h|h|h
 ·exact .inl (.inl h)
 ·exact .inl (.inr (.inl h))
 ·exact .inl (.inr (.inr (.inl h)))
 ·exact J.elim (fun e=>.inl (.inr (.inr (.inr (.inl (e.symm.trans h)))))) fun e=>.inr (by have:W.heap.size=k:=Option.some.inj (e.symm.trans h);omega)
 ·exact .inl (.inr (.inr (.inr (.inr (.inl h)))))
 ·exact .inl (.inr (.inr (.inr (.inr (.inr h)))))
theorem Mem.grow_ex {C:Cx} {V O E:Nat} {S:Sv} {q:PS} {w W X I:World} (j:Mem C V O E S q w) (Q:Below w.heap.size w W) (M:W.grownBy X S.ex.blk) {H:Rw} {x:Ex} (hr:OwnR X E 81 6 H (q.ex.length+1) (q.ex.flatMap exL++exL x)) (J:H.blk=S.ex.blk∨H.blk=some W.heap.size) (D:Off w.heap.size W.heap.size X I) (Z:q.ex.length<300):
  Mem C V O E {S with ex:=H} {q with ex:=q.ex++[x]} I∧Stp S w {S with ex:=H} I:=by
 have U:=Q.size
 have K:=M.size
 have o: ∀k,k<w.heap.size→S.ex.blk≠some k→I.heap[k]? =w.heap[k]?:=fun k z Y=>
  (D.block k (.inl z)).trans ((M.block k (by omega) fun e=>Y e.symm).trans (Q.block k z))
 have L:OwnR I E 81 6 H (q.ex.length+1) (q.ex.flatMap exL++exL x):=hr.keep fun k z=>D.block k (by
  rcases J with e|e
  ·rw[e] at z
   exact .inl (j.own.ex.typed z).2.1
  ·rw[e] at z
   obtain rfl:=Option.some.inj z
   exact .inr ⟨Nat.le_refl _,(hr.typed e).2.1⟩)
 have N:(q.ex++[x]).length=q.ex.length+1:=by simp
 refine⟨⟨⟨j.own.rq.keep fun k z=>o k (j.own.rq.typed z).2.1 (j.own.rq.ne j.own.ex (by decide) z),j.own.im.keep fun k z=>o k (j.own.im.typed z).2.1 (j.own.im.ne j.own.ex (by decide) z),j.own.ep.keep fun k z=>o k (j.own.ep.typed z).2.1 (j.own.ep.ne j.own.ex (by decide) z),j.own.st.keep fun k z=>o k (j.own.st.typed z).2.1 (j.own.st.ne j.own.ex (by decide) z),by show OwnR I E 81 6 H (q.ex++[x]).length _;rw[N];simpa using L,j.own.la.keep fun k z=>o k (j.own.la.typed z).2.1 (j.own.la.ne j.own.ex (by decide) z),j.own.apart⟩,⟨j.inv.pos,j.inv.rq,j.inv.im,j.inv.ep,j.inv.st,by simp;omega⟩,zbJ j.tok (o V (zan j.tok).1 fun e=>j.gt_free (.inr (.inr (.inr (.inr (.inl e)))))),j.few,Nat.le_trans j.base (by have:=D.size;omega)⟩,?_⟩
 refine⟨D.os.trans (M.os.trans Q.os),D.tape.trans (M.tape.trans Q.tape),D.output.trans (M.output.trans Q.output),Nat.le_trans (Nat.le_trans U K) D.size,fun k z Z=>o k z fun e=>Z (.inr (.inr (.inr (.inr (.inl e))))),fun k z=>?_⟩
 rcases z with h|h|h|h|h|h
 ·exact .inl (.inl h)
 ·exact .inl (.inr (.inl h))
 ·exact .inl (.inr (.inr (.inl h)))
 ·exact .inl (.inr (.inr (.inr (.inl h))))
 ·exact J.elim (fun e=>.inl (.inr (.inr (.inr (.inr (.inl (e.symm.trans h))))))) fun e=>.inr (by have:W.heap.size=k:=Option.some.inj (e.symm.trans h);omega)
 ·exact .inl (.inr (.inr (.inr (.inr (.inr h)))))
theorem Mem.grow_la {C:Cx} {V O E:Nat} {S:Sv} {q:PS} {w W X J:World} (j:Mem C V O E S q w) (Q:Below w.heap.size w W) (M:W.grownBy X S.la.blk) {I:Rw} {x:Ep} (hr:OwnR X E 77 4 I (q.la.length+1) (q.la.flatMap epL++epL x)) (H:I.blk=S.la.blk∨I.blk=some W.heap.size) (D:Off w.heap.size W.heap.size X J) (Z:q.ep.length+q.la.length<40):
  Mem C V O E {S with la:=I} {q with la:=q.la++[x]} J∧Stp S w {S with la:=I} J:=by
 have U:=Q.size
 have K:=M.size
 have o: ∀k,k<w.heap.size→S.la.blk≠some k→J.heap[k]? =w.heap[k]?:=fun k z Y=>
  (D.block k (.inl z)).trans ((M.block k (by omega) fun e=>Y e.symm).trans (Q.block k z))
 have L:OwnR J E 77 4 I (q.la.length+1) (q.la.flatMap epL++epL x):=hr.keep fun k z=>D.block k (by
  rcases H with e|e
  ·rw[e] at z
   exact .inl (j.own.la.typed z).2.1
  ·rw[e] at z
   obtain rfl:=Option.some.inj z
   exact .inr ⟨Nat.le_refl _,(hr.typed e).2.1⟩)
 have N:(q.la++[x]).length=q.la.length+1:=by simp
 refine⟨⟨⟨j.own.rq.keep fun k z=>o k (j.own.rq.typed z).2.1 (j.own.rq.ne j.own.la (by decide) z),j.own.im.keep fun k z=>o k (j.own.im.typed z).2.1 (j.own.im.ne j.own.la (by decide) z),j.own.ep.keep fun k z=>o k (j.own.ep.typed z).2.1 (fun e=>j.own.apart k z e),j.own.st.keep fun k z=>o k (j.own.st.typed z).2.1 (j.own.st.ne j.own.la (by decide) z),j.own.ex.keep fun k z=>o k (j.own.ex.typed z).2.1 (j.own.ex.ne j.own.la (by decide) z),by show OwnR J E 77 4 I (q.la++[x]).length _;rw[N];simpa using L,fun k z hl=>H.elim (fun e=>j.own.apart k z (by rw[←e];exact hl)) fun e=>by have h1:=(j.own.ep.typed z).2.1;have h2:W.heap.size=k:=Option.some.inj (e.symm.trans hl);omega⟩,⟨j.inv.pos,j.inv.rq,j.inv.im,by have:=j.inv.ep;simp;omega,j.inv.st,j.inv.ex⟩,zbJ j.tok (o V (zan j.tok).1 fun e=>j.gt_free (.inr (.inr (.inr (.inr (.inr e)))))),j.few,Nat.le_trans j.base (by have:=D.size;omega)⟩,?_⟩
 refine⟨D.os.trans (M.os.trans Q.os),D.tape.trans (M.tape.trans Q.tape),D.output.trans (M.output.trans Q.output),Nat.le_trans (Nat.le_trans U K) D.size,fun k z Z=>o k z fun e=>Z (.inr (.inr (.inr (.inr (.inr e))))),fun k z=>?_⟩
 rcases z with h|h|h|h|h|h
 ·exact .inl (.inl h)
 ·exact .inl (.inr (.inl h))
 ·exact .inl (.inr (.inr (.inl h)))
 ·exact .inl (.inr (.inr (.inr (.inl h))))
 ·exact .inl (.inr (.inr (.inr (.inr (.inl h)))))
 ·exact H.elim (fun e=>.inl (.inr (.inr (.inr (.inr (.inr (e.symm.trans h))))))) fun e=>.inr (by have:W.heap.size=k:=Option.some.inj (e.symm.trans h);omega)
abbrev PRN:=Except Nat (PS×ByteArray)
def za7 (y:PRN):PR:=bd y fun a=>.ok a.1
def withN (y:PRN) (F:PR→ByteArray→PR):PRN:=bd y fun a=>bd (F (.ok a.1) a.2) fun q=>.ok (q,a.2)
def zbA (C:Cx) (q:PS):PRN:=withN (bd (zd C 1 sLet q) (zk C false)) fun x n=>bd (bd (bd (bd x (zd C 4 cEq)) (pE C .sum 0)) (zd C 4 cSemi)) (zE C 1 n)
def fnP (C:Cx) (q:PS):PRN:=
 withN (bd (zd C 1 sFunction q) (zk C false)) fun x n=>bd (bd (bd (bd (bd (bd (bd (bd x (zd C 4 cOpen)) (zd C 4 zU)) (zd C 4 zF)) (zd C 1 zdw)) (pE C .sum 0)) (zd C 4 cSemi)) (zd C 4 zaJ)) (zE C 2 n)
def asP (C:Cx) (exp:Bool) (a:PS×ByteArray):PRN:=
 if isT C a.1.pos 1 sAs then zk C exp (adv a.1)
 else if (a.2.toList==[100,101,102,97,117,108,116])&& !exp then .error (zu C a.1.pos) else .ok a
abbrev PRL:=Except Nat (PS×List Ep)
def zbK (C:Cx) (exp:Bool):Nat→PS→List Ep→PRL
 |0,_,_=>.error 0
 |f+1,q,acc=>bd (zk C true q) fun a=>bd (asP C exp a) fun b=>
  if isT C b.1.pos 4 zbv then zbK C exp f (adv b.1) (acc++[⟨0,b.2,a.2,sNone⟩]) else bd (zd C 4 zaJ b.1) fun q'=>.ok (q',acc++[⟨0,b.2,a.2,sNone⟩])
def zay (C:Cx) (exp:Bool) (q:PS) (acc:List Ep):PRL:=zbK C exp (C.ts.length-q.pos+1) q acc
def zbB (C:Cx) (exp:Bool) (q:PS):PRL:=bd (zd C 4 zF q) fun q'=>zay C exp q' []
def za2 (l:List Ep):Bool:=l.any fun x=>x.loc.toList==[100,101,102,97,117,108,116]
theorem zf6 {C:Cx} {j:Bool} {a b:PS×ByteArray} (h:asP C j a= .ok b):a.1.pos≤b.1.pos:=by
 unfold asP at h
 split at h
 ·obtain⟨rfl,_⟩:=zaX h
  show a.1.pos≤a.1.pos+1+1
  omega
 ·split at h
  ·cases h
  ·cases h
   exact Nat.le_refl _
theorem znR {C:Cx} {j:Bool} (f:Nat): ∀(g:Nat) (q:PS) (acc:List Ep),C.ts.length-q.pos<f→C.ts.length-q.pos<g→zbK C j f q acc=zbK C j g q acc:=by
 induction f with
 |zero=>intro g q acc h;omega
 |succ f D=>
  intro g q acc L N
  obtain⟨g,rfl⟩: ∃o,g=o+1:=⟨g-1,by omega⟩
  rw[zbK,zbK]
  refine zaf fun a I=>zaf fun b z=>?_
  split
  ·next J=>
   obtain⟨rfl,E⟩:=zaX I
   have H:=zf6 z
   have K:=za1 J (by decide)
   have M:=zed E
   simp only[zz] at H
   exact D g _ _ (by rw[zz];omega) (by rw[zz];omega)
  ·rfl
theorem zeM (C:Cx) (j:Bool) (q:PS) (acc:List Ep):zay C j q acc=bd (zk C true q) fun a=>bd (asP C j a) fun b=>
  if isT C b.1.pos 4 zbv then zay C j (adv b.1) (acc++[⟨0,b.2,a.2,sNone⟩]) else bd (zd C 4 zaJ b.1) fun q'=>.ok (q',acc++[⟨0,b.2,a.2,sNone⟩]):=by
 rw[zay,zbK]
 refine zaf fun a E=>zaf fun b o=>?_
 split
 ·next H=>
  obtain⟨rfl,z⟩:=zaX E
  have D:=zf6 o
  have I:=za1 H (by decide)
  have J:=zed z
  simp only[zz] at D
  exact znR _ _ _ _ (by rw[zz];omega) (by rw[zz];omega)
 ·rfl
def zK {α:Type} (f:α→PS→PR):List α→PR→PR
 |[],x=>x
 |a::l,x=>zK f l (bd x (f a))
def zbW (s:ByteArray) (e:Ep):Im:=⟨s,e.loc,e.name⟩
def zav (C:Cx) (x:PR):PRN:=bd (bd x (zd C 1 zH)) (zy C)
def zaD (C:Cx) (y:PRN):PRN:=bd y fun a=>bd (zd C 4 cSemi a.1) fun q=>.ok (q,a.2)
def za3 (C:Cx) (q:PS):PR:=
 bd (zd C 1 sImport q) fun q=>
  if isT C q.pos 4 zF then bd (zbB C false q) fun a=>bd (zaD C (zav C (.ok a.1))) fun b=>zK (fun e=>zX C (zbW b.2 e)) a.2 (.ok b.1)
  else if isT C q.pos 4 zp then bd (bd (bd (zd C 4 zp q) (zd C 1 sAs)) (zk C false)) fun a=>bd (zaD C (zav C (.ok a.1))) fun b=>zX C ⟨b.2,zp,a.2⟩ b.1
  else if plainB C q.pos false then bd (zk C false q) fun a=>bd (zaD C (zav C (.ok a.1))) fun b=>zX C ⟨b.2,sDefault,a.2⟩ b.1
  else bd (zy C q) fun a=>zd C 4 cSemi a.1
def zD (e:Ep):Ep:=⟨1,e.name,e.loc,sNone⟩
def zaj (s:ByteArray) (e:Ep):Ep:=⟨2,e.name,e.loc,s⟩
def zV (C:Cx) (q:PS):PR:=
 bd (zd C 1 sExport q) fun q=>
  if isT C q.pos 4 zF then bd (zbB C true q) fun a=>
   if !za2 a.2&& !isT C a.1.pos 1 zH then bd (zd C 4 cSemi a.1) fun q=>zK (fun e=>zm C (zD e)) a.2 (.ok q)
   else bd (zaD C (zav C (.ok a.1))) fun b=>zK (fun e=>zm C (zaj b.2 e)) a.2 (.ok b.1)
  else if isT C q.pos 4 zp then bd (zaD C (zav C (zd C 4 zp q))) fun b=>zm C ⟨3,sNone,sNone,b.2⟩ b.1
  else if isT C q.pos 1 sDefault then bd (bd (bd (bd (zd C 1 sDefault q) (pE C .sum 0)) (zd C 4 cSemi)) (zE C 1 zbp)) (zm C ⟨1,sDefault,zbp,sNone⟩)
  else if isT C q.pos 1 sLet then bd (zbA C q) fun a=>zm C ⟨1,a.2,a.2,sNone⟩ a.1
  else if isT C q.pos 1 sFunction then bd (fnP C q) fun a=>zm C ⟨1,a.2,a.2,sNone⟩ a.1
  else .error (zu C q.pos)
def zo (C:Cx) (q:PS):PR:=
 if !C.scr&&isT C q.pos 1 sImport then za3 C q
 else if !C.scr&&isT C q.pos 1 sExport then zV C q
 else if isT C q.pos 1 sLet then za7 (zbA C q)
 else if isT C q.pos 1 sFunction then za7 (fnP C q)
 else if isT C q.pos 1 sPrint then bd (bd (bd (bd (bd (zd C 1 sPrint q) (zd C 4 cOpen)) (pE C .sum 0)) (zd C 4 zU)) (zd C 4 cSemi)) (zE C 4 sNone)
 else if isT C q.pos 1 sThrow then bd (bd (bd (zd C 1 sThrow q) (pE C .sum 0)) (zd C 4 cSemi)) (zE C 5 sNone)
 else if C.scr&&isT C q.pos 1 sFail then bd (bd (bd (zd C 1 sFail q) (pE C .sum 0)) (zd C 4 cSemi)) (zE C 6 sNone)
 else bd (zk C false q) fun a=>bd (bd (bd (zd C 4 cEq a.1) (pE C .sum 0)) (zd C 4 cSemi)) (zE C 3 a.2)
theorem za4 {C:Cx} {k:Int} {s:ByteArray} {q q':PS} (h:zd C k s q= .ok q'):q.pos+1=q'.pos:=by
 obtain⟨rfl,_⟩:=zbh h
 rfl
theorem zeN {C:Cx} {o:Bool} {q:PS} {a:PS×ByteArray} (h:zk C o q= .ok a):q.pos+1=a.1.pos:=by
 obtain⟨rfl,_⟩:=zaX h
 rfl
theorem zj6 {C:Cx} {q:PS} {a:PS×ByteArray} (h:zy C q= .ok a):q.pos+1=a.1.pos:=by
 unfold zy at h
 split at h
 ·split at h
  ·cases h;rfl
  ·split at h
   ·cases h
   ·cases h;rfl
 ·cases h
theorem zeO {C:Cx} {k:Int} {n:ByteArray} {q q':PS} (h:zE C k n q= .ok q'):q.pos=q'.pos:=by
 unfold zE at h
 split at h
 ·cases h
 ·cases h;rfl
theorem zhH {C:Cx} {y:Im} {q q':PS} (h:zX C y q= .ok q'):q.pos=q'.pos:=by
 unfold zX at h
 split at h
 ·cases h
 ·cases h;rfl
theorem zeP {C:Cx} {y:Ep} {q q':PS} (h:zm C y q= .ok q'):q.pos=q'.pos:=by
 unfold zm at h
 split at h
 ·cases h
 ·split at h
  ·cases h;rfl
  ·cases h;rfl
theorem zhI {α:Type} {f:α→PS→PR} (z: ∀a q q',f a q= .ok q'→q.pos=q'.pos) (l:List α): ∀(x:PR) (q':PS),zK f l x= .ok q'→∃q,x= .ok q∧q.pos=q'.pos:=by
 induction l with
 |nil=>intro x q' h;exact⟨q',h,rfl⟩
 |cons a l j=>
  intro x q' h
  obtain⟨b,E,H⟩:=j _ _ h
  obtain⟨c,D,o⟩:=ze E
  exact⟨c,D,(z _ _ _ o).trans H⟩
theorem zj7 {C:Cx} {o:Bool} (m:Nat): ∀(q:PS) (acc:List Ep) (a:PS×List Ep),C.ts.length-q.pos<m→zay C o q acc= .ok a→q.pos≤a.1.pos:=by
 induction m with
 |zero=>intro q acc a h;omega
 |succ m z=>
  intro q acc a O h
  rw[zeM] at h
  obtain⟨b,I,L⟩:=ze h
  obtain⟨c,H,j⟩:=ze L
  have M:=zeN I
  have N:=zf6 H
  split at j
  ·next K=>
   have D:=za1 K (by decide)
   have:=z _ _ _ (by rw[zz];omega) j
   rw[zz] at this
   omega
  ·obtain⟨d,J,E⟩:=ze j
   have D:=za4 J
   cases E
   show q.pos≤d.pos
   omega
theorem zf7 {C:Cx} {x:PR} {b:PS×ByteArray} (h:zaD C (zav C x)= .ok b): ∃q,x= .ok q∧q.pos≤b.1.pos:=by
 obtain⟨a,E,J⟩:=ze h
 obtain⟨c,D,j⟩:=ze J
 obtain⟨d,H,o⟩:=ze E
 obtain⟨e,I,z⟩:=ze H
 have L:=za4 D
 have M:=zj6 o
 have K:=za4 z
 cases j
 exact⟨e,I,by show e.pos≤c.pos;omega⟩
theorem znS {C:Cx} {q q':PS} (h:za3 C q= .ok q'):q.pos<q'.pos:=by
 obtain⟨U,Q,D⟩:=ze h
 have V:=za4 Q
 split at D
 ·obtain⟨a,z,o⟩:=ze D
  obtain⟨b,J,H⟩:=ze o
  obtain⟨c,O,L⟩:=ze z
  obtain⟨d,N,E⟩:=zf7 J
  obtain⟨f,j,I⟩:=zhI (fun _ _ _ h=>zhH h) _ _ _ H
  have M:=za4 O
  have K:=zj7 _ _ _ _ (Nat.lt_succ_self _) L
  cases N
  cases j
  omega
 ·split at D
  ·obtain⟨a,z,o⟩:=ze D
   obtain⟨b,J,H⟩:=ze o
   obtain⟨c,O,L⟩:=ze z
   obtain⟨d,N,E⟩:=ze O
   obtain⟨f,j,I⟩:=zf7 J
   have M:=zhH H
   have K:=zeN L
   have Y:=za4 N
   have X:=za4 E
   cases j
   omega
  ·split at D
   ·obtain⟨a,z,o⟩:=ze D
    obtain⟨b,J,H⟩:=ze o
    obtain⟨f,j,I⟩:=zf7 J
    have M:=zhH H
    have K:=zeN z
    cases j
    omega
   ·obtain⟨a,z,o⟩:=ze D
    have M:=zj6 z
    have K:=za4 o
    omega
theorem zj8 {y:PRN} {F:PR→ByteArray→PR} {a:PS×ByteArray} (h:withN y F= .ok a): ∃b,y= .ok b∧F (.ok b.1) b.2= .ok a.1:=by
 obtain⟨b,z,o⟩:=ze h
 obtain⟨c,j,D⟩:=ze o
 cases D
 exact⟨b,z,j⟩
theorem zj9 {C:Cx} {q:PS} {a:PS×ByteArray} (h:zbA C q= .ok a):q.pos<a.1.pos:=by
 obtain⟨b,H,L⟩:=zj8 h
 obtain⟨c,E,o⟩:=ze H
 obtain⟨d,I,z⟩:=ze L
 obtain⟨f,K,D⟩:=ze I
 obtain⟨g,J,j⟩:=ze K
 have O:=za4 E
 have Q:=zeN o
 have N:=za4 (show zd C 4 cEq b.1= .ok g from J)
 have V:=zbr j
 have U:=za4 D
 have M:=zeO z
 omega
theorem zjA {C:Cx} {q:PS} {a:PS×ByteArray} (h:fnP C q= .ok a):q.pos<a.1.pos:=by
 obtain⟨b,h1,X⟩:=zj8 h
 obtain⟨c,Q,O⟩:=ze h1
 obtain⟨d,Z,Y⟩:=ze X
 obtain⟨f,V,M⟩:=ze Z
 obtain⟨g,U,D⟩:=ze V
 obtain⟨i,E,K⟩:=ze U
 obtain⟨j,J,L⟩:=ze E
 obtain⟨k,o,H⟩:=ze J
 obtain⟨l,z,I⟩:=ze o
 have e1:=za4 Q
 have e2:=zeN O
 have e3:=za4 (show zd C 4 cOpen b.1= .ok l from z)
 have e4:=za4 I
 have e5:=za4 H
 have e6:=za4 L
 have e7:=zbr K
 have e8:=za4 D
 have e9:=za4 M
 have N:=zeO Y
 omega
theorem znT {C:Cx} {q q':PS} (h:zV C q= .ok q'):q.pos<q'.pos:=by
 obtain⟨Y,U,j⟩:=ze h
 have Z:=za4 U
 split at j
 ·obtain⟨a,E,o⟩:=ze j
  obtain⟨c,N,M⟩:=ze E
  have L:=za4 N
  have K:=zj7 _ _ _ _ (Nat.lt_succ_self _) M
  split at o
  ·obtain⟨b,I,H⟩:=ze o
   obtain⟨f,D,O⟩:=zhI (fun _ _ _ h=>zeP h) _ _ _ H
   have Q:=za4 I
   cases D
   omega
  ·obtain⟨b,I,H⟩:=ze o
   obtain⟨d,J,z⟩:=zf7 I
   obtain⟨f,D,O⟩:=zhI (fun _ _ _ h=>zeP h) _ _ _ H
   cases J
   cases D
   omega
 ·split at j
  ·obtain⟨b,I,H⟩:=ze j
   obtain⟨d,J,z⟩:=zf7 I
   have L:=za4 J
   have K:=zeP H
   omega
  ·split at j
   ·obtain⟨a,E,o⟩:=ze j
    obtain⟨b,I,H⟩:=ze E
    obtain⟨c,N,M⟩:=ze I
    obtain⟨d,J,z⟩:=ze N
    have L:=za4 J
    have K:=zbr z
    have Q:=za4 M
    have V:=zeO H
    have X:=zeP o
    omega
   ·split at j
    ·obtain⟨a,E,o⟩:=ze j
     have L:=zj9 E
     have K:=zeP o
     omega
    ·split at j
     ·obtain⟨a,E,o⟩:=ze j
      have L:=zjA E
      have K:=zeP o
      omega
     ·cases j
theorem zjB {C:Cx} {s:ByteArray} {k:Int} {n:ByteArray} {q q':PS} (h:bd (bd (bd (zd C 1 s q) (pE C .sum 0)) (zd C 4 cSemi)) (zE C k n)= .ok q'):q.pos<q'.pos:=by
 obtain⟨a,D,H⟩:=ze h
 obtain⟨b,z,j⟩:=ze D
 obtain⟨c,E,o⟩:=ze z
 have J:=za4 E
 have K:=zbr o
 have I:=za4 j
 have L:=zeO H
 omega
theorem zgz {C:Cx} {q q':PS} (h:zo C q= .ok q'):q.pos<q'.pos:=by
 unfold zo at h
 split at h
 ·exact znS h
 ·split at h
  ·exact znT h
  ·split at h
   ·obtain⟨a,j,o⟩:=ze h
    cases o
    exact zj9 j
   ·split at h
    ·obtain⟨a,j,o⟩:=ze h
     cases o
     exact zjA j
    ·split at h
     ·obtain⟨a,j,o⟩:=ze h
      obtain⟨b,I,D⟩:=ze j
      obtain⟨c,J,E⟩:=ze I
      obtain⟨d,K,H⟩:=ze J
      obtain⟨e,Q,z⟩:=ze K
      have M:=za4 Q
      have N:=za4 z
      have L:=zbr H
      have U:=za4 E
      have O:=za4 D
      have V:=zeO o
      omega
     ·split at h
      ·exact zjB h
      ·split at h
       ·exact zjB h
       ·obtain⟨a,j,o⟩:=ze h
        obtain⟨b,I,D⟩:=ze o
        obtain⟨c,J,E⟩:=ze I
        obtain⟨d,K,H⟩:=ze J
        have M:=zeN j
        have N:=za4 K
        have L:=zbr H
        have U:=za4 E
        have O:=zeO D
        omega
def zbL (C:Cx):Nat→PS→PR
 |0,_=>.error 0
 |f+1,q=>if q.pos<C.ts.length then bd (zo C q) (zbL C f) else .ok q
def zM (C:Cx) (q:PS):PR:=zbL C (C.ts.length-q.pos+1) q
theorem znU {C:Cx} (f:Nat): ∀(g:Nat) (q:PS),C.ts.length-q.pos<f→C.ts.length-q.pos<g→zbL C f q=zbL C g q:=by
 induction f with
 |zero=>intro g q h;omega
 |succ f o=>
  intro g q D E
  obtain⟨g,rfl⟩: ∃j,g=j+1:=⟨g-1,by omega⟩
  rw[zbL,zbL]
  split
  ·refine zaf fun a z=>?_
   have:=zgz z
   exact o g a (by omega) (by omega)
  ·rfl
theorem zeQ (C:Cx) (q:PS):zM C q=if q.pos<C.ts.length then bd (zo C q) (zM C) else .ok q:=by
 rw[zM,zbL]
 split
 ·refine zaf fun a j=>?_
  have:=zgz j
  exact znU _ _ _ (by omega) (by omega)
 ·rfl
def startP:PS:=⟨0,[],[],[],[],[],[]⟩
def za8 (s:ByteArray) (scr:Bool) (y:PR):Prop:=∃r,zY s scr r∧y=match r with
 | .error p=>.error p
 | .ok ts=>zM ⟨ts,s.size,scr⟩ startP
theorem zdy {s:ByteArray} {scr:Bool} {o j:PR} (z:za8 s scr o) (D:za8 s scr j):o=j:=by
 obtain⟨I,E,rfl⟩:=z
 obtain⟨J,H,rfl⟩:=D
 obtain rfl:=zh5 E H
 rfl
theorem znV {s:ByteArray} {scr:Bool} {a n:Nat} {r:Except Nat (List Tk)} (h:Lx s scr a n r): ∀o,r= .ok o→n≤4000→o.length+n≤4000:=by
 induction h using Lx.ind with
 |done=>intro o z D;cases z;simpa using D
 |bad _ _=>intro o z D;cases z
 | @tok a n e b t r h D I H z E=>
  intro o j _
  cases r with
  |error p=>simp[Except.map] at j
  |ok l=>
   simp only[Except.map,Except.ok.injEq] at j
   subst j
   have:=E l rfl (by omega)
   simp only[List.length_cons]
   omega
theorem zg0 {s:ByteArray} {scr:Bool} {j:List Tk} (h:zY s scr (.ok j)):j.length≤4000:=by
 obtain⟨a,_,o⟩:=h
 have:=znV o j rfl (by omega)
 omega
def R0:Rw:=⟨none,0⟩
def S0:Sv:=⟨R0,R0,R0,R0,R0,R0⟩
theorem zeR (w:World) (j size:Nat) (e:TypeId):OwnR w j e size R0 0 []:=World.ownsRow_nil w j e size
theorem znW (w:World) (j:Nat):Own w j S0 startP:=
 ⟨zeR _ _ _ _,zeR _ _ _ _,zeR _ _ _ _,zeR _ _ _ _,zeR _ _ _ _,zeR _ _ _ _,fun k h=>by simp[S0,R0,Rw.blk,Value.ownBlock] at h⟩
theorem zjC {w:World} {j g o:Nat} {z:List Tk} {n:Nat} {scr:Bool} (h:OwnT w j 40 g z.length o z) (E:z.length≤4000) (D:j≤w.heap.size):Mem ⟨z,n,scr⟩ g o j S0 startP w:=
 ⟨znW _ _,⟨Nat.zero_le _,Nat.zero_le _,Nat.zero_le _,Nat.zero_le _,Nat.zero_le _,Nat.zero_le _⟩,h,E,D⟩
structure OwnMod (w:World) (base:Nat) (S:Sv) (q:PS):Prop where
 rq:OwnR w base 9 1 S.rq q.rq.length (q.rq.map .string)
 im:OwnR w base 75 3 S.im q.im.length (q.im.flatMap imL)
 ep:OwnR w base 77 4 S.ep (q.ep++q.la).length ((q.ep++q.la).flatMap epL)
 st:OwnR w base 79 3 S.st q.st.length (q.st.flatMap smL)
 ex:OwnR w base 81 6 S.ex q.ex.length (q.ex.flatMap exL)
 inv:q.rq.length≤40∧q.im.length≤40∧q.ep.length+q.la.length≤40∧q.st.length≤80∧q.ex.length≤300
def zg1 (S:Sv) (q:PS):Value:=.agg #[.slice S.rq.a q.rq.length S.rq.cap,.slice S.im.a q.im.length S.im.cap,.slice S.ep.a (q.ep++q.la).length S.ep.cap,.slice S.st.a q.st.length S.st.cap,.slice S.ex.a q.ex.length S.ex.cap]
def ParseOut (s:ByteArray) (scr:Bool) (w:World) (e:Ending) (w':World):Prop:=
 ∃y,za8 s scr y∧match y with
  | .ok q=>∃S,e= .returned (.tuple #[zg1 S q,.int .i64 (-1)])∧OwnMod w' w.heap.size S q
  | .error p=>e= .returned (.tuple #[.agg #[.slice none 0 0,.slice none 0 0,.slice none 0 0,.slice none 0 0,.slice none 0 0],.int .i64 p])
theorem OwnR.low {w:World} {o j size n:Nat} {e:TypeId} {r:Rw} {xs:List Value} (h:OwnR w o e size r n xs) (H:j≤o):OwnR w j e size r n xs:=by
 refine⟨h.1,?_⟩
 rcases h.2 with D|⟨g,E,z,D,I,rest⟩
 ·exact .inl D
 ·exact .inr ⟨g,E,z,D,Nat.le_trans H I,rest⟩
theorem OwnR.nil_or {w:World} {o size n:Nat} {e:TypeId} {r:Rw} {xs:List Value} (h:OwnR w o e size r n xs):(r.a=none∧r.cap=0∧n=0)∨∃g,r.a=some ⟨g,0,none⟩:=by
 rcases h.2 with ⟨j,D⟩|⟨g,E,z,j,_⟩
 ·simp only[Value.slice.injEq] at j
  exact .inl ⟨j.1,j.2.2,D⟩
 ·simp only[Value.slice.injEq] at j
  exact .inr ⟨g,j.1⟩
theorem znX {P:Program} (W:World) {U:Array Oper} {rest:List Oper} {o:Oper} {a:Act} {Q:Exit→Act→World→Prop} (aa:o.guard=none) (s x:Operand) (t:TypeId)
  (ho:o.op= .call {callee:=.builtin .append,args:=#[s,x],argTypes:=#[t,t]})
  (H:Nat) (e:TypeId) (i:TypeInfo) (z:Value) (size D:Nat) (ht:P.underlying t=some (.slice e)) (hi:P.info? e=some i) (hz:i.zero=some z) (L:i.size=size) (ad:i.bytes=D) (af:z.cells.size=size) (ab:0<size) (N:D≤100)
  (r:Rw) (n:Nat) (xs:List Value) (hs:a.eval s= .slice r.a n r.cap) (O:OwnR W H e size r n xs)
  (X m c K:Nat) (E:List Value) (hx:a.eval x= .slice (some ⟨X,0,none⟩) m c) (hg:OwnR W K e size ⟨some ⟨X,0,none⟩,c⟩ m E) (h1: ∀u∈E,u.oneCell'=true) (hn:n+m≤1000000) (J:H≤W.heap.size)
  (h: ∀Y M,OwnR M H e size Y (n+m) (xs++E)→W.grownBy M r.blk→(Y.blk=r.blk∨Y.blk=some W.heap.size)→wpList P U Q rest (a.put o.dst (.slice Y.a (n+m:Nat) Y.cap)) M):
  wpList P U Q (o::rest) a W:=by
 refine wpList_append_own_at _ aa s x t ho H e i z size D ht hi hz L ad af ab _ n _ hs O ⟨X,0,none⟩ m c E hx hg.1 ?_ h1 ?_ ?_ J ?_
 ·intro j u hj
  have e1:(⟨X,0,none⟩:Addr).add j=⟨X,j,none⟩:=by simp[Addr.add];exact fun h=>h.symm
  have ac:j<E.length:=(List.getElem?_eq_some_iff.1 hj).1
  rw[e1,World.ownsRow.cellAt hg j (by rw[←hg.1];exact ac)]
  exact hj
 ·unfold maxLen;omega
 ·have:(n+m)*D≤1000000*100:=Nat.mul_le_mul hn N
  omega
 ·intro v' M Z k2 k3 k4
  rcases Z.2 with ⟨hv,V⟩|⟨g',I,ag,rfl,ae⟩
  ·subst hv
   have:=h ⟨none,0⟩ M (by rw[V] at Z ⊢;exact Z) (by rw[←zb9 r n];exact k2) (by rw[←zb9 r n];exact k4)
   rw[V] at this
   exact this
  ·refine h ⟨some ⟨g',0,none⟩,I⟩ M Z ?_ ?_
   ·rw[←zb9 r n];exact k2
   ·rw[←zb9 r n,←zb9 ⟨some ⟨g',0,none⟩,I⟩ (n+m)];exact k4
theorem znY {P:Program} (W:World) {j:Array Oper} {rest:List Oper} {o:Oper} {a:Act} {Q:Exit→Act→World→Prop} (E:o.guard=none) (s x:Operand) (t:TypeId)
  (O:o.op= .call {callee:=.builtin .append,args:=#[s,x],argTypes:=#[t,t]})
  (e:TypeId) (i:TypeInfo) (J:P.underlying t=some (.slice e)) (I:P.info? e=some i) (z size n:Nat)
  (r:Rw) (xs:List Value) (X:a.eval s= .slice r.a n r.cap) (D:OwnR W z e size r n xs) (V:a.eval x= .slice none 0 0)
  (h:wpList P j Q rest (a.put o.dst (.slice r.a n r.cap)) W):wpList P j Q (o::rest) a W:=by
 have M:(Builtin.append_ #[t,t] o.type #[.slice r.a n r.cap,.slice none 0 0]).run P W= .ok (.slice r.a n r.cap) W:=by
  rcases D.2 with ⟨H,_⟩|⟨g,U,L,H,_,_,N,_⟩
  ·rw[H]
   simp[Builtin.append_,run_underlying J,sizeOf,typeInfo,I,Builtin.lenOf,Builtin.firstCells]
  ·rw[H]
   simp[Builtin.append_,run_underlying J,sizeOf,typeInfo,I,Builtin.lenOf,Builtin.firstCells,loadCells,N,storeCells]
 refine wpList_plain E fun K Y=>?_
 unfold Oper.wp execOp
 simp only[O,resolve,invoke,builtin,Sem.run_bind,Sem.run_pure,Result.andThen_ok,List.map_toArray,List.map_cons,List.map_nil,X,V,M]
 exact Y _ _ h
theorem zhJ (l:List Ep): ∀u∈l.flatMap epL,u.oneCell'=true:=by
 intro u j
 rw[List.mem_flatMap] at j
 obtain⟨x,_,o⟩:=j
 simp[epL] at o
 rcases o with rfl|rfl|rfl|rfl<;>rfl
theorem Mem.whole {C:Cx} {X M j b B:Nat} {S:Sv} {q:PS} {W L N:World} {I:Rw} (D:Mem C X M j S q W) (Y:W.grownBy L S.ep.blk) (U:OwnR L j 77 4 I (q.ep.length+q.la.length) (q.ep.flatMap epL++q.la.flatMap epL)) (J:I.blk=S.ep.blk∨I.blk=some W.heap.size) (hB:B<j) (hb:b<W.heap.size) (z: ¬S.has b)
  (Q: ∀k,k≠B→k≠b→N.heap[k]? =L.heap[k]?):OwnMod N B {S with ep:=I} q:=by
 have E:(q.ep++q.la).length=q.ep.length+q.la.length:=by simp
 have H: ∀(r:Rw) (e:TypeId) (o n:Nat) (O:List Value),OwnR W j e o r n O→e≠77→(∀k,r.blk=some k→S.has k)→OwnR N B e o r n O:=fun r e o n O h Z V=>
  ((h.keep fun k g=>(Q k (by have:=(h.typed g).1;omega) (fun K=>z (by rw[←K];exact V k g))).trans (Y.block k (h.typed g).2.1 fun e'=>(h.ne D.own.ep Z g) e'.symm)).low (by omega))
 refine⟨H _ _ _ _ _ D.own.rq (by decide) fun k g=>.inl g,H _ _ _ _ _ D.own.im (by decide) fun k g=>.inr (.inl g),?_,H _ _ _ _ _ D.own.st (by decide) fun k g=>.inr (.inr (.inr (.inl g))),H _ _ _ _ _ D.own.ex (by decide) fun k g=>.inr (.inr (.inr (.inr (.inl g)))),D.inv.rq,D.inv.im,D.inv.ep,D.inv.st,D.inv.ex⟩
 rw[E,List.flatMap_append]
 refine (U.keep fun k g=>Q k (by have:=(U.typed g).1;omega) ?_).low (by omega)
 rcases J with e|e
 ·intro K
  exact z (by rw[←K];exact .inr (.inr (.inl (by rw[←e];exact g))))
 ·have:W.heap.size=k:=Option.some.inj (e.symm.trans g)
  omega
theorem Mem.whole0 {C:Cx} {O I o b B:Nat} {S:Sv} {q:PS} {W J:World} (z:Mem C O I o S q W) (K:q.la=[]) (Q:B<o) (D: ¬S.has b)
  (M: ∀k,k≠B→k≠b→J.heap[k]? =W.heap[k]?):OwnMod J B S q:=by
 have E: ∀(r:Rw) (e:TypeId) (j n:Nat) (H:List Value),OwnR W o e j r n H→(∀k,r.blk=some k→S.has k)→OwnR J B e j r n H:=fun r e j n H h N=>
  ((h.keep fun k g=>M k (by have:=(h.typed g).1;omega) (fun L=>D (by rw[←L];exact N k g))).low (by omega))
 refine⟨E _ _ _ _ _ z.own.rq fun k g=>.inl g,E _ _ _ _ _ z.own.im fun k g=>.inr (.inl g),?_,E _ _ _ _ _ z.own.st fun k g=>.inr (.inr (.inr (.inl g))),E _ _ _ _ _ z.own.ex fun k g=>.inr (.inr (.inr (.inr (.inl g)))),z.inv.rq,z.inv.im,z.inv.ep,z.inv.st,z.inv.ex⟩
 rw[K,List.append_nil]
 exact E _ _ _ _ _ z.own.ep fun k g=>.inr (.inr (.inl g))
theorem zaa {w:World} {b:Nat} {t:TypeId} {E o z j D:Value} (h:w.heap[b]? =some (.cells #[E,o,z,j,D] t (0,0))):
  w.cell? ⟨b,0,none⟩=some E∧w.cell? ⟨b,1,none⟩=some o∧w.cell? ⟨b,2,none⟩=some z∧w.cell? ⟨b,3,none⟩=some j∧w.cell? ⟨b,4,none⟩=some D∧∀i,w.frozen? ⟨b,i,none⟩=false:=by
 refine⟨?_,?_,?_,?_,?_,fun i=>?_⟩<;>simp[World.cell?,World.frozen?,h]
theorem zbf {w:World} {b i:Nat} {cs:Array Value} {u:Value} {t:TypeId} (h:w.heap[b]? =some (.cells cs t (0,0))):(w.setCell ⟨b,i,none⟩ u).heap[b]? =some (.cells (cs.setIfInBounds i u) t (0,0)):=by
 simp only[World.setCell,Array.getElem?_modify]
 rw[if_pos trivial,h]
 rfl
theorem zei {w:World} {b:Nat} {L I K H J j D z E o:Value} {t:TypeId} (h:w.heap[b]? =some (.cells #[L,I,K,H,J] t (0,0))):
  (((((w.setCell ⟨b,0,none⟩ j).setCell ⟨b,1,none⟩ D).setCell ⟨b,2,none⟩ z).setCell ⟨b,3,none⟩ E).setCell ⟨b,4,none⟩ o).heap[b]? =some (.cells #[j,D,z,E,o] t (0,0)):=by
 have e:=zbf (i:=4) (u:=o) (zbf (i:=3) (u:=E) (zbf (i:=2) (u:=z) (zbf (i:=1) (u:=D) (zbf (i:=0) (u:=j) h))))
 rw[e]
 simp
theorem zej {B:Nat} {a w:World} {b:Nat} (h:Below B a w) (j:B≤b) (o E D H z:Value):Below B a (((((w.setCell ⟨b,0,none⟩ o).setCell ⟨b,1,none⟩ E).setCell ⟨b,2,none⟩ D).setCell ⟨b,3,none⟩ H).setCell ⟨b,4,none⟩ z):=
 ((((h.setCell j _).setCell j _).setCell j _).setCell j _).setCell j _
end Go.Proofs.YthfeoomfiafldaaGreat
