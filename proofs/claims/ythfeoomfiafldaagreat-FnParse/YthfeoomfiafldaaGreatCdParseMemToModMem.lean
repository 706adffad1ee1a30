/-
  A program under way in memory: its six rows,what a step leaves as it was. No program is spoken of but for the numbers of its types.
  One of the six rows of a program under way grows by one element: what holds behind it. No program is spoken of but for the numbers of its types.
  Items of programs,as plain functions. No program is spoken of.
  A whole program,as a plain function of its tokens: items one behind the other. No program is spoken of.
  A text has at most 4000 tokens. No program is spoken of.
  A program in memory,as Parse hands it back. No program is spoken of but for the numbers of its types.
-/
import Derived.Maps.AppendAt
import Derived.Test.YthfeoomfiafldaaGreatCdSpoilBaseToTokMem
namespace Go.Proofs.YthfeoomfiafldaaGreat
open Go.RowKit Go.PlainAid
def imL (x:Im):List Value:=[.string x.spec,.string x.first,.string x.loc]
def epL (x:Ep):List Value:=[.int .i64 x.kind,.string x.name,.string x.loc,.string x.spec]
def smL (x:Sm):List Value:=[.int .i64 x.kind,.string x.name,.int .i64 x.expr]
def exL (x:Ex):List Value:=[.int .i64 x.kind,.int .i64 x.num,.string x.name,.string x.field,.int .i64 x.l,.int .i64 x.r]
structure Rw where
 a:Option Addr
 cap:Nat
structure Sv where
 rq:Rw
 im:Rw
 ep:Rw
 st:Rw
 ex:Rw
 la:Rw
def Rw.blk (r:Rw):Option Nat:=(Value.slice r.a 0 r.cap).ownBlock
def Sv.has (S:Sv) (k:Nat):Prop:=S.rq.blk=some k∨S.im.blk=some k∨S.ep.blk=some k∨S.st.blk=some k∨S.ex.blk=some k∨S.la.blk=some k
def OwnR (w:World) (base:Nat) (e:TypeId) (size:Nat) (r:Rw) (n:Nat) (xs:List Value):Prop:=w.ownsRow base e size (.slice r.a n r.cap) n xs
theorem zb9 (r:Rw) (n:Nat):(Value.slice r.a n r.cap).ownBlock=r.blk:=by
 unfold Rw.blk Value.ownBlock
 cases r.a<;>rfl
structure Own (w:World) (base:Nat) (S:Sv) (q:PS):Prop where
 rq:OwnR w base 9 1 S.rq q.rq.length (q.rq.map .string)
 im:OwnR w base 75 3 S.im q.im.length (q.im.flatMap imL)
 ep:OwnR w base 77 4 S.ep q.ep.length (q.ep.flatMap epL)
 st:OwnR w base 79 3 S.st q.st.length (q.st.flatMap smL)
 ex:OwnR w base 81 6 S.ex q.ex.length (q.ex.flatMap exL)
 la:OwnR w base 77 4 S.la q.la.length (q.la.flatMap epL)
 apart: ∀k,S.ep.blk=some k→S.la.blk≠some k
theorem OwnR.typed {w:World} {j size n:Nat} {e:TypeId} {r:Rw} {xs:List Value} (h:OwnR w j e size r n xs) {k:Nat} (z:r.blk=some k):j≤k∧k<w.heap.size∧∃o,w.heap[k]? =some (.cells o e (0,0)):=by
 rcases h.2 with ⟨D,_⟩|⟨g,H,o,D,I,E,_⟩
 ·rw[←zb9 r n,D] at z
  simp[Value.ownBlock] at z
 ·rw[←zb9 r n,D] at z
  simp only[Value.ownBlock,Option.some.injEq] at z
  subst z
  exact⟨I,(Array.getElem?_eq_some_iff.1 E).1,o,E⟩
theorem OwnR.ne {w:World} {M b2 J X H U:Nat} {o E:TypeId} {z D:Rw} {Q K:List Value} (I:OwnR w M o J z H Q) (N:OwnR w b2 E X D U K) (V:o≠E) {k:Nat} (L:z.blk=some k):D.blk≠some k:=by
 intro h
 obtain⟨_,_,Y,O⟩:=I.typed L
 obtain⟨_,_,Z,j⟩:=N.typed h
 rw[O] at j
 simp only[Option.some.injEq,Obj.cells.injEq] at j
 exact V j.2.1
theorem OwnR.keep {w E:World} {j size n:Nat} {e:TypeId} {r:Rw} {xs:List Value} (h:OwnR w j e size r n xs) (H: ∀k,r.blk=some k→E.heap[k]? =w.heap[k]?):OwnR E j e size r n xs:=by
 refine⟨h.1,?_⟩
 rcases h.2 with o|⟨g,z,D,o,J,I,rest⟩
 ·exact .inl o
 ·refine .inr ⟨g,z,D,o,J,?_,rest⟩
  rw[H g (by rw[←zb9 r n,o];rfl)]
  exact I
theorem Own.keep {w z:World} {j:Nat} {S:Sv} {q:PS} (h:Own w j S q) (o: ∀k,S.has k→z.heap[k]? =w.heap[k]?):Own z j S q:=
 ⟨h.rq.keep fun k e=>o k (.inl e),h.im.keep fun k e=>o k (.inr (.inl e)),h.ep.keep fun k e=>o k (.inr (.inr (.inl e))),h.st.keep fun k e=>o k (.inr (.inr (.inr (.inl e)))),
  h.ex.keep fun k e=>o k (.inr (.inr (.inr (.inr (.inl e))))),h.la.keep fun k e=>o k (.inr (.inr (.inr (.inr (.inr e))))),h.apart⟩
theorem Own.has {w:World} {j:Nat} {S:Sv} {q:PS} (h:Own w j S q) {k:Nat} (o:S.has k):j≤k∧k<w.heap.size:=by
 rcases o with e|e|e|e|e|e
 ·exact⟨(h.rq.typed e).1,(h.rq.typed e).2.1⟩
 ·exact⟨(h.im.typed e).1,(h.im.typed e).2.1⟩
 ·exact⟨(h.ep.typed e).1,(h.ep.typed e).2.1⟩
 ·exact⟨(h.st.typed e).1,(h.st.typed e).2.1⟩
 ·exact⟨(h.ex.typed e).1,(h.ex.typed e).2.1⟩
 ·exact⟨(h.la.typed e).1,(h.la.typed e).2.1⟩
theorem Own.later {w o:World} {j:Nat} {S:Sv} {q:PS} (h:Own w j S q) (z:Below w.heap.size w o):Own o j S q:=h.keep fun k e=>z.block k (h.has e).2
theorem Own.other {w:World} {D:Nat} {S:Sv} {q:PS} (h:Own w D S q) {k:Nat} {E:Array Value} {e:TypeId} {z:Nat×Nat} (o:w.heap[k]? =some (.cells E e z)) (K:e≠9) (L:e≠75) (H:e≠77) (I:e≠79) (J:e≠81): ¬S.has k:=by
 rintro (g|g|g|g|g|g)
 ·obtain⟨_,_,c,j⟩:=h.rq.typed g
  rw[o] at j
  simp only[Option.some.injEq,Obj.cells.injEq] at j
  exact K j.2.1
 ·obtain⟨_,_,c,j⟩:=h.im.typed g
  rw[o] at j
  simp only[Option.some.injEq,Obj.cells.injEq] at j
  exact L j.2.1
 ·obtain⟨_,_,c,j⟩:=h.ep.typed g
  rw[o] at j
  simp only[Option.some.injEq,Obj.cells.injEq] at j
  exact H j.2.1
 ·obtain⟨_,_,c,j⟩:=h.st.typed g
  rw[o] at j
  simp only[Option.some.injEq,Obj.cells.injEq] at j
  exact I j.2.1
 ·obtain⟨_,_,c,j⟩:=h.ex.typed g
  rw[o] at j
  simp only[Option.some.injEq,Obj.cells.injEq] at j
  exact J j.2.1
 ·obtain⟨_,_,c,j⟩:=h.la.typed g
  rw[o] at j
  simp only[Option.some.injEq,Obj.cells.injEq] at j
  exact H j.2.1
structure Stp (S:Sv) (w:World) (S':Sv) (w':World):Prop where
 os:w'.os=w.os
 tape:w'.tape=w.tape
 output:w'.output=w.output
 size:w.heap.size≤w'.heap.size
 block: ∀k,k<w.heap.size→¬S.has k→w'.heap[k]? =w.heap[k]?
 sub: ∀k,S'.has k→S.has k∨w.heap.size≤k
theorem Stp.refl (S:Sv) (w:World):Stp S w S w:=⟨rfl,rfl,rfl,Nat.le_refl _,fun _ _ _=>rfl,fun _ h=>.inl h⟩
theorem Stp.trans {S E z:Sv} {w D H:World} (h:Stp S w E D) (k:Stp E D z H):Stp S w z H:=
 ⟨k.os.trans h.os,k.tape.trans h.tape,k.output.trans h.output,Nat.le_trans h.size k.size,
  fun i j o=>(k.block i (Nat.lt_of_lt_of_le j h.size) fun g=>(h.sub i g).elim o fun I=>by omega).trans (h.block i j o),
  fun i j=>(k.sub i j).elim (h.sub i) fun g=>.inr (Nat.le_trans h.size g)⟩
theorem Stp.below {S:Sv} {w j:World} (h:Below w.heap.size w j):Stp S w S j:=⟨h.os,h.tape,h.output,h.size,fun k o _=>h.block k o,fun _ g=>.inl g⟩
theorem Stp.under {S z:Sv} {w o:World} {j:Nat} {q:PS} (h:Stp S w z o) (H:j≤w.heap.size) (D:Own w j S q):Below j w o:=
 ⟨h.os,h.tape,h.output,h.size,fun k E=>h.block k (by omega) fun g=>by have:=(D.has g).1;omega⟩
theorem Stp.grown {S z:Sv} {w o:World} {row:Option Nat} (j:w.grownBy o row) (H: ∀k,row=some k→S.has k) (I: ∀k,z.has k→S.has k∨w.heap.size≤k):Stp S w z o:=
 ⟨j.os,j.tape,j.output,j.size,fun k E D=>j.block k E fun e=>D (H k e.symm),I⟩
structure Inv (C:Cx) (q:PS):Prop where
 pos:q.pos≤C.ts.length
 rq:q.rq.length≤40
 im:q.im.length≤40
 ep:q.ep.length+q.la.length≤40
 st:q.st.length≤80
 ex:q.ex.length≤300
structure Mem (C:Cx) (gt cap base:Nat) (S:Sv) (q:PS) (w:World):Prop where
 own:Own w base S q
 inv:Inv C q
 tok:OwnT w base 40 gt C.ts.length cap C.ts
 few:C.ts.length≤4000
 base:base≤w.heap.size
theorem Mem.later {C:Cx} {E o j:Nat} {S:Sv} {q:PS} {w D:World} (h:Mem C E o j S q w) (z:Below w.heap.size w D):Mem C E o j S q D:=
 ⟨h.own.later z,h.inv,zcn h.tok z,h.few,Nat.le_trans h.base z.size⟩
theorem Mem.alloc {C:Cx} {D z j:Nat} {S:Sv} {q:PS} {w:World} (h:Mem C D z j S q w) (o:Obj):Mem C D z j S q (w.alloc o):=h.later ((Below.refl _ _).alloc (Nat.le_refl _) _)
theorem Own.to {w:World} {j:Nat} {S:Sv} {q q':PS} (h:Own w j S q) (H:q'.rq=q.rq) (I:q'.im=q.im) (z:q'.ep=q.ep) (o:q'.st=q.st) (E:q'.ex=q.ex) (D:q'.la=q.la):Own w j S q':=
 ⟨by rw[H];exact h.rq,by rw[I];exact h.im,by rw[z];exact h.ep,by rw[o];exact h.st,by rw[E];exact h.ex,by rw[D];exact h.la,h.apart⟩
theorem Mem.adv {C:Cx} {z o j:Nat} {S:Sv} {q:PS} {w:World} (h:Mem C z o j S q w) (D:q.pos<C.ts.length):Mem C z o j S (adv q) w:=
 ⟨h.own.to rfl rfl rfl rfl rfl rfl,⟨D,h.inv.rq,h.inv.im,h.inv.ep,h.inv.st,h.inv.ex⟩,h.tok,h.few,h.base⟩
theorem OwnR.alloc {w:World} {j size n:Nat} {e:TypeId} {r:Rw} {xs:List Value} (h:OwnR w j e size r n xs) (o:Obj):OwnR (w.alloc o) j e size r n xs:=
 h.keep fun k z=>Below.heap_alloc w o k (h.typed z).2.1
theorem zgy {w:World} {o g n D:Nat} {e:TypeId} {H:List Tk} (h:OwnT w o e g n D H): ∃j,w.heap[g]? =some (.cells j e (0,0)):=by
 rcases h.1.2 with ⟨z,_⟩|⟨K,E,j,z,L,I,J,_⟩
 ·simp at z
 ·simp only[Value.slice.injEq,Option.some.injEq,Addr.mk.injEq,and_true,true_and] at z
  obtain⟨rfl,rfl⟩:=z
  exact⟨j,I⟩
theorem zbJ {w E:World} {j g n o:Nat} {e:TypeId} {I:List Tk} (h:OwnT w j e g n o I) (K:E.heap[g]? =w.heap[g]?):OwnT E j e g n o I:=by
 refine⟨⟨h.1.1,?_⟩,h.2⟩
 rcases h.1.2 with k|⟨N,H,D,J,z,M,L⟩
 ·exact .inl k
 ·simp only[Value.slice.injEq,Option.some.injEq,Addr.mk.injEq,and_true,true_and] at J
  obtain⟨rfl,rfl⟩:=J
  exact .inr ⟨g,o,D,rfl,z,K.trans M,L⟩
theorem Mem.gt_free {C:Cx} {z o j:Nat} {S:Sv} {q:PS} {w:World} (h:Mem C z o j S q w): ¬S.has z:=by
 obtain⟨E,D⟩:=zgy h.tok
 exact h.own.other D (by decide) (by decide) (by decide) (by decide) (by decide)
structure Off (lo hi:Nat) (w w':World):Prop where
 os:w'.os=w.os
 tape:w'.tape=w.tape
 output:w'.output=w.output
 size:w.heap.size≤w'.heap.size
 block: ∀k,k<lo∨hi≤k∧k<w.heap.size→w'.heap[k]? =w.heap[k]?
theorem Off.refl (j o:Nat) (w:World):Off j o w w:=⟨rfl,rfl,rfl,Nat.le_refl _,fun _ _=>rfl⟩
theorem Off.set {z o:Nat} {w j:World} (h:Off z o w j) {b:Nat} (E:z≤b) (H:b<o) (i:Nat) (u:Value):Off z o w (j.setCell ⟨b,i,none⟩ u):=
 ⟨h.os,h.tape,h.output,by show _≤(j.heap.modify _ _).size;simp;exact h.size,fun k D=>(Below.heap_setCell j ⟨b,i,none⟩ u k (by show k≠b;omega)).trans (h.block k D)⟩
theorem Off.below {z D:Nat} {w o E:World} (h:Off z D w o) (j:Below o.heap.size o E) (I:z≤w.heap.size):Off z D w E:=
 ⟨j.os.trans h.os,j.tape.trans h.tape,j.output.trans h.output,Nat.le_trans h.size j.size,fun k H=>(j.block k (by have:=h.size;omega)).trans (h.block k H)⟩
theorem Off.set12 {E D:Nat} {a w:World} (h:Off E D a w) {b:Nat} (j:E≤b) (o:b<D) (I V J O M Q K N L U H z:Value):
  Off E D a ((((((((((((w.setCell ⟨b,0,none⟩ I).setCell ⟨b,1,none⟩ V).setCell ⟨b,2,none⟩ J).setCell ⟨b,3,none⟩ O).setCell ⟨b,4,none⟩ M).setCell ⟨b,5,none⟩ Q).setCell ⟨b,6,none⟩ K).setCell ⟨b,7,none⟩ N).setCell ⟨b,8,none⟩ L).setCell ⟨b,9,none⟩ U).setCell ⟨b,10,none⟩ H).setCell ⟨b,11,none⟩ z):=
 (((((((((((h.set j o _ _).set j o _ _).set j o _ _).set j o _ _).set j o _ _).set j o _ _).set j o _ _).set j o _ _).set j o _ _).set j o _ _).set j o _ _).set j o _ _
theorem zcC {P:Program} (W:World) {U:Array Oper} {rest:List Oper} {o:Oper} {a:Act} {Q:Exit→Act→World→Prop} (Z:o.guard=none) (s x:Operand) (t:TypeId)
  (ho:o.op= .call {callee:=.builtin .append,args:=#[s,x],argTypes:=#[t,t]})
  (H:Nat) (e:TypeId) (i:TypeInfo) (z:Value) (size D:Nat) (ht:P.underlying t=some (.slice e)) (hi:P.info? e=some i) (hz:i.zero=some z) (J:i.size=size) (Y:i.bytes=D) (aa:z.cells.size=size) (ab:0<size) (M:D≤100)
  (r:Rw) (n:Nat) (xs:List Value) (hs:a.eval s= .slice r.a n r.cap) (O:OwnR W H e size r n xs)
  (V:Nat) (E:List Value) (hx:a.eval x= .slice (some ⟨V,0,none⟩) 1 1) (hg:W.heap[V]? =some (.cells E.toArray e (0,0))) (hl:E.length=size) (h1: ∀u∈E,u.oneCell'=true) (hn:n+1≤1000000) (K:H≤W.heap.size)
  (h: ∀N L,OwnR L H e size N (n+1) (xs++E)→W.grownBy L r.blk→(N.blk=r.blk∨N.blk=some W.heap.size)→wpList P U Q rest (a.put o.dst (.slice N.a (n+1) N.cap)) L):
  wpList P U Q (o::rest) a W:=by
 refine wpList_append_own_at _ Z s x t ho H e i z size D ht hi hz J Y aa ab _ n _ hs O ⟨V,0,none⟩ 1 1 E hx (by omega) ?_ h1 ?_ ?_ K ?_
 ·intro j u hj
  have:(⟨V,0,none⟩:Addr).add j=⟨V,j,none⟩:=by simp[Addr.add];exact fun h=>h.symm
  rw[this]
  simp[World.cell?,hg,hj]
 ·unfold maxLen;omega
 ·have:(n+1)*D≤1000000*100:=Nat.mul_le_mul hn M
  omega
 ·intro v' L k1 k2 k3 k4
  rcases k1.2 with ⟨hv,ad⟩|⟨g',I,ac,rfl,X⟩
  ·omega
  ·refine h ⟨some ⟨g',0,none⟩,I⟩ L k1 ?_ ?_
   ·rw[←zb9 r n];exact k2
   ·rw[←zb9 r n,←zb9 ⟨some ⟨g',0,none⟩,I⟩ (n+1)];exact k4
theorem Mem.grow_rq {C:Cx} {X Q E:Nat} {S:Sv} {q:PS} {w W U I:World} (j:Mem C X Q E S q w) (N:Below w.heap.size w W) (O:W.grownBy U S.rq.blk) {H:Rw} {x:ByteArray} (hr:OwnR U E 9 1 H (q.rq.length+1) (q.rq.map .string++[.string x])) (K:H.blk=S.rq.blk∨H.blk=some W.heap.size) (D:Off w.heap.size W.heap.size U I) (Z:q.rq.length<40):
  Mem C X Q E {S with rq:=H} {q with rq:=q.rq++[x]} I∧Stp S w {S with rq:=H} I:=by
 have Y:=N.size
 have M:=O.size
 have o: ∀k,k<w.heap.size→S.rq.blk≠some k→I.heap[k]? =w.heap[k]?:=fun k z V=>
  (D.block k (.inl z)).trans ((O.block k (by omega) fun e=>V e.symm).trans (N.block k z))
 have L:OwnR I E 9 1 H (q.rq.length+1) (q.rq.map .string++[.string x]):=hr.keep fun k z=>D.block k (by
  rcases K with e|e
  ·rw[e] at z
   exact .inl (j.own.rq.typed z).2.1
  ·rw[e] at z
   obtain rfl:=Option.some.inj z
   exact .inr ⟨Nat.le_refl _,(hr.typed e).2.1⟩)
 have J:(q.rq++[x]).length=q.rq.length+1:=by simp
 refine⟨⟨⟨by show OwnR I E 9 1 H (q.rq++[x]).length _;rw[J];simpa using L,j.own.im.keep fun k z=>o k (j.own.im.typed z).2.1 (j.own.im.ne j.own.rq (by decide) z),j.own.ep.keep fun k z=>o k (j.own.ep.typed z).2.1 (j.own.ep.ne j.own.rq (by decide) z),j.own.st.keep fun k z=>o k (j.own.st.typed z).2.1 (j.own.st.ne j.own.rq (by decide) z),j.own.ex.keep fun k z=>o k (j.own.ex.typed z).2.1 (j.own.ex.ne j.own.rq (by decide) z),j.own.la.keep fun k z=>o k (j.own.la.typed z).2.1 (j.own.la.ne j.own.rq (by decide) z),j.own.apart⟩,⟨j.inv.pos,by simp;omega,j.inv.im,j.inv.ep,j.inv.st,j.inv.ex⟩,zbJ j.tok (o X (zan j.tok).1 fun e=>j.gt_free (.inl e)),j.few,Nat.le_trans j.base (by have:=D.size;omega)⟩,?_⟩
 refine⟨D.os.trans (O.os.trans N.os),D.tape.trans (O.tape.trans N.tape),D.output.trans (O.output.trans N.output),Nat.le_trans (Nat.le_trans Y M) D.size,fun k z Z=>o k z fun e=>Z (.inl e),fun k z=>?_⟩
 rcases z with h|h|h|h|h|h
 ·exact K.elim (fun e=>.inl (.inl (e.symm.trans h))) fun e=>.inr (by have:W.heap.size=k:=Option.some.inj (e.symm.trans h);omega)
 ·exact .inl (.inr (.inl h))
 ·exact .inl (.inr (.inr (.inl h)))
 ·exact .inl (.inr (.inr (.inr (.inl h))))
 ·exact .inl (.inr (.inr (.inr (.inr (.inl h)))))
 ·exact .inl (.inr (.inr (.inr (.inr (.inr h)))))
theorem Mem.grow_im {C:Cx} {X Q E:Nat} {S:Sv} {q:PS} {w W U I:World} (j:Mem C X Q E S q w) (N:Below w.heap.size w W) (O:W.grownBy U S.im.blk) {H:Rw} {x:Im} (hr:OwnR U E 75 3 H (q.im.length+1) (q.im.flatMap imL++imL x)) (K:H.blk=S.im.blk∨H.blk=some W.heap.size) (D:Off w.heap.size W.heap.size U I) (Z:q.im.length<40):
  Mem C X Q E {S with im:=H} {q with im:=q.im++[x]} I∧Stp S w {S with im:=H} I:=by
 have Y:=N.size
 have M:=O.size
 have o: ∀k,k<w.heap.size→S.im.blk≠some k→I.heap[k]? =w.heap[k]?:=fun k z V=>
  (D.block k (.inl z)).trans ((O.block k (by omega) fun e=>V e.symm).trans (N.block k z))
 have L:OwnR I E 75 3 H (q.im.length+1) (q.im.flatMap imL++imL x):=hr.keep fun k z=>D.block k (by
  rcases K with e|e
  ·rw[e] at z
   exact .inl (j.own.im.typed z).2.1
  ·rw[e] at z
   obtain rfl:=Option.some.inj z
   exact .inr ⟨Nat.le_refl _,(hr.typed e).2.1⟩)
 have J:(q.im++[x]).length=q.im.length+1:=by simp
 refine⟨⟨⟨j.own.rq.keep fun k z=>o k (j.own.rq.typed z).2.1 (j.own.rq.ne j.own.im (by decide) z),by show OwnR I E 75 3 H (q.im++[x]).length _;rw[J];simpa using L,j.own.ep.keep fun k z=>o k (j.own.ep.typed z).2.1 (j.own.ep.ne j.own.im (by decide) z),j.own.st.keep fun k z=>o k (j.own.st.typed z).2.1 (j.own.st.ne j.own.im (by decide) z),j.own.ex.keep fun k z=>o k (j.own.ex.typed z).2.1 (j.own.ex.ne j.own.im (by decide) z),j.own.la.keep fun k z=>o k (j.own.la.typed z).2.1 (j.own.la.ne j.own.im (by decide) z),j.own.apart⟩,⟨j.inv.pos,j.inv.rq,by simp;omega,j.inv.ep,j.inv.st,j.inv.ex⟩,zbJ j.tok (o X (zan j.tok).1 fun e=>j.gt_free (.inr (.inl e))),j.few,Nat.le_trans j.base (by have:=D.size;omega)⟩,?_⟩
 refine⟨D.os.trans (O.os.trans N.os),D.tape.trans (O.tape.trans N.tape),D.output.trans (O.output.trans N.output),Nat.le_trans (Nat.le_trans Y M) D.size,fun k z Z=>o k z fun e=>Z (.inr (.inl e)),fun k z=>?_⟩
 rcases z with h|h|h|h|h|h
 ·exact .inl (.inl h)
 ·exact K.elim (fun e=>.inl (.inr (.inl (e.symm.trans h)))) fun e=>.inr (by have:W.heap.size=k:=Option.some.inj (e.symm.trans h);omega)
 ·exact .inl (.inr (.inr (.inl h)))
 ·exact .inl (.inr (.inr (.inr (.inl h))))
 ·exact .inl (.inr (.inr (.inr (.inr (.inl h)))))
 ·exact .inl (.inr (.inr (.inr (.inr (.inr h)))))
theorem Mem.grow_ep {C:Cx} {X Q E:Nat} {S:Sv} {q:PS} {w W U J:World} (j:Mem C X Q E S q w) (N:Below w.heap.size w W) (O:W.grownBy U S.ep.blk) {H:Rw} {x:Ep} (hr:OwnR U E 77 4 H (q.ep.length+1) (q.ep.flatMap epL++epL x)) (I:H.blk=S.ep.blk∨H.blk=some W.heap.size) (D:Off w.heap.size W.heap.size U J) (Z:q.ep.length+q.la.length<40):
  Mem C X Q E {S with ep:=H} {q with ep:=q.ep++[x]} J∧Stp S w {S with ep:=H} J:=by
 have Y:=N.size
 have M:=O.size
 have o: ∀k,k<w.heap.size→S.ep.blk≠some k→J.heap[k]? =w.heap[k]?:=fun k z V=>
  (D.block k (.inl z)).trans ((O.block k (by omega) fun e=>V e.symm).trans (N.block k z))
 have L:OwnR J E 77 4 H (q.ep.length+1) (q.ep.flatMap epL++epL x):=hr.keep fun k z=>D.block k (by
  rcases I with e|e
  ·rw[e] at z
   exact .inl (j.own.ep.typed z).2.1
  ·rw[e] at z
   obtain rfl:=Option.some.inj z
   exact .inr ⟨Nat.le_refl _,(hr.typed e).2.1⟩)
 have K:(q.ep++[x]).length=q.ep.length+1:=by simp
 refine⟨⟨⟨j.own.rq.keep fun k z=>o k (j.own.rq.typed z).2.1 (j.own.rq.ne j.own.ep (by decide) z),j.own.im.keep fun k z=>o k (j.own.im.typed z).2.1 (j.own.im.ne j.own.ep (by decide) z),by show OwnR J E 77 4 H (q.ep++[x]).length _;rw[K];simpa using L,j.own.st.keep fun k z=>o k (j.own.st.typed z).2.1 (j.own.st.ne j.own.ep (by decide) z),j.own.ex.keep fun k z=>o k (j.own.ex.typed z).2.1 (j.own.ex.ne j.own.ep (by decide) z),j.own.la.keep fun k z=>o k (j.own.la.typed z).2.1 (fun e=>j.own.apart k e z),fun k z hl=>I.elim (fun e=>j.own.apart k (by rw[←e];exact z) hl) fun e=>by have h1:=(j.own.la.typed hl).2.1;have h2:W.heap.size=k:=Option.some.inj (e.symm.trans z);omega⟩,⟨j.inv.pos,j.inv.rq,j.inv.im,by have:=j.inv.ep;simp;omega,j.inv.st,j.inv.ex⟩,zbJ j.tok (o X (zan j.tok).1 fun e=>j.gt_free (.inr (.inr (.inl e)))),j.few,Nat.le_trans j.base (by have:=D.size;omega)⟩,?_⟩
 refine⟨D.os.trans (O.os.trans N.os),D.tape.trans (O.tape.trans N.tape),D.output.trans (O.output.trans N.output),Nat.le_trans (Nat.le_trans Y M) D.size,fun k z Z=>o k z fun e=>Z (.inr (.inr (.inl e))),fun k z=>?_⟩
 rcases z with h|h|h|h|h|h
 ·exact .inl (.inl h)
 ·exact .inl (.inr (.inl h))
 ·exact I.elim (fun e=>.inl (.inr (.inr (.inl (e.symm.trans h))))) fun e=>.inr (by have:W.heap.size=k:=Option.some.inj (e.symm.trans h);omega)
 ·exact .inl (.inr (.inr (.inr (.inl h))))
 ·exact .inl (.inr (.inr (.inr (.inr (.inl h)))))
 ·exact .inl (.inr (.inr (.inr (.inr (.inr h)))))
theorem Mem.grow_st {C:Cx} {X Q E:Nat} {S:Sv} {q:PS} {w W U I:World} (j:Mem C X Q E S q w) (N:Below w.heap.size w W) (O:W.grownBy U S.st.blk) {H:Rw} {x:Sm} (hr:OwnR U E 79 3 H (q.st.length+1) (q.st.flatMap smL++smL x)) (K:H.blk=S.st.blk∨H.blk=some W.heap.size) (D:Off w.heap.size W.heap.size U I) (Z:q.st.length<80):
  Mem C X Q E {S with st:=H} {q with st:=q.st++[x]} I∧Stp S w {S with st:=H} I:=by
 have Y:=N.size
 have M:=O.size
 have o: ∀k,k<w.heap.size→S.st.blk≠some k→I.heap[k]? =w.heap[k]?:=fun k z V=>
  (D.block k (.inl z)).trans ((O.block k (by omega) fun e=>V e.symm).trans (N.block k z))
 have L:OwnR I E 79 3 H (q.st.length+1) (q.st.flatMap smL++smL x):=hr.keep fun k z=>D.block k (by
  rcases K with e|e
  ·rw[e] at z
   exact .inl (j.own.st.typed z).2.1
  ·rw[e] at z
   obtain rfl:=Option.some.inj z
   exact .inr ⟨Nat.le_refl _,(hr.typed e).2.1⟩)
 have J:(q.st++[x]).length=q.st.length+1:=by simp
 refine⟨⟨⟨j.own.rq.keep fun k z=>o k (j.own.rq.typed z).2.1 (j.own.rq.ne j.own.st (by decide) z),j.own.im.keep fun k z=>o k (j.own.im.typed z).2.1 (j.own.im.ne j.own.st (by decide) z),j.own.ep.keep fun k z=>o k (j.own.ep.typed z).2.1 (j.own.ep.ne j.own.st (by decide) z),by show OwnR I E 79 3 H (q.st++[x]).length _;rw[J];simpa using L,j.own.ex.keep fun k z=>o k (j.own.ex.typed z).2.1 (j.own.ex.ne j.own.st (by decide) z),j.own.la.keep fun k z=>o k (j.own.la.typed z).2.1 (j.own.la.ne j.own.st (by decide) z),j.own.apart⟩,⟨j.inv.pos,j.inv.rq,j.inv.im,j.inv.ep,by simp;omega,j.inv.ex⟩,zbJ j.tok (o X (zan j.tok).1 fun e=>j.gt_free (.inr (.inr (.inr (.inl e))))),j.few,Nat.le_trans j.base (by have:=D.size;omega)⟩,?_⟩
 refine⟨D.os.trans (O.os.trans N.os),D.tape.trans (O.tape.trans N.tape),D.output.trans (O.output.trans N.output),Nat.le_trans (Nat.le_trans Y M) D.size,fun k z Z=>o k z fun e=>Z (.inr (.inr (.inr (.inl e)))),fun k z=>?_⟩
 rcases z with h|h|h|h|h|h
 ·exact .inl (.inl h)
 ·exact .inl (.inr (.inl h))
 ·exact .inl (.inr (.inr (.inl h)))
 ·exact K.elim (fun e=>.inl (.inr (.inr (.inr (.inl (e.symm.trans h)))))) fun e=>.inr (by have:W.heap.size=k:=Option.some.inj (e.symm.trans h);omega)
 ·exact .inl (.inr (.inr (.inr (.inr (.inl h)))))
 ·exact .inl (.inr (.inr (.inr (.inr (.inr h)))))
theorem Mem.grow_ex {C:Cx} {X Q E:Nat} {S:Sv} {q:PS} {w W U I:World} (j:Mem C X Q E S q w) (N:Below w.heap.size w W) (O:W.grownBy U S.ex.blk) {H:Rw} {x:Ex} (hr:OwnR U E 81 6 H (q.ex.length+1) (q.ex.flatMap exL++exL x)) (K:H.blk=S.ex.blk∨H.blk=some W.heap.size) (D:Off w.heap.size W.heap.size U I) (Z:q.ex.length<300):
  Mem C X Q E {S with ex:=H} {q with ex:=q.ex++[x]} I∧Stp S w {S with ex:=H} I:=by
 have Y:=N.size
 have M:=O.size
 have o: ∀k,k<w.heap.size→S.ex.blk≠some k→I.heap[k]? =w.heap[k]?:=fun k z V=>
  (D.block k (.inl z)).trans ((O.block k (by omega) fun e=>V e.symm).trans (N.block k z))
 have L:OwnR I E 81 6 H (q.ex.length+1) (q.ex.flatMap exL++exL x):=hr.keep fun k z=>D.block k (by
  rcases K with e|e
  ·rw[e] at z
   exact .inl (j.own.ex.typed z).2.1
  ·rw[e] at z
   obtain rfl:=Option.some.inj z
   exact .inr ⟨Nat.le_refl _,(hr.typed e).2.1⟩)
 have J:(q.ex++[x]).length=q.ex.length+1:=by simp
 refine⟨⟨⟨j.own.rq.keep fun k z=>o k (j.own.rq.typed z).2.1 (j.own.rq.ne j.own.ex (by decide) z),j.own.im.keep fun k z=>o k (j.own.im.typed z).2.1 (j.own.im.ne j.own.ex (by decide) z),j.own.ep.keep fun k z=>o k (j.own.ep.typed z).2.1 (j.own.ep.ne j.own.ex (by decide) z),j.own.st.keep fun k z=>o k (j.own.st.typed z).2.1 (j.own.st.ne j.own.ex (by decide) z),by show OwnR I E 81 6 H (q.ex++[x]).length _;rw[J];simpa using L,j.own.la.keep fun k z=>o k (j.own.la.typed z).2.1 (j.own.la.ne j.own.ex (by decide) z),j.own.apart⟩,⟨j.inv.pos,j.inv.rq,j.inv.im,j.inv.ep,j.inv.st,by simp;omega⟩,zbJ j.tok (o X (zan j.tok).1 fun e=>j.gt_free (.inr (.inr (.inr (.inr (.inl e)))))),j.few,Nat.le_trans j.base (by have:=D.size;omega)⟩,?_⟩
 refine⟨D.os.trans (O.os.trans N.os),D.tape.trans (O.tape.trans N.tape),D.output.trans (O.output.trans N.output),Nat.le_trans (Nat.le_trans Y M) D.size,fun k z Z=>o k z fun e=>Z (.inr (.inr (.inr (.inr (.inl e))))),fun k z=>?_⟩
 rcases z with h|h|h|h|h|h
 ·exact .inl (.inl h)
 ·exact .inl (.inr (.inl h))
 ·exact .inl (.inr (.inr (.inl h)))
 ·exact .inl (.inr (.inr (.inr (.inl h))))
 ·exact K.elim (fun e=>.inl (.inr (.inr (.inr (.inr (.inl (e.symm.trans h))))))) fun e=>.inr (by have:W.heap.size=k:=Option.some.inj (e.symm.trans h);omega)
 ·exact .inl (.inr (.inr (.inr (.inr (.inr h)))))
theorem Mem.grow_la {C:Cx} {X Q E:Nat} {S:Sv} {q:PS} {w W U J:World} (j:Mem C X Q E S q w) (N:Below w.heap.size w W) (O:W.grownBy U S.la.blk) {H:Rw} {x:Ep} (hr:OwnR U E 77 4 H (q.la.length+1) (q.la.flatMap epL++epL x)) (I:H.blk=S.la.blk∨H.blk=some W.heap.size) (D:Off w.heap.size W.heap.size U J) (Z:q.ep.length+q.la.length<40):
  Mem C X Q E {S with la:=H} {q with la:=q.la++[x]} J∧Stp S w {S with la:=H} J:=by
 have Y:=N.size
 have M:=O.size
 have o: ∀k,k<w.heap.size→S.la.blk≠some k→J.heap[k]? =w.heap[k]?:=fun k z V=>
  (D.block k (.inl z)).trans ((O.block k (by omega) fun e=>V e.symm).trans (N.block k z))
 have L:OwnR J E 77 4 H (q.la.length+1) (q.la.flatMap epL++epL x):=hr.keep fun k z=>D.block k (by
  rcases I with e|e
  ·rw[e] at z
   exact .inl (j.own.la.typed z).2.1
  ·rw[e] at z
   obtain rfl:=Option.some.inj z
   exact .inr ⟨Nat.le_refl _,(hr.typed e).2.1⟩)
 have K:(q.la++[x]).length=q.la.length+1:=by simp
 refine⟨⟨⟨j.own.rq.keep fun k z=>o k (j.own.rq.typed z).2.1 (j.own.rq.ne j.own.la (by decide) z),j.own.im.keep fun k z=>o k (j.own.im.typed z).2.1 (j.own.im.ne j.own.la (by decide) z),j.own.ep.keep fun k z=>o k (j.own.ep.typed z).2.1 (fun e=>j.own.apart k z e),j.own.st.keep fun k z=>o k (j.own.st.typed z).2.1 (j.own.st.ne j.own.la (by decide) z),j.own.ex.keep fun k z=>o k (j.own.ex.typed z).2.1 (j.own.ex.ne j.own.la (by decide) z),by show OwnR J E 77 4 H (q.la++[x]).length _;rw[K];simpa using L,fun k z hl=>I.elim (fun e=>j.own.apart k z (by rw[←e];exact hl)) fun e=>by have h1:=(j.own.ep.typed z).2.1;have h2:W.heap.size=k:=Option.some.inj (e.symm.trans hl);omega⟩,⟨j.inv.pos,j.inv.rq,j.inv.im,by have:=j.inv.ep;simp;omega,j.inv.st,j.inv.ex⟩,zbJ j.tok (o X (zan j.tok).1 fun e=>j.gt_free (.inr (.inr (.inr (.inr (.inr e)))))),j.few,Nat.le_trans j.base (by have:=D.size;omega)⟩,?_⟩
 refine⟨D.os.trans (O.os.trans N.os),D.tape.trans (O.tape.trans N.tape),D.output.trans (O.output.trans N.output),Nat.le_trans (Nat.le_trans Y M) D.size,fun k z Z=>o k z fun e=>Z (.inr (.inr (.inr (.inr (.inr e))))),fun k z=>?_⟩
 rcases z with h|h|h|h|h|h
 ·exact .inl (.inl h)
 ·exact .inl (.inr (.inl h))
 ·exact .inl (.inr (.inr (.inl h)))
 ·exact .inl (.inr (.inr (.inr (.inl h))))
 ·exact .inl (.inr (.inr (.inr (.inr (.inl h)))))
 ·exact I.elim (fun e=>.inl (.inr (.inr (.inr (.inr (.inr (e.symm.trans h))))))) fun e=>.inr (by have:W.heap.size=k:=Option.some.inj (e.symm.trans h);omega)
abbrev PRN:=Except Nat (PS×ByteArray)
def za7 (y:PRN):PR:=bd y fun a=>.ok a.1
def withN (y:PRN) (F:PR→ByteArray→PR):PRN:=bd y fun a=>bd (F (.ok a.1) a.2) fun q=>.ok (q,a.2)
def zbA (C:Cx) (q:PS):PRN:=withN (bd (zd C 1 sLet q) (zk C false)) fun x n=>bd (bd (bd (bd x (zd C 4 cEq)) (pE C .sum 0)) (zd C 4 cSemi)) (zE C 1 n)
def fnP (C:Cx) (q:PS):PRN:=
 withN (bd (zd C 1 sFunction q) (zk C false)) fun x n=>bd (bd (bd (bd (bd (bd (bd (bd x (zd C 4 cOpen)) (zd C 4 zU)) (zd C 4 zF)) (zd C 1 zdw)) (pE C .sum 0)) (zd C 4 cSemi)) (zd C 4 zaJ)) (zE C 2 n)
def asP (C:Cx) (exp:Bool) (a:PS×ByteArray):PRN:=
 if isT C a.1.pos 1 sAs then zk C exp (adv a.1)
 else if (a.2.toList==[100,101,102,97,117,108,116])&& !exp then .error (zu C a.1.pos) else .ok a
abbrev PRL:=Except Nat (PS×List Ep)
def zbK (C:Cx) (exp:Bool):Nat→PS→List Ep→PRL
 |0,_,_=>.error 0
 |f+1,q,acc=>bd (zk C true q) fun a=>bd (asP C exp a) fun b=>
  if isT C b.1.pos 4 zbv then zbK C exp f (adv b.1) (acc++[⟨0,b.2,a.2,sNone⟩]) else bd (zd C 4 zaJ b.1) fun q'=>.ok (q',acc++[⟨0,b.2,a.2,sNone⟩])
def zay (C:Cx) (exp:Bool) (q:PS) (acc:List Ep):PRL:=zbK C exp (C.ts.length-q.pos+1) q acc
def zbB (C:Cx) (exp:Bool) (q:PS):PRL:=bd (zd C 4 zF q) fun q'=>zay C exp q' []
def za2 (l:List Ep):Bool:=l.any fun x=>x.loc.toList==[100,101,102,97,117,108,116]
theorem zf6 {C:Cx} {j:Bool} {a b:PS×ByteArray} (h:asP C j a= .ok b):a.1.pos≤b.1.pos:=by
 unfold asP at h
 split at h
 ·obtain⟨rfl,_⟩:=zaX h
  show a.1.pos≤a.1.pos+1+1
  omega
 ·split at h
  ·cases h
  ·cases h
   exact Nat.le_refl _
theorem znR {C:Cx} {j:Bool} (f:Nat): ∀(g:Nat) (q:PS) (acc:List Ep),C.ts.length-q.pos<f→C.ts.length-q.pos<g→zbK C j f q acc=zbK C j g q acc:=by
 induction f with
 |zero=>intro g q acc h;omega
 |succ f I=>
  intro g q acc M N
  obtain⟨g,rfl⟩: ∃z,g=z+1:=⟨g-1,by omega⟩
  rw[zbK,zbK]
  refine zaf fun a o=>zaf fun b J=>?_
  split
  ·next D=>
   obtain⟨rfl,H⟩:=zaX o
   have E:=zf6 J
   have K:=za1 D (by decide)
   have L:=zed H
   simp only[zz] at E
   exact I g _ _ (by rw[zz];omega) (by rw[zz];omega)
  ·rfl
theorem zeM (C:Cx) (j:Bool) (q:PS) (acc:List Ep):zay C j q acc=bd (zk C true q) fun a=>bd (asP C j a) fun b=>
  if isT C b.1.pos 4 zbv then zay C j (adv b.1) (acc++[⟨0,b.2,a.2,sNone⟩]) else bd (zd C 4 zaJ b.1) fun q'=>.ok (q',acc++[⟨0,b.2,a.2,sNone⟩]):=by
 rw[zay,zbK]
 refine zaf fun a o=>zaf fun b H=>?_
 split
 ·next z=>
  obtain⟨rfl,E⟩:=zaX o
  have D:=zf6 H
  have I:=za1 z (by decide)
  have J:=zed E
  simp only[zz] at D
  exact znR _ _ _ _ (by rw[zz];omega) (by rw[zz];omega)
 ·rfl
def zK {α:Type} (f:α→PS→PR):List α→PR→PR
 |[],x=>x
 |a::l,x=>zK f l (bd x (f a))
def zbW (s:ByteArray) (e:Ep):Im:=⟨s,e.loc,e.name⟩
def zav (C:Cx) (x:PR):PRN:=bd (bd x (zd C 1 zH)) (zy C)
def zaD (C:Cx) (y:PRN):PRN:=bd y fun a=>bd (zd C 4 cSemi a.1) fun q=>.ok (q,a.2)
def za3 (C:Cx) (q:PS):PR:=
 bd (zd C 1 sImport q) fun q=>
  if isT C q.pos 4 zF then bd (zbB C false q) fun a=>bd (zaD C (zav C (.ok a.1))) fun b=>zK (fun e=>zX C (zbW b.2 e)) a.2 (.ok b.1)
  else if isT C q.pos 4 zp then bd (bd (bd (zd C 4 zp q) (zd C 1 sAs)) (zk C false)) fun a=>bd (zaD C (zav C (.ok a.1))) fun b=>zX C ⟨b.2,zp,a.2⟩ b.1
  else if plainB C q.pos false then bd (zk C false q) fun a=>bd (zaD C (zav C (.ok a.1))) fun b=>zX C ⟨b.2,sDefault,a.2⟩ b.1
  else bd (zy C q) fun a=>zd C 4 cSemi a.1
def zD (e:Ep):Ep:=⟨1,e.name,e.loc,sNone⟩
def zaj (s:ByteArray) (e:Ep):Ep:=⟨2,e.name,e.loc,s⟩
def zV (C:Cx) (q:PS):PR:=
 bd (zd C 1 sExport q) fun q=>
  if isT C q.pos 4 zF then bd (zbB C true q) fun a=>
   if !za2 a.2&& !isT C a.1.pos 1 zH then bd (zd C 4 cSemi a.1) fun q=>zK (fun e=>zm C (zD e)) a.2 (.ok q)
   else bd (zaD C (zav C (.ok a.1))) fun b=>zK (fun e=>zm C (zaj b.2 e)) a.2 (.ok b.1)
  else if isT C q.pos 4 zp then bd (zaD C (zav C (zd C 4 zp q))) fun b=>zm C ⟨3,sNone,sNone,b.2⟩ b.1
  else if isT C q.pos 1 sDefault then bd (bd (bd (bd (zd C 1 sDefault q) (pE C .sum 0)) (zd C 4 cSemi)) (zE C 1 zbp)) (zm C ⟨1,sDefault,zbp,sNone⟩)
  else if isT C q.pos 1 sLet then bd (zbA C q) fun a=>zm C ⟨1,a.2,a.2,sNone⟩ a.1
  else if isT C q.pos 1 sFunction then bd (fnP C q) fun a=>zm C ⟨1,a.2,a.2,sNone⟩ a.1
  else .error (zu C q.pos)
def zo (C:Cx) (q:PS):PR:=
 if !C.scr&&isT C q.pos 1 sImport then za3 C q
 else if !C.scr&&isT C q.pos 1 sExport then zV C q
 else if isT C q.pos 1 sLet then za7 (zbA C q)
 else if isT C q.pos 1 sFunction then za7 (fnP C q)
 else if isT C q.pos 1 sPrint then bd (bd (bd (bd (bd (zd C 1 sPrint q) (zd C 4 cOpen)) (pE C .sum 0)) (zd C 4 zU)) (zd C 4 cSemi)) (zE C 4 sNone)
 else if isT C q.pos 1 sThrow then bd (bd (bd (zd C 1 sThrow q) (pE C .sum 0)) (zd C 4 cSemi)) (zE C 5 sNone)
 else if C.scr&&isT C q.pos 1 sFail then bd (bd (bd (zd C 1 sFail q) (pE C .sum 0)) (zd C 4 cSemi)) (zE C 6 sNone)
 else bd (zk C false q) fun a=>bd (bd (bd (zd C 4 cEq a.1) (pE C .sum 0)) (zd C 4 cSemi)) (zE C 3 a.2)
theorem za4 {C:Cx} {k:Int} {s:ByteArray} {q q':PS} (h:zd C k s q= .ok q'):q.pos+1=q'.pos:=by
 obtain⟨rfl,_⟩:=zbh h
 rfl
theorem zeN {C:Cx} {o:Bool} {q:PS} {a:PS×ByteArray} (h:zk C o q= .ok a):q.pos+1=a.1.pos:=by
 obtain⟨rfl,_⟩:=zaX h
 rfl
theorem zj6 {C:Cx} {q:PS} {a:PS×ByteArray} (h:zy C q= .ok a):q.pos+1=a.1.pos:=by
 unfold zy at h
 split at h
 ·split at h
  ·cases h;rfl
  ·split at h
   ·cases h
   ·cases h;rfl
 ·cases h
theorem zeO {C:Cx} {k:Int} {n:ByteArray} {q q':PS} (h:zE C k n q= .ok q'):q.pos=q'.pos:=by
 unfold zE at h
 split at h
 ·cases h
 ·cases h;rfl
theorem zhH {C:Cx} {y:Im} {q q':PS} (h:zX C y q= .ok q'):q.pos=q'.pos:=by
 unfold zX at h
 split at h
 ·cases h
 ·cases h;rfl
theorem zeP {C:Cx} {y:Ep} {q q':PS} (h:zm C y q= .ok q'):q.pos=q'.pos:=by
 unfold zm at h
 split at h
 ·cases h
 ·split at h
  ·cases h;rfl
  ·cases h;rfl
theorem zhI {α:Type} {f:α→PS→PR} (D: ∀a q q',f a q= .ok q'→q.pos=q'.pos) (l:List α): ∀(x:PR) (q':PS),zK f l x= .ok q'→∃q,x= .ok q∧q.pos=q'.pos:=by
 induction l with
 |nil=>intro x q' h;exact⟨q',h,rfl⟩
 |cons a l z=>
  intro x q' h
  obtain⟨b,E,H⟩:=z _ _ h
  obtain⟨c,o,j⟩:=ze E
  exact⟨c,o,(D _ _ _ j).trans H⟩
theorem zj7 {C:Cx} {j:Bool} (m:Nat): ∀(q:PS) (acc:List Ep) (a:PS×List Ep),C.ts.length-q.pos<m→zay C j q acc= .ok a→q.pos≤a.1.pos:=by
 induction m with
 |zero=>intro q acc a h;omega
 |succ m H=>
  intro q acc a M h
  rw[zeM] at h
  obtain⟨b,K,L⟩:=ze h
  obtain⟨c,E,o⟩:=ze L
  have O:=zeN K
  have N:=zf6 E
  split at o
  ·next D=>
   have z:=za1 D (by decide)
   have:=H _ _ _ (by rw[zz];omega) o
   rw[zz] at this
   omega
  ·obtain⟨d,J,I⟩:=ze o
   have z:=za4 J
   cases I
   show q.pos≤d.pos
   omega
theorem zf7 {C:Cx} {x:PR} {b:PS×ByteArray} (h:zaD C (zav C x)= .ok b): ∃q,x= .ok q∧q.pos≤b.1.pos:=by
 obtain⟨a,J,D⟩:=ze h
 obtain⟨c,z,o⟩:=ze D
 obtain⟨d,H,E⟩:=ze J
 obtain⟨e,j,I⟩:=ze H
 have M:=za4 z
 have L:=zj6 E
 have K:=za4 I
 cases o
 exact⟨e,j,by show e.pos≤c.pos;omega⟩
theorem znS {C:Cx} {q q':PS} (h:za3 C q= .ok q'):q.pos<q'.pos:=by
 obtain⟨Y,Q,D⟩:=ze h
 have X:=za4 Q
 split at D
 ·obtain⟨a,z,o⟩:=ze D
  obtain⟨b,J,I⟩:=ze o
  obtain⟨c,N,K⟩:=ze z
  obtain⟨d,M,H⟩:=zf7 J
  obtain⟨f,j,E⟩:=zhI (fun _ _ _ h=>zhH h) _ _ _ I
  have O:=za4 N
  have L:=zj7 _ _ _ _ (Nat.lt_succ_self _) K
  cases M
  cases j
  omega
 ·split at D
  ·obtain⟨a,z,o⟩:=ze D
   obtain⟨b,J,I⟩:=ze o
   obtain⟨c,N,K⟩:=ze z
   obtain⟨d,M,H⟩:=ze N
   obtain⟨f,j,E⟩:=zf7 J
   have O:=zhH I
   have L:=zeN K
   have U:=za4 M
   have V:=za4 H
   cases j
   omega
  ·split at D
   ·obtain⟨a,z,o⟩:=ze D
    obtain⟨b,J,I⟩:=ze o
    obtain⟨f,j,E⟩:=zf7 J
    have O:=zhH I
    have L:=zeN z
    cases j
    omega
   ·obtain⟨a,z,o⟩:=ze D
    have O:=zj6 z
    have L:=za4 o
    omega
theorem zj8 {y:PRN} {F:PR→ByteArray→PR} {a:PS×ByteArray} (h:withN y F= .ok a): ∃b,y= .ok b∧F (.ok b.1) b.2= .ok a.1:=by
 obtain⟨b,o,z⟩:=ze h
 obtain⟨c,j,D⟩:=ze z
 cases D
 exact⟨b,o,j⟩
theorem zj9 {C:Cx} {q:PS} {a:PS×ByteArray} (h:zbA C q= .ok a):q.pos<a.1.pos:=by
 obtain⟨b,K,L⟩:=zj8 h
 obtain⟨c,H,E⟩:=ze K
 obtain⟨d,J,I⟩:=ze L
 obtain⟨f,o,z⟩:=ze J
 obtain⟨g,D,j⟩:=ze o
 have V:=za4 H
 have Q:=zeN E
 have N:=za4 (show zd C 4 cEq b.1= .ok g from D)
 have O:=zbr j
 have U:=za4 z
 have M:=zeO I
 omega
theorem zjA {C:Cx} {q:PS} {a:PS×ByteArray} (h:fnP C q= .ok a):q.pos<a.1.pos:=by
 obtain⟨b,O,Y⟩:=zj8 h
 obtain⟨c,Q,X⟩:=ze O
 obtain⟨d,U,Z⟩:=ze Y
 obtain⟨f,h7,N⟩:=ze U
 obtain⟨g,V,K⟩:=ze h7
 obtain⟨i,o,E⟩:=ze V
 obtain⟨j,z,H⟩:=ze o
 obtain⟨k,I,L⟩:=ze z
 obtain⟨l,J,D⟩:=ze I
 have e1:=za4 Q
 have e2:=zeN X
 have e3:=za4 (show zd C 4 cOpen b.1= .ok l from J)
 have e4:=za4 D
 have e5:=za4 L
 have e6:=za4 H
 have e7:=zbr E
 have e8:=za4 K
 have e9:=za4 N
 have M:=zeO Z
 omega
theorem znT {C:Cx} {q q':PS} (h:zV C q= .ok q'):q.pos<q'.pos:=by
 obtain⟨X,U,j⟩:=ze h
 have V:=za4 U
 split at j
 ·obtain⟨a,D,o⟩:=ze j
  obtain⟨c,O,M⟩:=ze D
  have L:=za4 O
  have K:=zj7 _ _ _ _ (Nat.lt_succ_self _) M
  split at o
  ·obtain⟨b,E,I⟩:=ze o
   obtain⟨f,z,N⟩:=zhI (fun _ _ _ h=>zeP h) _ _ _ I
   have Q:=za4 E
   cases z
   omega
  ·obtain⟨b,E,I⟩:=ze o
   obtain⟨d,J,H⟩:=zf7 E
   obtain⟨f,z,N⟩:=zhI (fun _ _ _ h=>zeP h) _ _ _ I
   cases J
   cases z
   omega
 ·split at j
  ·obtain⟨b,E,I⟩:=ze j
   obtain⟨d,J,H⟩:=zf7 E
   have L:=za4 J
   have K:=zeP I
   omega
  ·split at j
   ·obtain⟨a,D,o⟩:=ze j
    obtain⟨b,E,I⟩:=ze D
    obtain⟨c,O,M⟩:=ze E
    obtain⟨d,J,H⟩:=ze O
    have L:=za4 J
    have K:=zbr H
    have Q:=za4 M
    have Z:=zeO I
    have Y:=zeP o
    omega
   ·split at j
    ·obtain⟨a,D,o⟩:=ze j
     have L:=zj9 D
     have K:=zeP o
     omega
    ·split at j
     ·obtain⟨a,D,o⟩:=ze j
      have L:=zjA D
      have K:=zeP o
      omega
     ·cases j
theorem zjB {C:Cx} {s:ByteArray} {k:Int} {n:ByteArray} {q q':PS} (h:bd (bd (bd (zd C 1 s q) (pE C .sum 0)) (zd C 4 cSemi)) (zE C k n)= .ok q'):q.pos<q'.pos:=by
 obtain⟨a,E,H⟩:=ze h
 obtain⟨b,o,j⟩:=ze E
 obtain⟨c,D,z⟩:=ze o
 have L:=za4 D
 have K:=zbr z
 have I:=za4 j
 have J:=zeO H
 omega
theorem zgz {C:Cx} {q q':PS} (h:zo C q= .ok q'):q.pos<q'.pos:=by
 unfold zo at h
 split at h
 ·exact znS h
 ·split at h
  ·exact znT h
  ·split at h
   ·obtain⟨a,j,o⟩:=ze h
    cases o
    exact zj9 j
   ·split at h
    ·obtain⟨a,j,o⟩:=ze h
     cases o
     exact zjA j
    ·split at h
     ·obtain⟨a,j,o⟩:=ze h
      obtain⟨b,H,E⟩:=ze j
      obtain⟨c,K,J⟩:=ze H
      obtain⟨d,z,D⟩:=ze K
      obtain⟨e,L,I⟩:=ze z
      have U:=za4 L
      have O:=za4 I
      have M:=zbr D
      have N:=za4 J
      have Q:=za4 E
      have V:=zeO o
      omega
     ·split at h
      ·exact zjB h
      ·split at h
       ·exact zjB h
       ·obtain⟨a,j,o⟩:=ze h
        obtain⟨b,H,E⟩:=ze o
        obtain⟨c,K,J⟩:=ze H
        obtain⟨d,z,D⟩:=ze K
        have U:=zeN j
        have O:=za4 z
        have M:=zbr D
        have N:=za4 J
        have Q:=zeO E
        omega
def zbL (C:Cx):Nat→PS→PR
 |0,_=>.error 0
 |f+1,q=>if q.pos<C.ts.length then bd (zo C q) (zbL C f) else .ok q
def zM (C:Cx) (q:PS):PR:=zbL C (C.ts.length-q.pos+1) q
theorem znU {C:Cx} (f:Nat): ∀(g:Nat) (q:PS),C.ts.length-q.pos<f→C.ts.length-q.pos<g→zbL C f q=zbL C g q:=by
 induction f with
 |zero=>intro g q h;omega
 |succ f z=>
  intro g q D E
  obtain⟨g,rfl⟩: ∃o,g=o+1:=⟨g-1,by omega⟩
  rw[zbL,zbL]
  split
  ·refine zaf fun a j=>?_
   have:=zgz j
   exact z g a (by omega) (by omega)
  ·rfl
theorem zeQ (C:Cx) (q:PS):zM C q=if q.pos<C.ts.length then bd (zo C q) (zM C) else .ok q:=by
 rw[zM,zbL]
 split
 ·refine zaf fun a j=>?_
  have:=zgz j
  exact znU _ _ _ (by omega) (by omega)
 ·rfl
def startP:PS:=⟨0,[],[],[],[],[],[]⟩
def za8 (s:ByteArray) (scr:Bool) (y:PR):Prop:=∃r,zY s scr r∧y=match r with
 | .error p=>.error p
 | .ok ts=>zM ⟨ts,s.size,scr⟩ startP
theorem zdy {s:ByteArray} {scr:Bool} {o j:PR} (E:za8 s scr o) (H:za8 s scr j):o=j:=by
 obtain⟨J,D,rfl⟩:=E
 obtain⟨I,z,rfl⟩:=H
 obtain rfl:=zh5 D z
 rfl
theorem znV {s:ByteArray} {scr:Bool} {a n:Nat} {r:Except Nat (List Tk)} (h:Lx s scr a n r): ∀o,r= .ok o→n≤4000→o.length+n≤4000:=by
 induction h using Lx.ind with
 |done=>intro o z D;cases z;simpa using D
 |bad _ _=>intro o z D;cases z
 | @tok a n e b t r h D H I z E=>
  intro o j _
  cases r with
  |error p=>simp[Except.map] at j
  |ok l=>
   simp only[Except.map,Except.ok.injEq] at j
   subst j
   have:=E l rfl (by omega)
   simp only[List.length_cons]
   omega
theorem zg0 {s:ByteArray} {scr:Bool} {j:List Tk} (h:zY s scr (.ok j)):j.length≤4000:=by
 obtain⟨a,_,o⟩:=h
 have:=znV o j rfl (by omega)
 omega
def R0:Rw:=⟨none,0⟩
def S0:Sv:=⟨R0,R0,R0,R0,R0,R0⟩
theorem zeR (w:World) (j size:Nat) (e:TypeId):OwnR w j e size R0 0 []:=World.ownsRow_nil w j e size
theorem znW (w:World) (j:Nat):Own w j S0 startP:=
 ⟨zeR _ _ _ _,zeR _ _ _ _,zeR _ _ _ _,zeR _ _ _ _,zeR _ _ _ _,zeR _ _ _ _,fun k h=>by simp[S0,R0,Rw.blk,Value.ownBlock] at h⟩
theorem zjC {w:World} {j g o:Nat} {z:List Tk} {n:Nat} {scr:Bool} (h:OwnT w j 40 g z.length o z) (E:z.length≤4000) (D:j≤w.heap.size):Mem ⟨z,n,scr⟩ g o j S0 startP w:=
 ⟨znW _ _,⟨Nat.zero_le _,Nat.zero_le _,Nat.zero_le _,Nat.zero_le _,Nat.zero_le _,Nat.zero_le _⟩,h,E,D⟩
structure OwnMod (w:World) (base:Nat) (S:Sv) (q:PS):Prop where
 rq:OwnR w base 9 1 S.rq q.rq.length (q.rq.map .string)
 im:OwnR w base 75 3 S.im q.im.length (q.im.flatMap imL)
 ep:OwnR w base 77 4 S.ep (q.ep++q.la).length ((q.ep++q.la).flatMap epL)
 st:OwnR w base 79 3 S.st q.st.length (q.st.flatMap smL)
 ex:OwnR w base 81 6 S.ex q.ex.length (q.ex.flatMap exL)
 inv:q.rq.length≤40∧q.im.length≤40∧q.ep.length+q.la.length≤40∧q.st.length≤80∧q.ex.length≤300
def zg1 (S:Sv) (q:PS):Value:=.agg #[.slice S.rq.a q.rq.length S.rq.cap,.slice S.im.a q.im.length S.im.cap,.slice S.ep.a (q.ep++q.la).length S.ep.cap,.slice S.st.a q.st.length S.st.cap,.slice S.ex.a q.ex.length S.ex.cap]
def ParseOut (s:ByteArray) (scr:Bool) (w:World) (e:Ending) (w':World):Prop:=
 ∃y,za8 s scr y∧match y with
  | .ok q=>∃S,e= .returned (.tuple #[zg1 S q,.int .i64 (-1)])∧OwnMod w' w.heap.size S q
  | .error p=>e= .returned (.tuple #[.agg #[.slice none 0 0,.slice none 0 0,.slice none 0 0,.slice none 0 0,.slice none 0 0],.int .i64 p])
theorem OwnR.low {w:World} {o j size n:Nat} {e:TypeId} {r:Rw} {xs:List Value} (h:OwnR w o e size r n xs) (H:j≤o):OwnR w j e size r n xs:=by
 refine⟨h.1,?_⟩
 rcases h.2 with z|⟨g,D,E,z,I,rest⟩
 ·exact .inl z
 ·exact .inr ⟨g,D,E,z,Nat.le_trans H I,rest⟩
theorem OwnR.nil_or {w:World} {o size n:Nat} {e:TypeId} {r:Rw} {xs:List Value} (h:OwnR w o e size r n xs):(r.a=none∧r.cap=0∧n=0)∨∃g,r.a=some ⟨g,0,none⟩:=by
 rcases h.2 with ⟨j,z⟩|⟨g,D,E,j,_⟩
 ·simp only[Value.slice.injEq] at j
  exact .inl ⟨j.1,j.2.2,z⟩
 ·simp only[Value.slice.injEq] at j
  exact .inr ⟨g,j.1⟩
theorem znX {P:Program} (W:World) {X:Array Oper} {rest:List Oper} {o:Oper} {a:Act} {Q:Exit→Act→World→Prop} (ac:o.guard=none) (s x:Operand) (t:TypeId)
  (ho:o.op= .call {callee:=.builtin .append,args:=#[s,x],argTypes:=#[t,t]})
  (H:Nat) (e:TypeId) (i:TypeInfo) (z:Value) (size D:Nat) (ht:P.underlying t=some (.slice e)) (hi:P.info? e=some i) (hz:i.zero=some z) (J:i.size=size) (ab:i.bytes=D) (ad:z.cells.size=size) (ae:0<size) (N:D≤100)
  (r:Rw) (n:Nat) (xs:List Value) (hs:a.eval s= .slice r.a n r.cap) (U:OwnR W H e size r n xs)
  (Y m c L:Nat) (E:List Value) (hx:a.eval x= .slice (some ⟨Y,0,none⟩) m c) (hg:OwnR W L e size ⟨some ⟨Y,0,none⟩,c⟩ m E) (h1: ∀u∈E,u.oneCell'=true) (hn:n+m≤1000000) (K:H≤W.heap.size)
  (h: ∀O M,OwnR M H e size O (n+m) (xs++E)→W.grownBy M r.blk→(O.blk=r.blk∨O.blk=some W.heap.size)→wpList P X Q rest (a.put o.dst (.slice O.a (n+m:Nat) O.cap)) M):
  wpList P X Q (o::rest) a W:=by
 refine wpList_append_own_at _ ac s x t ho H e i z size D ht hi hz J ab ad ae _ n _ hs U ⟨Y,0,none⟩ m c E hx hg.1 ?_ h1 ?_ ?_ K ?_
 ·intro j u hj
  have e1:(⟨Y,0,none⟩:Addr).add j=⟨Y,j,none⟩:=by simp[Addr.add];exact fun h=>h.symm
  have af:j<E.length:=(List.getElem?_eq_some_iff.1 hj).1
  rw[e1,World.ownsRow.cellAt hg j (by rw[←hg.1];exact af)]
  exact hj
 ·unfold maxLen;omega
 ·have:(n+m)*D≤1000000*100:=Nat.mul_le_mul hn N
  omega
 ·intro v' M Z k2 k3 k4
  rcases Z.2 with ⟨hv,V⟩|⟨g',I,ag,rfl,aa⟩
  ·subst hv
   have:=h ⟨none,0⟩ M (by rw[V] at Z ⊢;exact Z) (by rw[←zb9 r n];exact k2) (by rw[←zb9 r n];exact k4)
   rw[V] at this
   exact this
  ·refine h ⟨some ⟨g',0,none⟩,I⟩ M Z ?_ ?_
   ·rw[←zb9 r n];exact k2
   ·rw[←zb9 r n,←zb9 ⟨some ⟨g',0,none⟩,I⟩ (n+m)];exact k4
theorem znY {P:Program} (W:World) {D:Array Oper} {rest:List Oper} {o:Oper} {a:Act} {Q:Exit→Act→World→Prop} (H:o.guard=none) (s x:Operand) (t:TypeId)
  (X:o.op= .call {callee:=.builtin .append,args:=#[s,x],argTypes:=#[t,t]})
  (e:TypeId) (i:TypeInfo) (I:P.underlying t=some (.slice e)) (J:P.info? e=some i) (z size n:Nat)
  (r:Rw) (xs:List Value) (U:a.eval s= .slice r.a n r.cap) (j:OwnR W z e size r n xs) (M:a.eval x= .slice none 0 0)
  (h:wpList P D Q rest (a.put o.dst (.slice r.a n r.cap)) W):wpList P D Q (o::rest) a W:=by
 have N:(Builtin.append_ #[t,t] o.type #[.slice r.a n r.cap,.slice none 0 0]).run P W= .ok (.slice r.a n r.cap) W:=by
  rcases j.2 with ⟨E,_⟩|⟨g,V,Y,E,_,_,L,_⟩
  ·rw[E]
   simp[Builtin.append_,run_underlying I,sizeOf,typeInfo,J,Builtin.lenOf,Builtin.firstCells]
  ·rw[E]
   simp[Builtin.append_,run_underlying I,sizeOf,typeInfo,J,Builtin.lenOf,Builtin.firstCells,loadCells,L,storeCells]
 refine wpList_plain H fun K O=>?_
 unfold Oper.wp execOp
 simp only[X,resolve,invoke,builtin,Sem.run_bind,Sem.run_pure,Result.andThen_ok,List.map_toArray,List.map_cons,List.map_nil,U,M,N]
 exact O _ _ h
theorem zhJ (l:List Ep): ∀u∈l.flatMap epL,u.oneCell'=true:=by
 intro u o
 rw[List.mem_flatMap] at o
 obtain⟨x,_,j⟩:=o
 simp[epL] at j
 rcases j with rfl|rfl|rfl|rfl<;>rfl
theorem Mem.whole {C:Cx} {Z O j b B:Nat} {S:Sv} {q:PS} {W J M:World} {I:Rw} (D:Mem C Z O j S q W) (hg:W.grownBy J S.ep.blk) (Q:OwnR J j 77 4 I (q.ep.length+q.la.length) (q.ep.flatMap epL++q.la.flatMap epL)) (N:I.blk=S.ep.blk∨I.blk=some W.heap.size) (hB:B<j) (hb:b<W.heap.size) (o: ¬S.has b)
  (U: ∀k,k≠B→k≠b→M.heap[k]? =J.heap[k]?):OwnMod M B {S with ep:=I} q:=by
 have E:(q.ep++q.la).length=q.ep.length+q.la.length:=by simp
 have H: ∀(r:Rw) (e:TypeId) (z n:Nat) (L:List Value),OwnR W j e z r n L→e≠77→(∀k,r.blk=some k→S.has k)→OwnR M B e z r n L:=fun r e z n L h Y X=>
  ((h.keep fun k g=>(U k (by have:=(h.typed g).1;omega) (fun K=>o (by rw[←K];exact X k g))).trans (hg.block k (h.typed g).2.1 fun V=>(h.ne D.own.ep Y g) V.symm)).low (by omega))
 refine⟨H _ _ _ _ _ D.own.rq (by decide) fun k g=>.inl g,H _ _ _ _ _ D.own.im (by decide) fun k g=>.inr (.inl g),?_,H _ _ _ _ _ D.own.st (by decide) fun k g=>.inr (.inr (.inr (.inl g))),H _ _ _ _ _ D.own.ex (by decide) fun k g=>.inr (.inr (.inr (.inr (.inl g)))),D.inv.rq,D.inv.im,D.inv.ep,D.inv.st,D.inv.ex⟩
 rw[E,List.flatMap_append]
 refine (Q.keep fun k g=>U k (by have:=(Q.typed g).1;omega) ?_).low (by omega)
 rcases N with e|e
 ·intro K
  exact o (by rw[←K];exact .inr (.inr (.inl (by rw[←e];exact g))))
 ·have:W.heap.size=k:=Option.some.inj (e.symm.trans g)
  omega
theorem Mem.whole0 {C:Cx} {K J o b B:Nat} {S:Sv} {q:PS} {W I:World} (z:Mem C K J o S q W) (O:q.la=[]) (Q:B<o) (D: ¬S.has b)
  (N: ∀k,k≠B→k≠b→I.heap[k]? =W.heap[k]?):OwnMod I B S q:=by
 have E: ∀(r:Rw) (e:TypeId) (j n:Nat) (H:List Value),OwnR W o e j r n H→(∀k,r.blk=some k→S.has k)→OwnR I B e j r n H:=fun r e j n H h L=>
  ((h.keep fun k g=>N k (by have:=(h.typed g).1;omega) (fun M=>D (by rw[←M];exact L k g))).low (by omega))
 refine⟨E _ _ _ _ _ z.own.rq fun k g=>.inl g,E _ _ _ _ _ z.own.im fun k g=>.inr (.inl g),?_,E _ _ _ _ _ z.own.st fun k g=>.inr (.inr (.inr (.inl g))),E _ _ _ _ _ z.own.ex fun k g=>.inr (.inr (.inr (.inr (.inl g)))),z.inv.rq,z.inv.im,z.inv.ep,z.inv.st,z.inv.ex⟩
 rw[O,List.append_nil]
 exact E _ _ _ _ _ z.own.ep fun k g=>.inr (.inr (.inl g))
theorem zaa {w:World} {b:Nat} {t:TypeId} {j o E z D:Value} (h:w.heap[b]? =some (.cells #[j,o,E,z,D] t (0,0))):
  w.cell? ⟨b,0,none⟩=some j∧w.cell? ⟨b,1,none⟩=some o∧w.cell? ⟨b,2,none⟩=some E∧w.cell? ⟨b,3,none⟩=some z∧w.cell? ⟨b,4,none⟩=some D∧∀i,w.frozen? ⟨b,i,none⟩=false:=by
 refine⟨?_,?_,?_,?_,?_,fun i=>?_⟩<;>simp[World.cell?,World.frozen?,h]
theorem zbf {w:World} {b i:Nat} {cs:Array Value} {u:Value} {t:TypeId} (h:w.heap[b]? =some (.cells cs t (0,0))):(w.setCell ⟨b,i,none⟩ u).heap[b]? =some (.cells (cs.setIfInBounds i u) t (0,0)):=by
 simp only[World.setCell,Array.getElem?_modify]
 rw[if_pos trivial,h]
 rfl
theorem zei {w:World} {b:Nat} {H I L J K j E o D z:Value} {t:TypeId} (h:w.heap[b]? =some (.cells #[H,I,L,J,K] t (0,0))):
  (((((w.setCell ⟨b,0,none⟩ j).setCell ⟨b,1,none⟩ E).setCell ⟨b,2,none⟩ o).setCell ⟨b,3,none⟩ D).setCell ⟨b,4,none⟩ z).heap[b]? =some (.cells #[j,E,o,D,z] t (0,0)):=by
 have e:=zbf (i:=4) (u:=z) (zbf (i:=3) (u:=D) (zbf (i:=2) (u:=o) (zbf (i:=1) (u:=E) (zbf (i:=0) (u:=j) h))))
 rw[e]
 simp
theorem zej {B:Nat} {a w:World} {b:Nat} (h:Below B a w) (j:B≤b) (o H z E D:Value):Below B a (((((w.setCell ⟨b,0,none⟩ o).setCell ⟨b,1,none⟩ H).setCell ⟨b,2,none⟩ z).setCell ⟨b,3,none⟩ E).setCell ⟨b,4,none⟩ D):=
 ((((h.setCell j _).setCell j _).setCell j _).setCell j _).setCell j _
end Go.Proofs.YthfeoomfiafldaaGreat
