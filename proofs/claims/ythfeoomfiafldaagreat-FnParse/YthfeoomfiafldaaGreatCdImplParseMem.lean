/-
 impl's parser in memory: its ten cells beside the six rows. No program is spoken of but for the numbers of its types.
-/
import Derived.Test.YthfeoomfiafldaaGreatCdParseMemToModMem
namespace Go.Proofs.YthfeoomfiafldaaGreat
open Go.RowKit Go.PlainAid
structure IM (C:Cx) (gt cap base gp:Nat) (S:Sv) (q:PS) (w:World):Prop where
 mem:Mem C gt cap base S q w
 cells:w.heap[gp]? =some (.cells #[.slice (some ⟨gt,0,none⟩) C.ts.length cap,.int .i64 q.pos,.int .i64 C.fin,.bool C.scr,.slice S.rq.a q.rq.length S.rq.cap,.slice S.im.a q.im.length S.im.cap,.slice S.ep.a q.ep.length S.ep.cap,.slice S.st.a q.st.length S.st.cap,.slice S.ex.a q.ex.length S.ex.cap,.slice S.la.a q.la.length S.la.cap] 53 (0,0))
 ge:base≤gp
theorem IM.lt {C:Cx} {D o j z:Nat} {S:Sv} {q:PS} {w:World} (h:IM C D o j z S q w):z<w.heap.size:=(Array.getElem?_eq_some_iff.1 h.cells).1
theorem IM.free {C:Cx} {D o j z:Nat} {S:Sv} {q:PS} {w:World} (h:IM C D o j z S q w): ¬S.has z:=h.mem.own.other h.cells (by decide) (by decide) (by decide) (by decide) (by decide)
theorem IM.ne {C:Cx} {z o j D:Nat} {S:Sv} {q:PS} {w:World} (h:IM C z o j D S q w):D≠z:=by
 rintro rfl
 obtain⟨c,g⟩:=zgy h.mem.tok
 rw[h.cells] at g
 simp only[Option.some.injEq,Obj.cells.injEq] at g
 exact absurd g.2.1 (by decide)
theorem IM.later {C:Cx} {E o j H:Nat} {S:Sv} {q:PS} {w D:World} (h:IM C E o j H S q w) (z:Below w.heap.size w D):IM C E o j H S q D:=⟨h.mem.later z,(z.block _ h.lt).trans h.cells,h.ge⟩
theorem IM.alloc {C:Cx} {D z j E:Nat} {S:Sv} {q:PS} {w:World} (h:IM C D z j E S q w) (o:Obj):IM C D z j E S q (w.alloc o):=h.later ((Below.refl _ _).alloc (Nat.le_refl _) _)
theorem IM.drew {C:Cx} {z o j D:Nat} {S:Sv} {q:PS} {w:World} (h:IM C z o j D S q w):IM C z o j D S q w.drew:=⟨⟨⟨h.mem.own.rq,h.mem.own.im,h.mem.own.ep,h.mem.own.st,h.mem.own.ex,h.mem.own.la,h.mem.own.apart⟩,h.mem.inv,h.mem.tok,h.mem.few,h.mem.base⟩,h.cells,h.ge⟩
structure Box10 (w:World) (b:Nat) (v0 v1 v2 v3 v4 v5 v6 v7 v8 v9:Value):Prop where
 c0:w.cell? ⟨b,0,none⟩=some v0
 c1:w.cell? ⟨b,1,none⟩=some v1
 c2:w.cell? ⟨b,2,none⟩=some v2
 c3:w.cell? ⟨b,3,none⟩=some v3
 c4:w.cell? ⟨b,4,none⟩=some v4
 c5:w.cell? ⟨b,5,none⟩=some v5
 c6:w.cell? ⟨b,6,none⟩=some v6
 c7:w.cell? ⟨b,7,none⟩=some v7
 c8:w.cell? ⟨b,8,none⟩=some v8
 c9:w.cell? ⟨b,9,none⟩=some v9
 fz: ∀i,w.frozen? ⟨b,i,none⟩=false
theorem zag {w:World} {b:Nat} {t:TypeId} {K H j J z D E L o I:Value} (h:w.heap[b]? =some (.cells #[K,H,j,J,z,D,E,L,o,I] t (0,0))):Box10 w b K H j J z D E L o I:=by
 constructor<;>simp[World.cell?,World.frozen?,h]
theorem IM.adv {C:Cx} {H z j o:Nat} {S:Sv} {q:PS} {w:World} (h:IM C H z j o S q w) (I:q.pos<C.ts.length):IM C H z j o S (adv q) (w.setCell ⟨o,1,none⟩ (.int .i64 ((q.pos:Int)+1))):=by
 have D: ∀k,k≠o→(w.setCell ⟨o,1,none⟩ (.int .i64 ((q.pos:Int)+1))).heap[k]? =w.heap[k]?:=fun k D=>Below.heap_setCell w ⟨o,1,none⟩ _ k D
 have E:(w.setCell ⟨o,1,none⟩ (.int .i64 ((q.pos:Int)+1))).heap.size=w.heap.size:=by show (w.heap.modify _ _).size=_;simp
 refine⟨⟨(h.mem.own.keep fun k g=>D k fun e=>h.free (by rw[←e];exact g)).to rfl rfl rfl rfl rfl rfl,⟨I,h.mem.inv.rq,h.mem.inv.im,h.mem.inv.ep,h.mem.inv.st,h.mem.inv.ex⟩,zbJ h.mem.tok (D H h.ne.symm),h.mem.few,by rw[E];exact h.mem.base⟩,?_,h.ge⟩
 rw[zbf h.cells]
 simp[Go.Proofs.YthfeoomfiafldaaGreat.adv]
structure IS (gp:Nat) (S:Sv) (w:World) (S':Sv) (w':World):Prop where
 os:w'.os=w.os
 tape:w'.tape=w.tape
 output:w'.output=w.output
 size:w.heap.size≤w'.heap.size
 block: ∀k,k<w.heap.size→¬S.has k→k≠gp→w'.heap[k]? =w.heap[k]?
 sub: ∀k,S'.has k→S.has k∨w.heap.size≤k
theorem IS.refl (j:Nat) (S:Sv) (w:World):IS j S w S w:=⟨rfl,rfl,rfl,Nat.le_refl _,fun _ _ _ _=>rfl,fun _ h=>.inl h⟩
theorem IS.trans {o:Nat} {S z H:Sv} {w E I:World} (h:IS o S w z E) (k:IS o z E H I):IS o S w H I:=
 ⟨k.os.trans h.os,k.tape.trans h.tape,k.output.trans h.output,Nat.le_trans h.size k.size,
  fun i j D J=>(k.block i (Nat.lt_of_lt_of_le j h.size) (fun g=>(h.sub i g).elim D fun K=>by omega) J).trans (h.block i j D J),
  fun i j=>(k.sub i j).elim (h.sub i) fun g=>.inr (Nat.le_trans h.size g)⟩
theorem IS.below {z:Nat} {S:Sv} {w j:World} (h:Below w.heap.size w j):IS z S w S j:=⟨h.os,h.tape,h.output,h.size,fun k o _ _=>h.block k o,fun _ g=>.inl g⟩
theorem IS.set {o:Nat} {S z:Sv} {w j:World} (h:IS o S w z j) (i:Nat) (u:Value):IS o S w z (j.setCell ⟨o,i,none⟩ u):=
 ⟨h.os,h.tape,h.output,by show _≤(j.heap.modify _ _).size;simp;exact h.size,fun k H E D=>(Below.heap_setCell j ⟨o,i,none⟩ u k D).trans (h.block k H E D),h.sub⟩
theorem IS.under {z:Nat} {S E:Sv} {w o:World} {j:Nat} {q:PS} (h:IS z S w E o) (J:j≤w.heap.size) (D:Own w j S q) (I:j≤z):Below j w o:=
 ⟨h.os,h.tape,h.output,h.size,fun k H=>h.block k (by omega) (fun g=>by have:=(D.has g).1;omega) (by omega)⟩
theorem zek {w:World} {b:Nat} {t:TypeId} {D j o z:Value} (h:w.heap[b]? =some (.cells #[D,j,o,z] t (0,0))):
  w.cell? ⟨b,0,none⟩=some D∧w.cell? ⟨b,1,none⟩=some j∧w.cell? ⟨b,2,none⟩=some o∧w.cell? ⟨b,3,none⟩=some z∧∀i,w.frozen? ⟨b,i,none⟩=false:=by
 refine⟨?_,?_,?_,?_,fun i=>?_⟩<;>simp[World.cell?,World.frozen?,h]
theorem zhK {w:World} {b:Nat} {J H E I z o j D:Value} {t:TypeId} (h:w.heap[b]? =some (.cells #[J,H,E,I] t (0,0))):
  ((((w.setCell ⟨b,0,none⟩ z).setCell ⟨b,1,none⟩ o).setCell ⟨b,2,none⟩ j).setCell ⟨b,3,none⟩ D).heap[b]? =some (.cells #[z,o,j,D] t (0,0)):=by
 have e:=zbf (i:=3) (u:=D) (zbf (i:=2) (u:=j) (zbf (i:=1) (u:=o) (zbf (i:=0) (u:=z) h)))
 rw[e]
 simp
theorem zjD {B:Nat} {a w:World} {b:Nat} (h:Below B a w) (j:B≤b) (D z o E:Value):Below B a ((((w.setCell ⟨b,0,none⟩ D).setCell ⟨b,1,none⟩ z).setCell ⟨b,2,none⟩ o).setCell ⟨b,3,none⟩ E):=(((h.setCell j _).setCell j _).setCell j _).setCell j _
theorem zjE {B:Nat} {a w:World} (h:Below B a w) (n:Nat):Below B a (w.drewN n):=⟨h.os,h.tape,h.output,h.size,h.block⟩
theorem IM.set {C:Cx} {D z j E b:Nat} {S:Sv} {q:PS} {w:World} (h:IM C D z j E S q w) (K:b≠E) (J:b≠D) (I: ¬S.has b) (i:Nat) (u:Value):IM C D z j E S q (w.setCell ⟨b,i,none⟩ u):=by
 have o: ∀k,k≠b→(w.setCell ⟨b,i,none⟩ u).heap[k]? =w.heap[k]?:=fun k o=>Below.heap_setCell w ⟨b,i,none⟩ _ k o
 have H:(w.setCell ⟨b,i,none⟩ u).heap.size=w.heap.size:=by show (w.heap.modify _ _).size=_;simp
 exact⟨⟨h.mem.own.keep fun k g=>o k fun e=>I (by rw[←e];exact g),h.mem.inv,zbJ h.mem.tok (o D J.symm),h.mem.few,by rw[H];exact h.mem.base⟩,(o E K.symm).trans h.cells,h.ge⟩
theorem IM.scratch {C:Cx} {H o j I b:Nat} {S:Sv} {q:PS} {w:World} (h:IM C H o j I S q w) (D:b≠I) (E:b≠H) (z: ¬S.has b) (L K J M:Value):IM C H o j I S q ((((w.setCell ⟨b,0,none⟩ L).setCell ⟨b,1,none⟩ K).setCell ⟨b,2,none⟩ J).setCell ⟨b,3,none⟩ M):=
 (((h.set D E z _ _).set D E z _ _).set D E z _ _).set D E z _ _
theorem IS.new {z b:Nat} {S o:Sv} {w j:World} (h:IS z S w o j) (I:w.heap.size≤b) (i:Nat) (u:Value):IS z S w o (j.setCell ⟨b,i,none⟩ u):=
 ⟨h.os,h.tape,h.output,by show _≤(j.heap.modify _ _).size;simp;exact h.size,fun k E D H=>(Below.heap_setCell j ⟨b,i,none⟩ u k (by show k≠b;omega)).trans (h.block k E D H),h.sub⟩
theorem IS.scratch {D b:Nat} {S o:Sv} {w z:World} (h:IS D S w o z) (j:w.heap.size≤b) (I H E J:Value):IS D S w o ((((z.setCell ⟨b,0,none⟩ I).setCell ⟨b,1,none⟩ H).setCell ⟨b,2,none⟩ E).setCell ⟨b,3,none⟩ J):=
 (((h.new j _ _).new j _ _).new j _ _).new j _ _
theorem zjF {w:World} {b:Nat} {o j:Obj} (h:w.heap[b]? =some o):(w.alloc j).heap[b]? =some o:=(Below.heap_alloc w j b (Array.getElem?_eq_some_iff.1 h).1).trans h
theorem IS.alloc {D:Nat} {S j:Sv} {w z:World} (h:IS D S w j z) (o:Obj):IS D S w j (z.alloc o):=h.trans (IS.below ((Below.refl _ _).alloc (Nat.le_refl _) _))
def Pan (p:Nat):Ending:=.panicked [{v:=.iface 49 (.int .i64 p),recovered:=false}]
def zT (C:Cx) (gt cap base gp:Nat) {α:Type} (y:Except Nat α) (st:α→PS) (v:α→Value) (S:Sv) (w:World) (e:Ending) (w':World):Prop:=
 match y with
 | .ok a=>e= .returned (v a)∧∃S',IM C gt cap base gp S' (st a) w'∧IS gp S w S' w'
 | .error p=>e=Pan p∧Below base w w'
end Go.Proofs.YthfeoomfiafldaaGreat