/-
 impl's parser in memory: its ten cells beside the six rows. No program is spoken of but for the numbers of its types.
-/
import Derived.Test.YtjdddblpfbmpaaaGreatCmParseMemToModMem
import Derived.Deep.Draws
namespace Go.Proofs.YtjdddblpfbmpaaaGreat
open Go.RowKit Go.PlainAid
structure IM (C:Cx) (gt cap base gp:Nat) (S:Sv) (q:PS) (w:World):Prop where
 mem:Mem C gt cap base S q w
 cells:w.heap[gp]? =some (.cells #[.slice (some ⟨gt,0,none⟩) C.ts.length cap,.int .i64 q.pos,.int .i64 C.fin,.bool C.scr,.slice S.rq.a q.rq.length S.rq.cap,.slice S.im.a q.im.length S.im.cap,.slice S.ep.a q.ep.length S.ep.cap,.slice S.st.a q.st.length S.st.cap,.slice S.ex.a q.ex.length S.ex.cap,.slice S.la.a q.la.length S.la.cap] 160 (0,0))
 ge:base≤gp
theorem IM.lt {C:Cx} {H z j A:Nat} {S:Sv} {q:PS} {w:World} (h:IM C H z j A S q w):A<w.heap.size:=(Array.getElem?_eq_some_iff.1 h.cells).1
theorem IM.free {C:Cx} {H z j A:Nat} {S:Sv} {q:PS} {w:World} (h:IM C H z j A S q w): ¬S.has A:=h.mem.own.other h.cells (by decide) (by decide) (by decide) (by decide) (by decide)
theorem IM.ne {C:Cx} {A z j H:Nat} {S:Sv} {q:PS} {w:World} (h:IM C A z j H S q w):H≠A:=by
 rintro rfl
 obtain⟨c,g⟩:=zgc h.mem.tok
 rw[h.cells] at g
 simp only[Option.some.injEq,Obj.cells.injEq] at g
 exact absurd g.2.1 (by decide)
theorem IM.later {C:Cx} {I z j A:Nat} {S:Sv} {q:PS} {w w':World} (h:IM C I z j A S q w) (H:Below w.heap.size w w'):IM C I z j A S q w':=⟨h.mem.later H,(H.block _ h.lt).trans h.cells,h.ge⟩
theorem IM.alloc {C:Cx} {A z j H:Nat} {S:Sv} {q:PS} {w:World} (h:IM C A z j H S q w) (o:Obj):IM C A z j H S q (w.alloc o):=h.later ((Below.refl _ _).alloc (Nat.le_refl _) _)
theorem IM.drew {C:Cx} {A z j H:Nat} {S:Sv} {q:PS} {w:World} (h:IM C A z j H S q w):IM C A z j H S q w.drew:=⟨⟨⟨h.mem.own.rq,h.mem.own.im,h.mem.own.ep,h.mem.own.st,h.mem.own.ex,h.mem.own.la,h.mem.own.apart⟩,h.mem.inv,h.mem.tok,h.mem.few,h.mem.base⟩,h.cells,h.ge⟩
structure Box10 (w:World) (b:Nat) (v0 v1 v2 v3 v4 v5 v6 v7 v8 v9:Value):Prop where
 c0:w.cell? ⟨b,0,none⟩=some v0
 c1:w.cell? ⟨b,1,none⟩=some v1
 c2:w.cell? ⟨b,2,none⟩=some v2
 c3:w.cell? ⟨b,3,none⟩=some v3
 c4:w.cell? ⟨b,4,none⟩=some v4
 c5:w.cell? ⟨b,5,none⟩=some v5
 c6:w.cell? ⟨b,6,none⟩=some v6
 c7:w.cell? ⟨b,7,none⟩=some v7
 c8:w.cell? ⟨b,8,none⟩=some v8
 c9:w.cell? ⟨b,9,none⟩=some v9
 fz: ∀i,w.frozen? ⟨b,i,none⟩=false
theorem zag {w:World} {b:Nat} {t:TypeId} {v0 v1 v2 v3 v4 q j H A z:Value} (h:w.heap[b]? =some (.cells #[v0,v1,v2,v3,v4,q,j,H,A,z] t (0,0))):Box10 w b v0 v1 v2 v3 v4 q j H A z:=by
 constructor<;>simp[World.cell?,World.frozen?,h]
theorem IM.adv {C:Cx} {I A j z:Nat} {S:Sv} {q:PS} {w:World} (h:IM C I A j z S q w) (L:q.pos<C.ts.length):IM C I A j z S (adv q) (w.setCell ⟨z,1,none⟩ (.int .i64 ((q.pos:Int)+1))):=by
 have H: ∀k,k≠z→(w.setCell ⟨z,1,none⟩ (.int .i64 ((q.pos:Int)+1))).heap[k]? =w.heap[k]?:=fun k H=>Below.heap_setCell w ⟨z,1,none⟩ _ k H
 have J:(w.setCell ⟨z,1,none⟩ (.int .i64 ((q.pos:Int)+1))).heap.size=w.heap.size:=by show (w.heap.modify _ _).size=_;simp
 refine⟨⟨(h.mem.own.keep fun k g=>H k fun e=>h.free (by rw[←e];exact g)).to rfl rfl rfl rfl rfl rfl,⟨L,h.mem.inv.rq,h.mem.inv.im,h.mem.inv.ep,h.mem.inv.st,h.mem.inv.ex⟩,zbI h.mem.tok (H I h.ne.symm),h.mem.few,by rw[J];exact h.mem.base⟩,?_,h.ge⟩
 rw[zaz h.cells]
 simp[Go.Proofs.YtjdddblpfbmpaaaGreat.adv]
structure IS (gp:Nat) (S:Sv) (w:World) (S':Sv) (w':World):Prop where
 os:w'.os=w.os
 tape:w'.tape=w.tape
 output:w'.output=w.output
 size:w.heap.size≤w'.heap.size
 block: ∀k,k<w.heap.size→¬S.has k→k≠gp→w'.heap[k]? =w.heap[k]?
 sub: ∀k,S'.has k→S.has k∨w.heap.size≤k
theorem IS.refl (j:Nat) (S:Sv) (w:World):IS j S w S w:=⟨rfl,rfl,rfl,Nat.le_refl _,fun _ _ _ _=>rfl,fun _ h=>.inl h⟩
theorem IS.trans {q:Nat} {S H z:Sv} {w A I:World} (h:IS q S w H A) (k:IS q H A z I):IS q S w z I:=
 ⟨k.os.trans h.os,k.tape.trans h.tape,k.output.trans h.output,Nat.le_trans h.size k.size,
  fun i j L J=>(k.block i (Nat.lt_of_lt_of_le j h.size) (fun g=>(h.sub i g).elim L fun M=>by omega) J).trans (h.block i j L J),
  fun i j=>(k.sub i j).elim (h.sub i) fun g=>.inr (Nat.le_trans h.size g)⟩
theorem IS.below {q:Nat} {S:Sv} {w w':World} (h:Below w.heap.size w w'):IS q S w S w':=⟨h.os,h.tape,h.output,h.size,fun k j _ _=>h.block k j,fun _ g=>.inl g⟩
theorem IS.set {q:Nat} {S z:Sv} {w j:World} (h:IS q S w z j) (i:Nat) (u:Value):IS q S w z (j.setCell ⟨q,i,none⟩ u):=
 ⟨h.os,h.tape,h.output,by show _≤(j.heap.modify _ _).size;simp;exact h.size,fun k H I A=>(Below.heap_setCell j ⟨q,i,none⟩ u k A).trans (h.block k H I A),h.sub⟩
theorem IS.under {z:Nat} {S S':Sv} {w w':World} {j:Nat} {q:PS} (h:IS z S w S' w') (I:j≤w.heap.size) (A:Own w j S q) (J:j≤z):Below j w w':=
 ⟨h.os,h.tape,h.output,h.size,fun k H=>h.block k (by omega) (fun g=>by have:=(A.has g).1;omega) (by omega)⟩
theorem zdH {w:World} {b:Nat} {t:TypeId} {v0 v1 v2 v3:Value} (h:w.heap[b]? =some (.cells #[v0,v1,v2,v3] t (0,0))):
  w.cell? ⟨b,0,none⟩=some v0∧w.cell? ⟨b,1,none⟩=some v1∧w.cell? ⟨b,2,none⟩=some v2∧w.cell? ⟨b,3,none⟩=some v3∧∀i,w.frozen? ⟨b,i,none⟩=false:=by
 refine⟨?_,?_,?_,?_,fun i=>?_⟩<;>simp[World.cell?,World.frozen?,h]
theorem zhv {w:World} {b:Nat} {v0 v1 v2 v3 x0 x1 x2 x3:Value} {t:TypeId} (h:w.heap[b]? =some (.cells #[v0,v1,v2,v3] t (0,0))):
  ((((w.setCell ⟨b,0,none⟩ x0).setCell ⟨b,1,none⟩ x1).setCell ⟨b,2,none⟩ x2).setCell ⟨b,3,none⟩ x3).heap[b]? =some (.cells #[x0,x1,x2,x3] t (0,0)):=by
 have e:=zaz (i:=3) (u:=x3) (zaz (i:=2) (u:=x2) (zaz (i:=1) (u:=x1) (zaz (i:=0) (u:=x0) h)))
 rw[e]
 simp
theorem zja {B:Nat} {a w:World} {b:Nat} (h:Below B a w) (j:B≤b) (x0 x1 x2 x3:Value):Below B a ((((w.setCell ⟨b,0,none⟩ x0).setCell ⟨b,1,none⟩ x1).setCell ⟨b,2,none⟩ x2).setCell ⟨b,3,none⟩ x3):=(((h.setCell j _).setCell j _).setCell j _).setCell j _
theorem zjb {B:Nat} {a w:World} (h:Below B a w) (n:Nat):Below B a (w.drewN n):=⟨h.os,h.tape,h.output,h.size,h.block⟩
theorem IM.set {C:Cx} {I A j H b:Nat} {S:Sv} {q:PS} {w:World} (h:IM C I A j H S q w) (M:b≠H) (L:b≠I) (N: ¬S.has b) (i:Nat) (u:Value):IM C I A j H S q (w.setCell ⟨b,i,none⟩ u):=by
 have z: ∀k,k≠b→(w.setCell ⟨b,i,none⟩ u).heap[k]? =w.heap[k]?:=fun k z=>Below.heap_setCell w ⟨b,i,none⟩ _ k z
 have J:(w.setCell ⟨b,i,none⟩ u).heap.size=w.heap.size:=by show (w.heap.modify _ _).size=_;simp
 exact⟨⟨h.mem.own.keep fun k g=>z k fun e=>N (by rw[←e];exact g),h.mem.inv,zbI h.mem.tok (z I L.symm),h.mem.few,by rw[J];exact h.mem.base⟩,(z H M.symm).trans h.cells,h.ge⟩
theorem IM.scratch {C:Cx} {L z j J b:Nat} {S:Sv} {q:PS} {w:World} (h:IM C L z j J S q w) (H:b≠J) (A:b≠L) (I: ¬S.has b) (x0 x1 x2 x3:Value):IM C L z j J S q ((((w.setCell ⟨b,0,none⟩ x0).setCell ⟨b,1,none⟩ x1).setCell ⟨b,2,none⟩ x2).setCell ⟨b,3,none⟩ x3):=
 (((h.set H A I _ _).set H A I _ _).set H A I _ _).set H A I _ _
theorem IS.new {q b:Nat} {S z:Sv} {w j:World} (h:IS q S w z j) (J:w.heap.size≤b) (i:Nat) (u:Value):IS q S w z (j.setCell ⟨b,i,none⟩ u):=
 ⟨h.os,h.tape,h.output,by show _≤(j.heap.modify _ _).size;simp;exact h.size,fun k A I H=>(Below.heap_setCell j ⟨b,i,none⟩ u k (by show k≠b;omega)).trans (h.block k A I H),h.sub⟩
theorem IS.scratch {A b:Nat} {S q:Sv} {w z:World} (h:IS A S w q z) (j:w.heap.size≤b) (x0 x1 x2 x3:Value):IS A S w q ((((z.setCell ⟨b,0,none⟩ x0).setCell ⟨b,1,none⟩ x1).setCell ⟨b,2,none⟩ x2).setCell ⟨b,3,none⟩ x3):=
 (((h.new j _ _).new j _ _).new j _ _).new j _ _
theorem zcA {w:World} {b:Nat} {o o':Obj} (h:w.heap[b]? =some o):(w.alloc o').heap[b]? =some o:=(Below.heap_alloc w o' b (Array.getElem?_eq_some_iff.1 h).1).trans h
theorem IS.alloc {z:Nat} {S j:Sv} {w q:World} (h:IS z S w j q) (o:Obj):IS z S w j (q.alloc o):=h.trans (IS.below ((Below.refl _ _).alloc (Nat.le_refl _) _))
def Pan (p:Nat):Ending:=.panicked [{v:=.iface 156 (.int .i64 p),recovered:=false}]
def zW (C:Cx) (gt cap base gp:Nat) {α:Type} (y:Except Nat α) (st:α→PS) (v:α→Value) (S:Sv) (w:World) (e:Ending) (w':World):Prop:=
 match y with
 | .ok a=>e= .returned (v a)∧∃S',IM C gt cap base gp S' (st a) w'∧IS gp S w S' w'
 | .error p=>e=Pan p∧Below base w w'
end Go.Proofs.YtjdddblpfbmpaaaGreat