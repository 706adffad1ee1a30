/-
 impl's parser in memory: its ten cells beside the six rows. No program is spoken of but for the numbers of its types.
-/
import Derived.Test.YtcidlffeeninbaaGreatClParseMemToModMem
import Derived.Deep.Draws
namespace Go.Proofs.YtcidlffeeninbaaGreat
open Go.RowKit Go.PlainAid
structure IM (C:Cx) (gt cap base gp:Nat) (S:Sv) (q:PS) (w:World):Prop where
 mem:Mem C gt cap base S q w
 cells:w.heap[gp]? =some (.cells #[.slice (some ⟨gt,0,none⟩) C.ts.length cap,.int .i64 q.pos,.int .i64 C.fin,.bool C.scr,.slice S.rq.a q.rq.length S.rq.cap,.slice S.im.a q.im.length S.im.cap,.slice S.ep.a q.ep.length S.ep.cap,.slice S.st.a q.st.length S.st.cap,.slice S.ex.a q.ex.length S.ex.cap,.slice S.la.a q.la.length S.la.cap] 164 (0,0))
 ge:base≤gp
theorem IM.lt {C:Cx} {E A z D:Nat} {S:Sv} {q:PS} {w:World} (h:IM C E A z D S q w):D<w.heap.size:=(Array.getElem?_eq_some_iff.1 h.cells).1
theorem IM.free {C:Cx} {E A z D:Nat} {S:Sv} {q:PS} {w:World} (h:IM C E A z D S q w): ¬S.has D:=h.mem.own.other h.cells (by decide) (by decide) (by decide) (by decide) (by decide)
theorem IM.ne {C:Cx} {D A z E:Nat} {S:Sv} {q:PS} {w:World} (h:IM C D A z E S q w):E≠D:=by
 rintro rfl
 obtain⟨c,g⟩:=zfT h.mem.tok
 rw[h.cells] at g
 simp only[Option.some.injEq,Obj.cells.injEq] at g
 exact absurd g.2.1 (by decide)
theorem IM.later {C:Cx} {I A z H:Nat} {S:Sv} {q:PS} {w D:World} (h:IM C I A z H S q w) (E:Below w.heap.size w D):IM C I A z H S q D:=⟨h.mem.later E,(E.block _ h.lt).trans h.cells,h.ge⟩
theorem IM.alloc {C:Cx} {D A z E:Nat} {S:Sv} {q:PS} {w:World} (h:IM C D A z E S q w) (o:Obj):IM C D A z E S q (w.alloc o):=h.later ((Below.refl _ _).alloc (Nat.le_refl _) _)
theorem IM.drew {C:Cx} {D A z E:Nat} {S:Sv} {q:PS} {w:World} (h:IM C D A z E S q w):IM C D A z E S q w.drew:=⟨⟨⟨h.mem.own.rq,h.mem.own.im,h.mem.own.ep,h.mem.own.st,h.mem.own.ex,h.mem.own.la,h.mem.own.apart⟩,h.mem.inv,h.mem.tok,h.mem.few,h.mem.base⟩,h.cells,h.ge⟩
structure Box10 (w:World) (b:Nat) (v0 v1 v2 v3 v4 v5 v6 v7 v8 v9:Value):Prop where
 c0:w.cell? ⟨b,0,none⟩=some v0
 c1:w.cell? ⟨b,1,none⟩=some v1
 c2:w.cell? ⟨b,2,none⟩=some v2
 c3:w.cell? ⟨b,3,none⟩=some v3
 c4:w.cell? ⟨b,4,none⟩=some v4
 c5:w.cell? ⟨b,5,none⟩=some v5
 c6:w.cell? ⟨b,6,none⟩=some v6
 c7:w.cell? ⟨b,7,none⟩=some v7
 c8:w.cell? ⟨b,8,none⟩=some v8
 c9:w.cell? ⟨b,9,none⟩=some v9
 fz: ∀i,w.frozen? ⟨b,i,none⟩=false
theorem zah {w:World} {b:Nat} {t:TypeId} {z I E H J q D L A K:Value} (h:w.heap[b]? =some (.cells #[z,I,E,H,J,q,D,L,A,K] t (0,0))):Box10 w b z I E H J q D L A K:=by
 constructor<;>simp[World.cell?,World.frozen?,h]
theorem IM.adv {C:Cx} {I D z A:Nat} {S:Sv} {q:PS} {w:World} (h:IM C I D z A S q w) (J:q.pos<C.ts.length):IM C I D z A S (adv q) (w.setCell ⟨A,1,none⟩ (.int .i64 ((q.pos:Int)+1))):=by
 have E: ∀k,k≠A→(w.setCell ⟨A,1,none⟩ (.int .i64 ((q.pos:Int)+1))).heap[k]? =w.heap[k]?:=fun k E=>Below.heap_setCell w ⟨A,1,none⟩ _ k E
 have H:(w.setCell ⟨A,1,none⟩ (.int .i64 ((q.pos:Int)+1))).heap.size=w.heap.size:=by show (w.heap.modify _ _).size=_;simp
 refine⟨⟨(h.mem.own.keep fun k g=>E k fun e=>h.free (by rw[←e];exact g)).to rfl rfl rfl rfl rfl rfl,⟨J,h.mem.inv.rq,h.mem.inv.im,h.mem.inv.ep,h.mem.inv.st,h.mem.inv.ex⟩,zbE h.mem.tok (E I h.ne.symm),h.mem.few,by rw[H];exact h.mem.base⟩,?_,h.ge⟩
 rw[zag h.cells]
 simp[Go.Proofs.YtcidlffeeninbaaGreat.adv]
structure IS (gp:Nat) (S:Sv) (w:World) (S':Sv) (w':World):Prop where
 os:w'.os=w.os
 tape:w'.tape=w.tape
 output:w'.output=w.output
 size:w.heap.size≤w'.heap.size
 block: ∀k,k<w.heap.size→¬S.has k→k≠gp→w'.heap[k]? =w.heap[k]?
 sub: ∀k,S'.has k→S.has k∨w.heap.size≤k
theorem IS.refl (q:Nat) (S:Sv) (w:World):IS q S w S w:=⟨rfl,rfl,rfl,Nat.le_refl _,fun _ _ _ _=>rfl,fun _ h=>.inl h⟩
theorem IS.trans {z:Nat} {S J D:Sv} {w A H:World} (h:IS z S w J A) (k:IS z J A D H):IS z S w D H:=
 ⟨k.os.trans h.os,k.tape.trans h.tape,k.output.trans h.output,Nat.le_trans h.size k.size,
  fun i q I E=>(k.block i (Nat.lt_of_lt_of_le q h.size) (fun g=>(h.sub i g).elim I fun K=>by omega) E).trans (h.block i q I E),
  fun i q=>(k.sub i q).elim (h.sub i) fun g=>.inr (Nat.le_trans h.size g)⟩
theorem IS.below {A:Nat} {S:Sv} {w q:World} (h:Below w.heap.size w q):IS A S w S q:=⟨h.os,h.tape,h.output,h.size,fun k z _ _=>h.block k z,fun _ g=>.inl g⟩
theorem IS.set {z:Nat} {S D:Sv} {w q:World} (h:IS z S w D q) (i:Nat) (u:Value):IS z S w D (q.setCell ⟨z,i,none⟩ u):=
 ⟨h.os,h.tape,h.output,by show _≤(q.heap.modify _ _).size;simp;exact h.size,fun k H E A=>(Below.heap_setCell q ⟨z,i,none⟩ u k A).trans (h.block k H E A),h.sub⟩
theorem IS.under {D:Nat} {S H:Sv} {w A:World} {z:Nat} {q:PS} (h:IS D S w H A) (J:z≤w.heap.size) (E:Own w z S q) (I:z≤D):Below z w A:=
 ⟨h.os,h.tape,h.output,h.size,fun k K=>h.block k (by omega) (fun g=>by have:=(E.has g).1;omega) (by omega)⟩
theorem zb1 {w:World} {b:Nat} {t:TypeId} {D z A q:Value} (h:w.heap[b]? =some (.cells #[D,z,A,q] t (0,0))):
  w.cell? ⟨b,0,none⟩=some D∧w.cell? ⟨b,1,none⟩=some z∧w.cell? ⟨b,2,none⟩=some A∧w.cell? ⟨b,3,none⟩=some q∧∀i,w.frozen? ⟨b,i,none⟩=false:=by
 refine⟨?_,?_,?_,?_,fun i=>?_⟩<;>simp[World.cell?,World.frozen?,h]
theorem zhh {w:World} {b:Nat} {E J H I q D z A:Value} {t:TypeId} (h:w.heap[b]? =some (.cells #[E,J,H,I] t (0,0))):
  ((((w.setCell ⟨b,0,none⟩ q).setCell ⟨b,1,none⟩ D).setCell ⟨b,2,none⟩ z).setCell ⟨b,3,none⟩ A).heap[b]? =some (.cells #[q,D,z,A] t (0,0)):=by
 have e:=zag (i:=3) (u:=A) (zag (i:=2) (u:=z) (zag (i:=1) (u:=D) (zag (i:=0) (u:=q) h)))
 rw[e]
 simp
theorem ziT {B:Nat} {a w:World} {b:Nat} (h:Below B a w) (q:B≤b) (A E z D:Value):Below B a ((((w.setCell ⟨b,0,none⟩ A).setCell ⟨b,1,none⟩ E).setCell ⟨b,2,none⟩ z).setCell ⟨b,3,none⟩ D):=(((h.setCell q _).setCell q _).setCell q _).setCell q _
theorem ziU {B:Nat} {a w:World} (h:Below B a w) (n:Nat):Below B a (w.drewN n):=⟨h.os,h.tape,h.output,h.size,h.block⟩
theorem IM.set {C:Cx} {H D z E b:Nat} {S:Sv} {q:PS} {w:World} (h:IM C H D z E S q w) (K:b≠E) (L:b≠H) (J: ¬S.has b) (i:Nat) (u:Value):IM C H D z E S q (w.setCell ⟨b,i,none⟩ u):=by
 have A: ∀k,k≠b→(w.setCell ⟨b,i,none⟩ u).heap[k]? =w.heap[k]?:=fun k A=>Below.heap_setCell w ⟨b,i,none⟩ _ k A
 have I:(w.setCell ⟨b,i,none⟩ u).heap.size=w.heap.size:=by show (w.heap.modify _ _).size=_;simp
 exact⟨⟨h.mem.own.keep fun k g=>A k fun e=>J (by rw[←e];exact g),h.mem.inv,zbE h.mem.tok (A H L.symm),h.mem.few,by rw[I];exact h.mem.base⟩,(A E K.symm).trans h.cells,h.ge⟩
theorem IM.scratch {C:Cx} {J A z I b:Nat} {S:Sv} {q:PS} {w:World} (h:IM C J A z I S q w) (E:b≠I) (H:b≠J) (D: ¬S.has b) (L N K M:Value):IM C J A z I S q ((((w.setCell ⟨b,0,none⟩ L).setCell ⟨b,1,none⟩ N).setCell ⟨b,2,none⟩ K).setCell ⟨b,3,none⟩ M):=
 (((h.set E H D _ _).set E H D _ _).set E H D _ _).set E H D _ _
theorem IS.new {z b:Nat} {S A:Sv} {w q:World} (h:IS z S w A q) (I:w.heap.size≤b) (i:Nat) (u:Value):IS z S w A (q.setCell ⟨b,i,none⟩ u):=
 ⟨h.os,h.tape,h.output,by show _≤(q.heap.modify _ _).size;simp;exact h.size,fun k H E D=>(Below.heap_setCell q ⟨b,i,none⟩ u k (by show k≠b;omega)).trans (h.block k H E D),h.sub⟩
theorem IS.scratch {A b:Nat} {S D:Sv} {w z:World} (h:IS A S w D z) (q:w.heap.size≤b) (H J E I:Value):IS A S w D ((((z.setCell ⟨b,0,none⟩ H).setCell ⟨b,1,none⟩ J).setCell ⟨b,2,none⟩ E).setCell ⟨b,3,none⟩ I):=
 (((h.new q _ _).new q _ _).new q _ _).new q _ _
theorem zcA {w:World} {b:Nat} {o o':Obj} (h:w.heap[b]? =some o):(w.alloc o').heap[b]? =some o:=(Below.heap_alloc w o' b (Array.getElem?_eq_some_iff.1 h).1).trans h
theorem IS.alloc {A:Nat} {S z:Sv} {w q:World} (h:IS A S w z q) (o:Obj):IS A S w z (q.alloc o):=h.trans (IS.below ((Below.refl _ _).alloc (Nat.le_refl _) _))
def Pan (p:Nat):Ending:=.panicked [{v:=.iface 160 (.int .i64 p),recovered:=false}]
def zT (C:Cx) (gt cap base gp:Nat) {α:Type} (y:Except Nat α) (st:α→PS) (v:α→Value) (S:Sv) (w:World) (e:Ending) (w':World):Prop:=
 match y with
 | .ok a=>e= .returned (v a)∧∃S',IM C gt cap base gp S' (st a) w'∧IS gp S w S' w'
 | .error p=>e=Pan p∧Below base w w'
end Go.Proofs.YtcidlffeeninbaaGreat