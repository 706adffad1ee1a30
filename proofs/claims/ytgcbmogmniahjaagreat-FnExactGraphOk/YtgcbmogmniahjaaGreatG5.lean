/- Facts and walks that the theorem stands on. -/
import Derived.Test.YtgcbmogmniahjaaGreatG4
import Derived.Deep.Draws
namespace Go.Proofs.YtgcbmogmniahjaaGreat
open Go.RowKit Go.PlainAid
structure IM (C:Cx) (gt cap base gp:Nat) (S:Sv) (q:PS) (w:World):Prop where
 mem:Mem C gt cap base S q w
 cells:w.heap[gp]? =some (.cells #[.slice (some ⟨gt,0,none⟩) C.ts.length cap,.int .i64 q.pos,.int .i64 C.fin,.bool C.scr,.slice S.rq.a q.rq.length S.rq.cap,.slice S.im.a q.im.length S.im.cap,.slice S.ep.a q.ep.length S.ep.cap,.slice S.st.a q.st.length S.st.cap,.slice S.ex.a q.ex.length S.ex.cap,.slice S.la.a q.la.length S.la.cap] 211 (0,0))
 ge:base<=gp
theorem IM.lt {C:Cx} {D z base A:Nat} {S:Sv} {q:PS} {w:World} (h:IM C D z base A S q w):A<w.heap.size:=(aLt h.cells)
theorem IM.free {C:Cx} {D z base A:Nat} {S:Sv} {q:PS} {w:World} (h:IM C D z base A S q w): ¬S.has A:=h.mem.own.other h.cells (by decide) (by decide) (by decide) (by decide) (by decide)
theorem IM.ne {C:Cx} {A z base D:Nat} {S:Sv} {q:PS} {w:World} (h:IM C A z base D S q w):D≠A:=by
 rintro rfl;obtain⟨c,g⟩:=zfW h.mem.tok;rw[h.cells] at g;simp only[Option.some.injEq,Obj.cells.injEq] at g;exact absurd g.2.1 (by decide)
theorem IM.later {C:Cx} {H z base A:Nat} {S:Sv} {q:PS} {w D:World} (h:IM C H z base A S q w) (E:Below w.heap.size w D):IM C H z base A S q D:=⟨h.mem.later E,(E.block _ h.lt).trans h.cells,h.ge⟩
theorem IM.alloc {C:Cx} {A z base D:Nat} {S:Sv} {q:PS} {w:World} (h:IM C A z base D S q w) (o:Obj):IM C A z base D S q (w.alloc o):=h.later ((Below.refl _ _).alloc (Nat.le_refl _) _)
theorem IM.drew {C:Cx} {A z base D:Nat} {S:Sv} {q:PS} {w:World} (h:IM C A z base D S q w):IM C A z base D S q w.drew:=⟨⟨⟨h.mem.own.rq,h.mem.own.im,h.mem.own.ep,h.mem.own.st,h.mem.own.ex,h.mem.own.la,h.mem.own.apart⟩,h.mem.inv,h.mem.tok,h.mem.few,h.mem.base⟩,h.cells,h.ge⟩
structure Box10 (w:World) (b:Nat) (v0 v1 v2 v3 v4 v5 v6 v7 v8 v9:Value):Prop where
 c0:w.cell? ⟨b,0,none⟩=some v0
 c1:w.cell? ⟨b,1,none⟩=some v1
 c2:w.cell? ⟨b,2,none⟩=some v2
 c3:w.cell? ⟨b,3,none⟩=some v3
 c4:w.cell? ⟨b,4,none⟩=some v4
 c5:w.cell? ⟨b,5,none⟩=some v5
 c6:w.cell? ⟨b,6,none⟩=some v6
 c7:w.cell? ⟨b,7,none⟩=some v7
 c8:w.cell? ⟨b,8,none⟩=some v8
 c9:w.cell? ⟨b,9,none⟩=some v9
 fz: ∀i,w.frozen? ⟨b,i,none⟩=false
theorem zag {w:World} {b:Nat} {t:TypeId} {v0 v1 v2 v3 v4 z q E D A:Value} (h:w.heap[b]? =some (.cells #[v0,v1,v2,v3,v4,z,q,E,D,A] t (0,0))):Box10 w b v0 v1 v2 v3 v4 z q E D A:=by
 constructor<;>simp[World.cell?,World.frozen?,h]
theorem IM.adv {C:Cx} {E A base z:Nat} {S:Sv} {q:PS} {w:World} (h:IM C E A base z S q w) (I:q.pos<C.ts.length):IM C E A base z S (adv q) (w.setCell ⟨z,1,none⟩ (.int .i64 ((q.pos:Int)+1))):=by
 have D: ∀k,k≠z->(w.setCell ⟨z,1,none⟩ (.int .i64 ((q.pos:Int)+1))).heap[k]? =w.heap[k]?:=fun k D=>Below.heap_setCell w ⟨z,1,none⟩ _ k D;have H:(w.setCell ⟨z,1,none⟩ (.int .i64 ((q.pos:Int)+1))).heap.size=w.heap.size:=by show (w.heap.modify _ _).size=_;simp
 refine⟨⟨(h.mem.own.keep fun k g=>D k fun e=>h.free (by rw[<-e];exact g)).to rfl rfl rfl rfl rfl rfl,⟨I,h.mem.inv.rq,h.mem.inv.im,h.mem.inv.ep,h.mem.inv.st,h.mem.inv.ex⟩,zbG h.mem.tok (D E h.ne.symm),h.mem.few,by rw[H];exact h.mem.base⟩,?_,h.ge⟩;rw[zab h.cells];simp[Go.Proofs.YtgcbmogmniahjaaGreat.adv]
structure IS (gp:Nat) (S:Sv) (w:World) (S':Sv) (w':World):Prop where
 os:w'.os=w.os
 tape:w'.tape=w.tape
 output:w'.output=w.output
 size:w.heap.size<=w'.heap.size
 block: ∀k,k<w.heap.size->¬S.has k->k≠gp->w'.heap[k]? =w.heap[k]?
 sub: ∀k,S'.has k->S.has k∨w.heap.size<=k
theorem IS.refl (q:Nat) (S:Sv) (w:World):IS q S w S w:=⟨rfl,rfl,rfl,Nat.le_refl _,fun _ _ _ _=>rfl,fun _ h=>.inl h⟩
theorem IS.trans {z:Nat} {S E A:Sv} {w D H:World} (h:IS z S w E D) (k:IS z E D A H):IS z S w A H:=
 ⟨k.os.trans h.os,k.tape.trans h.tape,k.output.trans h.output,Nat.le_trans h.size k.size,
  fun i q J I=>(k.block i (Nat.lt_of_lt_of_le q h.size) (fun g=>(h.sub i g).elim J fun K=>by omega) I).trans (h.block i q J I),
  fun i q=>(k.sub i q).elim (h.sub i) fun g=>.inr (Nat.le_trans h.size g)⟩
theorem IS.below {A:Nat} {S:Sv} {w q:World} (h:Below w.heap.size w q):IS A S w S q:=⟨h.os,h.tape,h.output,h.size,fun k z _ _=>h.block k z,fun _ g=>.inl g⟩
theorem IS.set {z:Nat} {S A:Sv} {w q:World} (h:IS z S w A q) (i:Nat) (u:Value):IS z S w A (q.setCell ⟨z,i,none⟩ u):=
 ⟨h.os,h.tape,h.output,by show _<=(q.heap.modify _ _).size;simp;exact h.size,fun k E H D=>(Below.heap_setCell q ⟨z,i,none⟩ u k D).trans (h.block k E H D),h.sub⟩
theorem IS.under {z:Nat} {S D:Sv} {w A:World} {base:Nat} {q:PS} (h:IS z S w D A) (I:base<=w.heap.size) (E:Own w base S q) (J:base<=z):Below base w A:=
 ⟨h.os,h.tape,h.output,h.size,fun k H=>h.block k (by omega) (fun g=>by have:=(E.has g).1;omega) (by omega)⟩
theorem zbH {w:World} {b:Nat} {t:TypeId} {v0 v1 v2 v3:Value} (h:w.heap[b]? =some (.cells #[v0,v1,v2,v3] t (0,0))):
  w.cell? ⟨b,0,none⟩=some v0/\w.cell? ⟨b,1,none⟩=some v1/\w.cell? ⟨b,2,none⟩=some v2/\w.cell? ⟨b,3,none⟩=some v3/\∀i,w.frozen? ⟨b,i,none⟩=false:=by
 refine⟨?_,?_,?_,?_,fun i=>?_⟩<;>simp[World.cell?,World.frozen?,h]
theorem zhp {w:World} {b:Nat} {v0 v1 v2 v3 q A z D:Value} {t:TypeId} (h:w.heap[b]? =some (.cells #[v0,v1,v2,v3] t (0,0))):
  ((((w.setCell ⟨b,0,none⟩ q).setCell ⟨b,1,none⟩ A).setCell ⟨b,2,none⟩ z).setCell ⟨b,3,none⟩ D).heap[b]? =some (.cells #[q,A,z,D] t (0,0)):=by
 have e:=zab (i:=3) (u:=D) (zab (i:=2) (u:=z) (zab (i:=1) (u:=A) (zab (i:=0) (u:=q) h)));rw[e];simp
theorem zjh {B:Nat} {a w:World} {b:Nat} (h:Below B a w) (q:B<=b) (z A E D:Value):Below B a ((((w.setCell ⟨b,0,none⟩ z).setCell ⟨b,1,none⟩ A).setCell ⟨b,2,none⟩ E).setCell ⟨b,3,none⟩ D):=(((h.setCell q _).setCell q _).setCell q _).setCell q _
theorem zji {B:Nat} {a w:World} (h:Below B a w) (n:Nat):Below B a (w.drewN n):=⟨h.os,h.tape,h.output,h.size,h.block⟩
theorem IM.set {C:Cx} {E A base D b:Nat} {S:Sv} {q:PS} {w:World} (h:IM C E A base D S q w) (J:b≠D) (I:b≠E) (K: ¬S.has b) (i:Nat) (u:Value):IM C E A base D S q (w.setCell ⟨b,i,none⟩ u):=by
 have z: ∀k,k≠b->(w.setCell ⟨b,i,none⟩ u).heap[k]? =w.heap[k]?:=fun k z=>Below.heap_setCell w ⟨b,i,none⟩ _ k z;have H:(w.setCell ⟨b,i,none⟩ u).heap.size=w.heap.size:=by show (w.heap.modify _ _).size=_;simp
 exact⟨⟨h.mem.own.keep fun k g=>z k fun e=>K (by rw[<-e];exact g),h.mem.inv,zbG h.mem.tok (z E I.symm),h.mem.few,by rw[H];exact h.mem.base⟩,(z D J.symm).trans h.cells,h.ge⟩
theorem IM.scratch {C:Cx} {I z base H b:Nat} {S:Sv} {q:PS} {w:World} (h:IM C I z base H S q w) (D:b≠H) (A:b≠I) (E: ¬S.has b) (J K M L:Value):IM C I z base H S q ((((w.setCell ⟨b,0,none⟩ J).setCell ⟨b,1,none⟩ K).setCell ⟨b,2,none⟩ M).setCell ⟨b,3,none⟩ L):=
 (((h.set D A E _ _).set D A E _ _).set D A E _ _).set D A E _ _
theorem IS.new {z b:Nat} {S A:Sv} {w q:World} (h:IS z S w A q) (I:w.heap.size<=b) (i:Nat) (u:Value):IS z S w A (q.setCell ⟨b,i,none⟩ u):=
 ⟨h.os,h.tape,h.output,by show _<=(q.heap.modify _ _).size;simp;exact h.size,fun k D H E=>(Below.heap_setCell q ⟨b,i,none⟩ u k (by show k≠b;omega)).trans (h.block k D H E),h.sub⟩
theorem IS.scratch {A b:Nat} {S D:Sv} {w z:World} (h:IS A S w D z) (q:w.heap.size<=b) (E H J I:Value):IS A S w D ((((z.setCell ⟨b,0,none⟩ E).setCell ⟨b,1,none⟩ H).setCell ⟨b,2,none⟩ J).setCell ⟨b,3,none⟩ I):=
 (((h.new q _ _).new q _ _).new q _ _).new q _ _
theorem zc9 {w:World} {b:Nat} {o o':Obj} (h:w.heap[b]? =some o):(w.alloc o').heap[b]? =some o:=(Below.heap_alloc w o' b (aLt h)).trans h
theorem IS.alloc {A:Nat} {S q:Sv} {w z:World} (h:IS A S w q z) (o:Obj):IS A S w q (z.alloc o):=h.trans (IS.below ((Below.refl _ _).alloc (Nat.le_refl _) _))
def Pan (p:Nat):Ending:=.panicked [{v:=.iface 207 (.int .i64 p),recovered:=false}]
def zT (C:Cx) (gt cap base gp:Nat) {α:Type} (y:Except Nat α) (st:α->PS) (v:α->Value) (S:Sv) (w:World) (e:Ending) (w':World):Prop:=
 match y with
 | .ok a=>e= .returned (v a)/\∃S',IM C gt cap base gp S' (st a) w'/\IS gp S w S' w'
 | .error p=>e=Pan p/\Below base w w'
end Go.Proofs.YtgcbmogmniahjaaGreat
