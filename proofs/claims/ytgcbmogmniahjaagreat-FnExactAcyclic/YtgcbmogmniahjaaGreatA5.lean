/- Facts and walks that the theorem stands on. -/
import Derived.Test.YtgcbmogmniahjaaGreatA4
import Derived.Deep.Draws
namespace Go.Proofs.YtgcbmogmniahjaaGreat
open Go.RowKit Go.PlainAid
structure IM (C:Cx) (gt cap base gp:Nat) (S:Sv) (q:PS) (w:World):Prop where
 mem:Mem C gt cap base S q w
 cells:w.heap[gp]? =some (.cells #[.slice (some ⟨gt,0,none⟩) C.ts.length cap,.int .i64 q.pos,.int .i64 C.fin,.bool C.scr,.slice S.rq.a q.rq.length S.rq.cap,.slice S.im.a q.im.length S.im.cap,.slice S.ep.a q.ep.length S.ep.cap,.slice S.st.a q.st.length S.st.cap,.slice S.ex.a q.ex.length S.ex.cap,.slice S.la.a q.la.length S.la.cap] 211 (0,0))
 ge:base<=gp
theorem IM.lt {C:Cx} {H z base A:Nat} {S:Sv} {q:PS} {w:World} (h:IM C H z base A S q w):A<w.heap.size:=(aLt h.cells)
theorem IM.free {C:Cx} {H z base A:Nat} {S:Sv} {q:PS} {w:World} (h:IM C H z base A S q w): ¬S.has A:=h.mem.own.other h.cells (by decide) (by decide) (by decide) (by decide) (by decide)
theorem IM.ne {C:Cx} {A z base H:Nat} {S:Sv} {q:PS} {w:World} (h:IM C A z base H S q w):H≠A:=by
 rintro rfl;obtain⟨c,g⟩:=zgf h.mem.tok;rw[h.cells] at g;simp only[Option.some.injEq,Obj.cells.injEq] at g;exact absurd g.2.1 (by decide)
theorem IM.later {C:Cx} {A z base H:Nat} {S:Sv} {q:PS} {w w':World} (h:IM C A z base H S q w) (I:Below w.heap.size w w'):IM C A z base H S q w':=⟨h.mem.later I,(I.block _ h.lt).trans h.cells,h.ge⟩
theorem IM.alloc {C:Cx} {A z base H:Nat} {S:Sv} {q:PS} {w:World} (h:IM C A z base H S q w) (o:Obj):IM C A z base H S q (w.alloc o):=h.later ((Below.refl _ _).alloc (Nat.le_refl _) _)
theorem IM.drew {C:Cx} {A z base H:Nat} {S:Sv} {q:PS} {w:World} (h:IM C A z base H S q w):IM C A z base H S q w.drew:=⟨⟨⟨h.mem.own.rq,h.mem.own.im,h.mem.own.ep,h.mem.own.st,h.mem.own.ex,h.mem.own.la,h.mem.own.apart⟩,h.mem.inv,h.mem.tok,h.mem.few,h.mem.base⟩,h.cells,h.ge⟩
structure Box10 (w:World) (b:Nat) (v0 v1 v2 v3 v4 v5 v6 v7 v8 v9:Value):Prop where
 c0:w.cell? ⟨b,0,none⟩=some v0
 c1:w.cell? ⟨b,1,none⟩=some v1
 c2:w.cell? ⟨b,2,none⟩=some v2
 c3:w.cell? ⟨b,3,none⟩=some v3
 c4:w.cell? ⟨b,4,none⟩=some v4
 c5:w.cell? ⟨b,5,none⟩=some v5
 c6:w.cell? ⟨b,6,none⟩=some v6
 c7:w.cell? ⟨b,7,none⟩=some v7
 c8:w.cell? ⟨b,8,none⟩=some v8
 c9:w.cell? ⟨b,9,none⟩=some v9
 fz: ∀i,w.frozen? ⟨b,i,none⟩=false
theorem zah {w:World} {b:Nat} {t:TypeId} {v0 v1 v2 v3 v4 z q I H A:Value} (h:w.heap[b]? =some (.cells #[v0,v1,v2,v3,v4,z,q,I,H,A] t (0,0))):Box10 w b v0 v1 v2 v3 v4 z q I H A:=by
 constructor<;>simp[World.cell?,World.frozen?,h]
theorem IM.adv {C:Cx} {I A base z:Nat} {S:Sv} {q:PS} {w:World} (h:IM C I A base z S q w) (K:q.pos<C.ts.length):IM C I A base z S (adv q) (w.setCell ⟨z,1,none⟩ (.int .i64 ((q.pos:Int)+1))):=by
 have H: ∀k,k≠z->(w.setCell ⟨z,1,none⟩ (.int .i64 ((q.pos:Int)+1))).heap[k]? =w.heap[k]?:=fun k H=>Below.heap_setCell w ⟨z,1,none⟩ _ k H;have J:(w.setCell ⟨z,1,none⟩ (.int .i64 ((q.pos:Int)+1))).heap.size=w.heap.size:=by show (w.heap.modify _ _).size=_;simp
 refine⟨⟨(h.mem.own.keep fun k g=>H k fun e=>h.free (by rw[<-e];exact g)).to rfl rfl rfl rfl rfl rfl,⟨K,h.mem.inv.rq,h.mem.inv.im,h.mem.inv.ep,h.mem.inv.st,h.mem.inv.ex⟩,zbI h.mem.tok (H I h.ne.symm),h.mem.few,by rw[J];exact h.mem.base⟩,?_,h.ge⟩;rw[zac h.cells];simp[Go.Proofs.YtgcbmogmniahjaaGreat.adv]
structure IS (gp:Nat) (S:Sv) (w:World) (S':Sv) (w':World):Prop where
 os:w'.os=w.os
 tape:w'.tape=w.tape
 output:w'.output=w.output
 size:w.heap.size<=w'.heap.size
 block: ∀k,k<w.heap.size->¬S.has k->k≠gp->w'.heap[k]? =w.heap[k]?
 sub: ∀k,S'.has k->S.has k∨w.heap.size<=k
theorem IS.refl (q:Nat) (S:Sv) (w:World):IS q S w S w:=⟨rfl,rfl,rfl,Nat.le_refl _,fun _ _ _ _=>rfl,fun _ h=>.inl h⟩
theorem IS.trans {z:Nat} {S I A:Sv} {w H J:World} (h:IS z S w I H) (k:IS z I H A J):IS z S w A J:=
 ⟨k.os.trans h.os,k.tape.trans h.tape,k.output.trans h.output,Nat.le_trans h.size k.size,
  fun i q L K=>(k.block i (Nat.lt_of_lt_of_le q h.size) (fun g=>(h.sub i g).elim L fun M=>by omega) K).trans (h.block i q L K),
  fun i q=>(k.sub i q).elim (h.sub i) fun g=>.inr (Nat.le_trans h.size g)⟩
theorem IS.below {z:Nat} {S:Sv} {w w':World} (h:Below w.heap.size w w'):IS z S w S w':=⟨h.os,h.tape,h.output,h.size,fun k q _ _=>h.block k q,fun _ g=>.inl g⟩
theorem IS.set {z:Nat} {S A:Sv} {w q:World} (h:IS z S w A q) (i:Nat) (u:Value):IS z S w A (q.setCell ⟨z,i,none⟩ u):=
 ⟨h.os,h.tape,h.output,by show _<=(q.heap.modify _ _).size;simp;exact h.size,fun k I J H=>(Below.heap_setCell q ⟨z,i,none⟩ u k H).trans (h.block k I J H),h.sub⟩
theorem IS.under {z:Nat} {S A:Sv} {w w':World} {base:Nat} {q:PS} (h:IS z S w A w') (J:base<=w.heap.size) (H:Own w base S q) (K:base<=z):Below base w w':=
 ⟨h.os,h.tape,h.output,h.size,fun k I=>h.block k (by omega) (fun g=>by have:=(H.has g).1;omega) (by omega)⟩
theorem zbJ {w:World} {b:Nat} {t:TypeId} {v0 v1 v2 v3:Value} (h:w.heap[b]? =some (.cells #[v0,v1,v2,v3] t (0,0))):
  w.cell? ⟨b,0,none⟩=some v0/\w.cell? ⟨b,1,none⟩=some v1/\w.cell? ⟨b,2,none⟩=some v2/\w.cell? ⟨b,3,none⟩=some v3/\∀i,w.frozen? ⟨b,i,none⟩=false:=by
 refine⟨?_,?_,?_,?_,fun i=>?_⟩<;>simp[World.cell?,World.frozen?,h]
theorem zh3 {w:World} {b:Nat} {v0 v1 v2 v3 q A z H:Value} {t:TypeId} (h:w.heap[b]? =some (.cells #[v0,v1,v2,v3] t (0,0))):
  ((((w.setCell ⟨b,0,none⟩ q).setCell ⟨b,1,none⟩ A).setCell ⟨b,2,none⟩ z).setCell ⟨b,3,none⟩ H).heap[b]? =some (.cells #[q,A,z,H] t (0,0)):=by
 have e:=zac (i:=3) (u:=H) (zac (i:=2) (u:=z) (zac (i:=1) (u:=A) (zac (i:=0) (u:=q) h)));rw[e];simp
theorem zj0 {B:Nat} {a w:World} {b:Nat} (h:Below B a w) (q:B<=b) (z A I H:Value):Below B a ((((w.setCell ⟨b,0,none⟩ z).setCell ⟨b,1,none⟩ A).setCell ⟨b,2,none⟩ I).setCell ⟨b,3,none⟩ H):=(((h.setCell q _).setCell q _).setCell q _).setCell q _
theorem zj1 {B:Nat} {a w:World} (h:Below B a w) (n:Nat):Below B a (w.drewN n):=⟨h.os,h.tape,h.output,h.size,h.block⟩
theorem IM.set {C:Cx} {I A base H b:Nat} {S:Sv} {q:PS} {w:World} (h:IM C I A base H S q w) (L:b≠H) (K:b≠I) (M: ¬S.has b) (i:Nat) (u:Value):IM C I A base H S q (w.setCell ⟨b,i,none⟩ u):=by
 have z: ∀k,k≠b->(w.setCell ⟨b,i,none⟩ u).heap[k]? =w.heap[k]?:=fun k z=>Below.heap_setCell w ⟨b,i,none⟩ _ k z;have J:(w.setCell ⟨b,i,none⟩ u).heap.size=w.heap.size:=by show (w.heap.modify _ _).size=_;simp
 exact⟨⟨h.mem.own.keep fun k g=>z k fun e=>M (by rw[<-e];exact g),h.mem.inv,zbI h.mem.tok (z I K.symm),h.mem.few,by rw[J];exact h.mem.base⟩,(z H L.symm).trans h.cells,h.ge⟩
theorem IM.scratch {C:Cx} {K z base J b:Nat} {S:Sv} {q:PS} {w:World} (h:IM C K z base J S q w) (H:b≠J) (A:b≠K) (I: ¬S.has b) (L M O N:Value):IM C K z base J S q ((((w.setCell ⟨b,0,none⟩ L).setCell ⟨b,1,none⟩ M).setCell ⟨b,2,none⟩ O).setCell ⟨b,3,none⟩ N):=
 (((h.set H A I _ _).set H A I _ _).set H A I _ _).set H A I _ _
theorem IS.new {z b:Nat} {S A:Sv} {w q:World} (h:IS z S w A q) (K:w.heap.size<=b) (i:Nat) (u:Value):IS z S w A (q.setCell ⟨b,i,none⟩ u):=
 ⟨h.os,h.tape,h.output,by show _<=(q.heap.modify _ _).size;simp;exact h.size,fun k H J I=>(Below.heap_setCell q ⟨b,i,none⟩ u k (by show k≠b;omega)).trans (h.block k H J I),h.sub⟩
theorem IS.scratch {A b:Nat} {S H:Sv} {w z:World} (h:IS A S w H z) (q:w.heap.size<=b) (I J L K:Value):IS A S w H ((((z.setCell ⟨b,0,none⟩ I).setCell ⟨b,1,none⟩ J).setCell ⟨b,2,none⟩ L).setCell ⟨b,3,none⟩ K):=
 (((h.new q _ _).new q _ _).new q _ _).new q _ _
theorem zcE {w:World} {b:Nat} {o o':Obj} (h:w.heap[b]? =some o):(w.alloc o').heap[b]? =some o:=(Below.heap_alloc w o' b (aLt h)).trans h
theorem IS.alloc {A:Nat} {S q:Sv} {w z:World} (h:IS A S w q z) (o:Obj):IS A S w q (z.alloc o):=h.trans (IS.below ((Below.refl _ _).alloc (Nat.le_refl _) _))
def Pan (p:Nat):Ending:=.panicked [{v:=.iface 207 (.int .i64 p),recovered:=false}]
def zU (C:Cx) (gt cap base gp:Nat) {α:Type} (y:Except Nat α) (st:α->PS) (v:α->Value) (S:Sv) (w:World) (e:Ending) (w':World):Prop:=
 match y with
 | .ok a=>e= .returned (v a)/\∃S',IM C gt cap base gp S' (st a) w'/\IS gp S w S' w'
 | .error p=>e=Pan p/\Below base w w'
end Go.Proofs.YtgcbmogmniahjaaGreat
