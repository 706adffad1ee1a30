/- Facts. -/
import Derived.Test.YtegdaafmaookjaaGreatP0
import Derived.Deep.Draws
namespace Go.Proofs.YtegdaafmaookjaaGreat
open Go.RowKit Go.PlainAid
structure IM (C:Cx) (gt cap base gp:Nat) (S:Sv) (q:PS) (w:World):Prop where
 mem:Mem C gt cap base S q w
 cells:w.heap[gp]? =some (.cells #[.slice (some ⟨gt,0,none⟩) C.ts.length cap,.int .i64 q.pos,.int .i64 C.fin,.bool C.scr,.slice S.rq.a q.rq.length S.rq.cap,.slice S.im.a q.im.length S.im.cap,.slice S.ep.a q.ep.length S.ep.cap,.slice S.st.a q.st.length S.st.cap,.slice S.ex.a q.ex.length S.ex.cap,.slice S.la.a q.la.length S.la.cap] 222 (0,0))
 ge:base<=gp
variable {C:Cx} {g b c d:Nat} {S T:Sv} {q:PS} {w W:World} {z:TypeId} {s:Value}
theorem IM.lt (h:IM C g b c d S q w):d<w.heap.size:=(aLt h.cells)
theorem IM.free (h:IM C g b c d S q w): ¬S.has d:=h.mem.own.other h.cells (by decide) (by decide) (by decide) (by decide) (by decide)
theorem IM.ne (h:IM C g b c d S q w):d≠g:=by
 rintro rfl;obtain⟨k,n⟩:=zgT h.mem.tok;rw[h.cells] at n;simp only[sI0,Obj.cells.injEq] at n;exact absurd n.2.1 (by decide)
theorem IM.later (h:IM C g b c d S q w) (J:Bw w W):IM C g b c d S q W:=⟨h.mem.later J,(J.block _ h.lt).trans h.cells,h.ge⟩
theorem IM.alloc {base:Nat} (h:IM C g b base c S q w) (o:Obj):IM C g b base c S q (w.alloc o):=h.later (bA0)
theorem IM.drew (h:IM C g b c d S q w):IM C g b c d S q w.drew:=⟨⟨⟨h.mem.own.rq,h.mem.own.im,h.mem.own.ep,h.mem.own.st,h.mem.own.ex,h.mem.own.la,h.mem.own.apart⟩,h.mem.inv,h.mem.tok,h.mem.few,h.mem.base⟩,h.cells,h.ge⟩
structure Box10 (w:World) (b:Nat) (v0 v1 v2 v3 v4 v5 v6 v7 v8 v9:Value):Prop where
 c0:w.cell? ⟨b,0,none⟩=some v0
 c1:w.cell? ⟨b,1,none⟩=some v1
 c2:w.cell? ⟨b,2,none⟩=some v2
 c3:w.cell? ⟨b,3,none⟩=some v3
 c4:w.cell? ⟨b,4,none⟩=some v4
 c5:w.cell? ⟨b,5,none⟩=some v5
 c6:w.cell? ⟨b,6,none⟩=some v6
 c7:w.cell? ⟨b,7,none⟩=some v7
 c8:w.cell? ⟨b,8,none⟩=some v8
 c9:w.cell? ⟨b,9,none⟩=some v9
 fz: ∀i,w.frozen? ⟨b,i,none⟩=false
theorem zan {v1 v2 v3 v4 A q J I H:Value} (h:w.heap[g]? =some (.cells #[s,v1,v2,v3,v4,A,q,J,I,H] z (0,0))):Box10 w g s v1 v2 v3 v4 A q J I H:=by
 constructor<;>simp[World.cell?,World.frozen?,h]
theorem IM.adv {C:Cx} {J H base A:Nat} {S:Sv} {q:PS} {w:World} (h:IM C J H base A S q w) (L:q.pos<C.ts.length):IM C J H base A S (adv q) (w.setCell ⟨A,1,none⟩ (.int .i64 ((q.pos:Int)+1))):=by
 have I: ∀k,k≠A->(w.setCell ⟨A,1,none⟩ (.int .i64 ((q.pos:Int)+1))).heap[k]? =w.heap[k]?:=fun k I=>Below.heap_setCell w ⟨A,1,none⟩ _ k I;have K:(w.setCell ⟨A,1,none⟩ (.int .i64 ((q.pos:Int)+1))).heap.size=w.heap.size:=by show (w.heap.modify _ _).size=_;simp
 refine⟨⟨(h.mem.own.keep fun k g=>I k fun e=>h.free (by rw[<-e];exact g)).to rfl rfl rfl rfl rfl rfl,⟨L,h.mem.inv.rq,h.mem.inv.im,h.mem.inv.ep,h.mem.inv.st,h.mem.inv.ex⟩,zbV h.mem.tok (I J h.ne.symm),h.mem.few,by rw[K];exact h.mem.base⟩,?_,h.ge⟩;rw[zaj h.cells];simp[Go.Proofs.YtegdaafmaookjaaGreat.adv]
structure IS (gp:Nat) (S:Sv) (w:World) (S':Sv) (w':World):Prop where
 os:w'.os=w.os
 tape:w'.tape=w.tape
 output:w'.output=w.output
 size:w.heap.size<=w'.heap.size
 block: ∀k,k<w.heap.size->¬S.has k->k≠gp->w'.heap[k]? =w.heap[k]?
 sub: ∀k,S'.has k->S.has k∨w.heap.size<=k
theorem IS.refl (q:Nat) (S:Sv) (w:World):IS q S w S w:=⟨rfl,rfl,rfl,Nat.le_refl _,fun _ _ _ _=>rfl,fun _ h=>.inl h⟩
theorem IS.trans {H:Sv} {K:World} (h:IS g S w T W) (k:IS g T W H K):IS g S w H K:=
 ⟨k.os.trans h.os,k.tape.trans h.tape,k.output.trans h.output,Nat.le_trans h.size k.size,
  fun i q M L=>(k.block i (Nat.lt_of_lt_of_le q h.size) (fun n=>(h.sub i n).elim M fun N=>by omega) L).trans (h.block i q M L),
  fun i q=>(k.sub i q).elim (h.sub i) fun n=>.inr (Nat.le_trans h.size n)⟩
theorem IS.below (h:Bw w W):IS g S w S W:=⟨h.os,h.tape,h.output,h.size,fun k q _ _=>h.block k q,fun _ n=>.inl n⟩
theorem IS.set (h:IS g S w T W) (i:Nat) (u:Value):IS g S w T (W.setCell ⟨g,i,none⟩ u):=
 ⟨h.os,h.tape,h.output,by show _<=(W.heap.modify _ _).size;simp;exact h.size,fun k J K I=>(Below.heap_setCell W ⟨g,i,none⟩ u k I).trans (h.block k J K I),h.sub⟩
theorem IS.under (h:IS g S w T W) (K:b<=w.heap.size) (I:Own w b S q) (L:b<=g):Below b w W:=
 ⟨h.os,h.tape,h.output,h.size,fun k J=>h.block k (by omega) (fun n=>by have:=(I.has n).1;omega) (by omega)⟩
theorem zbW {v1 v2 v3:Value} (h:w.heap[g]? =some (.cells #[s,v1,v2,v3] z (0,0))):
  w.cell? ⟨g,0,none⟩=some s/\w.cell? ⟨g,1,none⟩=some v1/\w.cell? ⟨g,2,none⟩=some v2/\w.cell? ⟨g,3,none⟩=some v3/\∀i,w.frozen? ⟨g,i,none⟩=false:=by
 refine⟨?_,?_,?_,?_,fun i=>?_⟩<;>simp[World.cell?,World.frozen?,h]
theorem zi4 {v1 v2 v3 q H A I:Value} (h:w.heap[g]? =some (.cells #[s,v1,v2,v3] z (0,0))):
  ((((w.setCell ⟨g,0,none⟩ q).setCell ⟨g,1,none⟩ H).setCell ⟨g,2,none⟩ A).setCell ⟨g,3,none⟩ I).heap[g]? =some (.cells #[q,H,A,I] z (0,0)):=by
 have e:=zaj (i:=3) (u:=I) (zaj (i:=2) (u:=A) (zaj (i:=1) (u:=H) (zaj (i:=0) (u:=q) h)));rw[e];simp
theorem zkB {n:World} (h:Below g w n) (q:g<=b) (A H J I:Value):Below g w ((((n.setCell ⟨b,0,none⟩ A).setCell ⟨b,1,none⟩ H).setCell ⟨b,2,none⟩ J).setCell ⟨b,3,none⟩ I):=(((h.setCell q _).setCell q _).setCell q _).setCell q _
theorem zkC {k:World} (h:Below g w k) (n:Nat):Below g w (k.drewN n):=⟨h.os,h.tape,h.output,h.size,h.block⟩
theorem IM.set {H b:Nat} (h:IM C g H c d S q w) (M:b≠d) (L:b≠g) (N: ¬S.has b) (i:Nat) (u:Value):IM C g H c d S q (w.setCell ⟨b,i,none⟩ u):=by
 have A: ∀k,k≠b->(w.setCell ⟨b,i,none⟩ u).heap[k]? =w.heap[k]?:=fun k A=>Below.heap_setCell w ⟨b,i,none⟩ _ k A;have K:(w.setCell ⟨b,i,none⟩ u).heap.size=w.heap.size:=by show (w.heap.modify _ _).size=_;simp
 exact⟨⟨h.mem.own.keep fun k n=>A k fun e=>N (by rw[<-e];exact n),h.mem.inv,zbV h.mem.tok (A g L.symm),h.mem.few,by rw[K];exact h.mem.base⟩,(A d M.symm).trans h.cells,h.ge⟩
theorem IM.scratch {A b:Nat} (h:IM C g A c d S q w) (I:b≠d) (H:b≠g) (J: ¬S.has b) (M N U O:Value):IM C g A c d S q ((((w.setCell ⟨b,0,none⟩ M).setCell ⟨b,1,none⟩ N).setCell ⟨b,2,none⟩ U).setCell ⟨b,3,none⟩ O):=
 (((h.set I H J _ _).set I H J _ _).set I H J _ _).set I H J _ _
theorem IS.new (h:IS g S w T W) (L:w.heap.size<=b) (i:Nat) (u:Value):IS g S w T (W.setCell ⟨b,i,none⟩ u):=
 ⟨h.os,h.tape,h.output,by show _<=(W.heap.modify _ _).size;simp;exact h.size,fun k I K J=>(Below.heap_setCell W ⟨b,i,none⟩ u k (by show k≠b;omega)).trans (h.block k I K J),h.sub⟩
theorem IS.scratch {b:Nat} (h:IS g S w T W) (q:w.heap.size<=b) (J K M L:Value):IS g S w T ((((W.setCell ⟨b,0,none⟩ J).setCell ⟨b,1,none⟩ K).setCell ⟨b,2,none⟩ M).setCell ⟨b,3,none⟩ L):=
 (((h.new q _ _).new q _ _).new q _ _).new q _ _
theorem zcV {o o':Obj} (h:w.heap[g]? =some o):(w.alloc o').heap[g]? =some o:=(Below.heap_alloc w o' g (aLt h)).trans h
theorem IS.alloc (h:IS g S w T W) (o:Obj):IS g S w T (W.alloc o):=h.trans (IS.below (bA0))
def Pan (p:Nat):Ending:=.panicked [{v:=.iface 218 (.int .i64 p),recovered:=false}]
def zaa (C:Cx) (gt cap base gp:Nat) {α:Type} (y:Except Nat α) (st:α->PS) (v:α->Value) (S:Sv) (w:World) (e:Ending) (w':World):Prop:=
 match y with
 | .ok a=>e= .returned (v a)/\∃S',IM C gt cap base gp S' (st a) w'/\IS gp S w S' w'
 | .error p=>e=Pan p/\Below base w w'
