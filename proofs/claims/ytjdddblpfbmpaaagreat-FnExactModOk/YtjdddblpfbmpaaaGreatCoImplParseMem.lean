/-
 impl's parser in memory: its ten cells beside the six rows. No program is spoken of but for the numbers of its types.
-/
import Derived.Test.YtjdddblpfbmpaaaGreatCoParseMemToModMem
import Derived.Deep.Draws
namespace Go.Proofs.YtjdddblpfbmpaaaGreat
open Go.RowKit Go.PlainAid
structure IM (C:Cx) (gt cap base gp:Nat) (S:Sv) (q:PS) (w:World):Prop where
 mem:Mem C gt cap base S q w
 cells:w.heap[gp]? =some (.cells #[.slice (some ⟨gt,0,none⟩) C.ts.length cap,.int .i64 q.pos,.int .i64 C.fin,.bool C.scr,.slice S.rq.a q.rq.length S.rq.cap,.slice S.im.a q.im.length S.im.cap,.slice S.ep.a q.ep.length S.ep.cap,.slice S.st.a q.st.length S.st.cap,.slice S.ex.a q.ex.length S.ex.cap,.slice S.la.a q.la.length S.la.cap] 160 (0,0))
 ge:base≤gp
theorem IM.lt {C:Cx} {A n j z:Nat} {S:Sv} {q:PS} {w:World} (h:IM C A n j z S q w):z<w.heap.size:=(Array.getElem?_eq_some_iff.1 h.cells).1
theorem IM.free {C:Cx} {A n j z:Nat} {S:Sv} {q:PS} {w:World} (h:IM C A n j z S q w): ¬S.has z:=h.mem.own.other h.cells (by decide) (by decide) (by decide) (by decide) (by decide)
theorem IM.ne {C:Cx} {z n j A:Nat} {S:Sv} {q:PS} {w:World} (h:IM C z n j A S q w):A≠z:=by
 rintro rfl
 obtain⟨c,g⟩:=zeK h.mem.tok
 rw[h.cells] at g
 simp only[Option.some.injEq,Obj.cells.injEq] at g
 exact absurd g.2.1 (by decide)
theorem IM.later {C:Cx} {E n j z:Nat} {S:Sv} {q:PS} {w A:World} (h:IM C E n j z S q w) (D:Below w.heap.size w A):IM C E n j z S q A:=⟨h.mem.later D,(D.block _ h.lt).trans h.cells,h.ge⟩
theorem IM.alloc {C:Cx} {z n j A:Nat} {S:Sv} {q:PS} {w:World} (h:IM C z n j A S q w) (o:Obj):IM C z n j A S q (w.alloc o):=h.later ((Below.refl _ _).alloc (Nat.le_refl _) _)
theorem IM.drew {C:Cx} {z n j A:Nat} {S:Sv} {q:PS} {w:World} (h:IM C z n j A S q w):IM C z n j A S q w.drew:=⟨⟨⟨h.mem.own.rq,h.mem.own.im,h.mem.own.ep,h.mem.own.st,h.mem.own.ex,h.mem.own.la,h.mem.own.apart⟩,h.mem.inv,h.mem.tok,h.mem.few,h.mem.base⟩,h.cells,h.ge⟩
structure Box10 (w:World) (b:Nat) (v0 v1 v2 v3 v4 v5 v6 v7 v8 v9:Value):Prop where
 c0:w.cell? ⟨b,0,none⟩=some v0
 c1:w.cell? ⟨b,1,none⟩=some v1
 c2:w.cell? ⟨b,2,none⟩=some v2
 c3:w.cell? ⟨b,3,none⟩=some v3
 c4:w.cell? ⟨b,4,none⟩=some v4
 c5:w.cell? ⟨b,5,none⟩=some v5
 c6:w.cell? ⟨b,6,none⟩=some v6
 c7:w.cell? ⟨b,7,none⟩=some v7
 c8:w.cell? ⟨b,8,none⟩=some v8
 c9:w.cell? ⟨b,9,none⟩=some v9
 fz: ∀i,w.frozen? ⟨b,i,none⟩=false
theorem zY {w:World} {b:Nat} {t:TypeId} {v0 v1 v2 v3 v4 n j A z q:Value} (h:w.heap[b]? =some (.cells #[v0,v1,v2,v3,v4,n,j,A,z,q] t (0,0))):Box10 w b v0 v1 v2 v3 v4 n j A z q:=by
 constructor<;>simp[World.cell?,World.frozen?,h]
theorem IM.adv {C:Cx} {D z j n:Nat} {S:Sv} {q:PS} {w:World} (h:IM C D z j n S q w) (H:q.pos<C.ts.length):IM C D z j n S (adv q) (w.setCell ⟨n,1,none⟩ (.int .i64 ((q.pos:Int)+1))):=by
 have A: ∀k,k≠n→(w.setCell ⟨n,1,none⟩ (.int .i64 ((q.pos:Int)+1))).heap[k]? =w.heap[k]?:=fun k A=>Below.heap_setCell w ⟨n,1,none⟩ _ k A
 have E:(w.setCell ⟨n,1,none⟩ (.int .i64 ((q.pos:Int)+1))).heap.size=w.heap.size:=by show (w.heap.modify _ _).size=_;simp
 refine⟨⟨(h.mem.own.keep fun k g=>A k fun e=>h.free (by rw[←e];exact g)).to rfl rfl rfl rfl rfl rfl,⟨H,h.mem.inv.rq,h.mem.inv.im,h.mem.inv.ep,h.mem.inv.st,h.mem.inv.ex⟩,zbo h.mem.tok (A D h.ne.symm),h.mem.few,by rw[E];exact h.mem.base⟩,?_,h.ge⟩
 rw[zag h.cells]
 simp[Go.Proofs.YtjdddblpfbmpaaaGreat.adv]
structure IS (gp:Nat) (S:Sv) (w:World) (S':Sv) (w':World):Prop where
 os:w'.os=w.os
 tape:w'.tape=w.tape
 output:w'.output=w.output
 size:w.heap.size≤w'.heap.size
 block: ∀k,k<w.heap.size→¬S.has k→k≠gp→w'.heap[k]? =w.heap[k]?
 sub: ∀k,S'.has k→S.has k∨w.heap.size≤k
theorem IS.refl (j:Nat) (S:Sv) (w:World):IS j S w S w:=⟨rfl,rfl,rfl,Nat.le_refl _,fun _ _ _ _=>rfl,fun _ h=>.inl h⟩
theorem IS.trans {n:Nat} {S A q:Sv} {w z D:World} (h:IS n S w A z) (k:IS n A z q D):IS n S w q D:=
 ⟨k.os.trans h.os,k.tape.trans h.tape,k.output.trans h.output,Nat.le_trans h.size k.size,
  fun i j H E=>(k.block i (Nat.lt_of_lt_of_le j h.size) (fun g=>(h.sub i g).elim H fun I=>by omega) E).trans (h.block i j H E),
  fun i j=>(k.sub i j).elim (h.sub i) fun g=>.inr (Nat.le_trans h.size g)⟩
theorem IS.below {q:Nat} {S:Sv} {w j:World} (h:Below w.heap.size w j):IS q S w S j:=⟨h.os,h.tape,h.output,h.size,fun k n _ _=>h.block k n,fun _ g=>.inl g⟩
theorem IS.set {n:Nat} {S q:Sv} {w j:World} (h:IS n S w q j) (i:Nat) (u:Value):IS n S w q (j.setCell ⟨n,i,none⟩ u):=
 ⟨h.os,h.tape,h.output,by show _≤(j.heap.modify _ _).size;simp;exact h.size,fun k A D z=>(Below.heap_setCell j ⟨n,i,none⟩ u k z).trans (h.block k A D z),h.sub⟩
theorem IS.under {n:Nat} {S A:Sv} {w z:World} {j:Nat} {q:PS} (h:IS n S w A z) (H:j≤w.heap.size) (D:Own w j S q) (I:j≤n):Below j w z:=
 ⟨h.os,h.tape,h.output,h.size,fun k E=>h.block k (by omega) (fun g=>by have:=(D.has g).1;omega) (by omega)⟩
theorem zcT {w:World} {b:Nat} {t:TypeId} {v0 v1 v2 v3:Value} (h:w.heap[b]? =some (.cells #[v0,v1,v2,v3] t (0,0))):
  w.cell? ⟨b,0,none⟩=some v0∧w.cell? ⟨b,1,none⟩=some v1∧w.cell? ⟨b,2,none⟩=some v2∧w.cell? ⟨b,3,none⟩=some v3∧∀i,w.frozen? ⟨b,i,none⟩=false:=by
 refine⟨?_,?_,?_,?_,fun i=>?_⟩<;>simp[World.cell?,World.frozen?,h]
theorem zfH {w:World} {b:Nat} {v0 v1 v2 v3 j q n z:Value} {t:TypeId} (h:w.heap[b]? =some (.cells #[v0,v1,v2,v3] t (0,0))):
  ((((w.setCell ⟨b,0,none⟩ j).setCell ⟨b,1,none⟩ q).setCell ⟨b,2,none⟩ n).setCell ⟨b,3,none⟩ z).heap[b]? =some (.cells #[j,q,n,z] t (0,0)):=by
 have e:=zag (i:=3) (u:=z) (zag (i:=2) (u:=n) (zag (i:=1) (u:=q) (zag (i:=0) (u:=j) h)))
 rw[e]
 simp
theorem zgU {B:Nat} {a w:World} {b:Nat} (h:Below B a w) (j:B≤b) (n q A z:Value):Below B a ((((w.setCell ⟨b,0,none⟩ n).setCell ⟨b,1,none⟩ q).setCell ⟨b,2,none⟩ A).setCell ⟨b,3,none⟩ z):=(((h.setCell j _).setCell j _).setCell j _).setCell j _
theorem zgV {B:Nat} {a w:World} (h:Below B a w) (n:Nat):Below B a (w.drewN n):=⟨h.os,h.tape,h.output,h.size,h.block⟩
theorem IM.set {C:Cx} {D z j A b:Nat} {S:Sv} {q:PS} {w:World} (h:IM C D z j A S q w) (I:b≠A) (H:b≠D) (J: ¬S.has b) (i:Nat) (u:Value):IM C D z j A S q (w.setCell ⟨b,i,none⟩ u):=by
 have n: ∀k,k≠b→(w.setCell ⟨b,i,none⟩ u).heap[k]? =w.heap[k]?:=fun k n=>Below.heap_setCell w ⟨b,i,none⟩ _ k n
 have E:(w.setCell ⟨b,i,none⟩ u).heap.size=w.heap.size:=by show (w.heap.modify _ _).size=_;simp
 exact⟨⟨h.mem.own.keep fun k g=>n k fun e=>J (by rw[←e];exact g),h.mem.inv,zbo h.mem.tok (n D H.symm),h.mem.few,by rw[E];exact h.mem.base⟩,(n A I.symm).trans h.cells,h.ge⟩
theorem IM.scratch {C:Cx} {H n j E b:Nat} {S:Sv} {q:PS} {w:World} (h:IM C H n j E S q w) (A:b≠E) (z:b≠H) (D: ¬S.has b) (I J L K:Value):IM C H n j E S q ((((w.setCell ⟨b,0,none⟩ I).setCell ⟨b,1,none⟩ J).setCell ⟨b,2,none⟩ L).setCell ⟨b,3,none⟩ K):=
 (((h.set A z D _ _).set A z D _ _).set A z D _ _).set A z D _ _
theorem IS.new {n b:Nat} {S q:Sv} {w j:World} (h:IS n S w q j) (E:w.heap.size≤b) (i:Nat) (u:Value):IS n S w q (j.setCell ⟨b,i,none⟩ u):=
 ⟨h.os,h.tape,h.output,by show _≤(j.heap.modify _ _).size;simp;exact h.size,fun k z D A=>(Below.heap_setCell j ⟨b,i,none⟩ u k (by show k≠b;omega)).trans (h.block k z D A),h.sub⟩
theorem IS.scratch {q b:Nat} {S z:Sv} {w n:World} (h:IS q S w z n) (j:w.heap.size≤b) (A D H E:Value):IS q S w z ((((n.setCell ⟨b,0,none⟩ A).setCell ⟨b,1,none⟩ D).setCell ⟨b,2,none⟩ H).setCell ⟨b,3,none⟩ E):=
 (((h.new j _ _).new j _ _).new j _ _).new j _ _
theorem zca {w:World} {b:Nat} {o o':Obj} (h:w.heap[b]? =some o):(w.alloc o').heap[b]? =some o:=(Below.heap_alloc w o' b (Array.getElem?_eq_some_iff.1 h).1).trans h
theorem IS.alloc {q:Nat} {S j:Sv} {w n:World} (h:IS q S w j n) (o:Obj):IS q S w j (n.alloc o):=h.trans (IS.below ((Below.refl _ _).alloc (Nat.le_refl _) _))
def Pan (p:Nat):Ending:=.panicked [{v:=.iface 156 (.int .i64 p),recovered:=false}]
def zM (C:Cx) (gt cap base gp:Nat) {α:Type} (y:Except Nat α) (st:α→PS) (v:α→Value) (S:Sv) (w:World) (e:Ending) (w':World):Prop:=
 match y with
 | .ok a=>e= .returned (v a)∧∃S',IM C gt cap base gp S' (st a) w'∧IS gp S w S' w'
 | .error p=>e=Pan p∧Below base w w'
end Go.Proofs.YtjdddblpfbmpaaaGreat