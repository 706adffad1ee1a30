/-
  impl's parser in memory: its ten cells beside the six rows. No program is spoken of but for the numbers of its types.
  Two small facts: a block more,and a fact laid by. No program is spoken of.
-/
import Derived.Deep.Draws
import Derived.Test.YticdggnnpjachaaGreatCcParseMemToModMem
namespace Go.Proofs.YticdggnnpjachaaGreat
open Go.RowKit Go.PlainAid
structure IM (C:Cx) (gt cap base gp:Nat) (S:Sv) (q:PS) (w:World):Prop where
 mem:Mem C gt cap base S q w
 cells:w.heap[gp]? =some (.cells #[.slice (some ⟨gt,0,none⟩) C.ts.length cap,.int .i64 q.pos,.int .i64 C.fin,.bool C.scr,.slice S.rq.a q.rq.length S.rq.cap,.slice S.im.a q.im.length S.im.cap,.slice S.ep.a q.ep.length S.ep.cap,.slice S.st.a q.st.length S.st.cap,.slice S.ex.a q.ex.length S.ex.cap,.slice S.la.a q.la.length S.la.cap] 59 (0,0))
 ge:base≤gp
theorem IM.lt {C:Cx} {z n j o:Nat} {S:Sv} {q:PS} {w:World} (h:IM C z n j o S q w):o<w.heap.size:=(Array.getElem?_eq_some_iff.1 h.cells).1
theorem IM.free {C:Cx} {z n j o:Nat} {S:Sv} {q:PS} {w:World} (h:IM C z n j o S q w): ¬S.has o:=h.mem.own.other h.cells (by decide) (by decide) (by decide) (by decide) (by decide)
theorem IM.ne {C:Cx} {o n j z:Nat} {S:Sv} {q:PS} {w:World} (h:IM C o n j z S q w):z≠o:=by
 rintro rfl
 obtain⟨c,g⟩:=zeN h.mem.tok
 rw[h.cells] at g
 simp only[Option.some.injEq,Obj.cells.injEq] at g
 exact absurd g.2.1 (by decide)
theorem IM.later {C:Cx} {D n j A:Nat} {S:Sv} {q:PS} {w o:World} (h:IM C D n j A S q w) (z:Below w.heap.size w o):IM C D n j A S q o:=⟨h.mem.later z,(z.block _ h.lt).trans h.cells,h.ge⟩
theorem IM.alloc {C:Cx} {z n j A:Nat} {S:Sv} {q:PS} {w:World} (h:IM C z n j A S q w) (o:Obj):IM C z n j A S q (w.alloc o):=h.later ((Below.refl _ _).alloc (Nat.le_refl _) _)
theorem IM.drew {C:Cx} {o n j z:Nat} {S:Sv} {q:PS} {w:World} (h:IM C o n j z S q w):IM C o n j z S q w.drew:=⟨⟨⟨h.mem.own.rq,h.mem.own.im,h.mem.own.ep,h.mem.own.st,h.mem.own.ex,h.mem.own.la,h.mem.own.apart⟩,h.mem.inv,h.mem.tok,h.mem.few,h.mem.base⟩,h.cells,h.ge⟩
structure Box10 (w:World) (b:Nat) (v0 v1 v2 v3 v4 v5 v6 v7 v8 v9:Value):Prop where
 c0:w.cell? ⟨b,0,none⟩=some v0
 c1:w.cell? ⟨b,1,none⟩=some v1
 c2:w.cell? ⟨b,2,none⟩=some v2
 c3:w.cell? ⟨b,3,none⟩=some v3
 c4:w.cell? ⟨b,4,none⟩=some v4
 c5:w.cell? ⟨b,5,none⟩=some v5
 c6:w.cell? ⟨b,6,none⟩=some v6
 c7:w.cell? ⟨b,7,none⟩=some v7
 c8:w.cell? ⟨b,8,none⟩=some v8
 c9:w.cell? ⟨b,9,none⟩=some v9
 fz: ∀i,w.frozen? ⟨b,i,none⟩=false
theorem zaa {w:World} {b:Nat} {t:TypeId} {D n o q E j I H z A:Value} (h:w.heap[b]? =some (.cells #[D,n,o,q,E,j,I,H,z,A] t (0,0))):Box10 w b D n o q E j I H z A:=by
 constructor<;>simp[World.cell?,World.frozen?,h]
theorem IM.adv {C:Cx} {D o j n:Nat} {S:Sv} {q:PS} {w:World} (h:IM C D o j n S q w) (E:q.pos<C.ts.length):IM C D o j n S (adv q) (w.setCell ⟨n,1,none⟩ (.int .i64 ((q.pos:Int)+1))):=by
 have z: ∀k,k≠n→(w.setCell ⟨n,1,none⟩ (.int .i64 ((q.pos:Int)+1))).heap[k]? =w.heap[k]?:=fun k z=>Below.heap_setCell w ⟨n,1,none⟩ _ k z
 have A:(w.setCell ⟨n,1,none⟩ (.int .i64 ((q.pos:Int)+1))).heap.size=w.heap.size:=by show (w.heap.modify _ _).size=_;simp
 refine⟨⟨(h.mem.own.keep fun k g=>z k fun e=>h.free (by rw[←e];exact g)).to rfl rfl rfl rfl rfl rfl,⟨E,h.mem.inv.rq,h.mem.inv.im,h.mem.inv.ep,h.mem.inv.st,h.mem.inv.ex⟩,zbs h.mem.tok (z D h.ne.symm),h.mem.few,by rw[A];exact h.mem.base⟩,?_,h.ge⟩
 rw[zas h.cells]
 simp[Go.Proofs.YticdggnnpjachaaGreat.adv]
structure IS (gp:Nat) (S:Sv) (w:World) (S':Sv) (w':World):Prop where
 os:w'.os=w.os
 tape:w'.tape=w.tape
 output:w'.output=w.output
 size:w.heap.size≤w'.heap.size
 block: ∀k,k<w.heap.size→¬S.has k→k≠gp→w'.heap[k]? =w.heap[k]?
 sub: ∀k,S'.has k→S.has k∨w.heap.size≤k
theorem IS.refl (j:Nat) (S:Sv) (w:World):IS j S w S w:=⟨rfl,rfl,rfl,Nat.le_refl _,fun _ _ _ _=>rfl,fun _ h=>.inl h⟩
theorem IS.trans {n:Nat} {S q E:Sv} {w A o:World} (h:IS n S w q A) (k:IS n q A E o):IS n S w E o:=
 ⟨k.os.trans h.os,k.tape.trans h.tape,k.output.trans h.output,Nat.le_trans h.size k.size,
  fun i j D z=>(k.block i (Nat.lt_of_lt_of_le j h.size) (fun g=>(h.sub i g).elim D fun H=>by omega) z).trans (h.block i j D z),
  fun i j=>(k.sub i j).elim (h.sub i) fun g=>.inr (Nat.le_trans h.size g)⟩
theorem IS.below {n:Nat} {S:Sv} {w j:World} (h:Below w.heap.size w j):IS n S w S j:=⟨h.os,h.tape,h.output,h.size,fun k o _ _=>h.block k o,fun _ g=>.inl g⟩
theorem IS.set {n:Nat} {S o:Sv} {w j:World} (h:IS n S w o j) (i:Nat) (u:Value):IS n S w o (j.setCell ⟨n,i,none⟩ u):=
 ⟨h.os,h.tape,h.output,by show _≤(j.heap.modify _ _).size;simp;exact h.size,fun k A z q=>(Below.heap_setCell j ⟨n,i,none⟩ u k q).trans (h.block k A z q),h.sub⟩
theorem IS.under {o:Nat} {S z:Sv} {w n:World} {j:Nat} {q:PS} (h:IS o S w z n) (E:j≤w.heap.size) (A:Own w j S q) (D:j≤o):Below j w n:=
 ⟨h.os,h.tape,h.output,h.size,fun k H=>h.block k (by omega) (fun g=>by have:=(A.has g).1;omega) (by omega)⟩
theorem zcV {w:World} {b:Nat} {t:TypeId} {n q o j:Value} (h:w.heap[b]? =some (.cells #[n,q,o,j] t (0,0))):
  w.cell? ⟨b,0,none⟩=some n∧w.cell? ⟨b,1,none⟩=some q∧w.cell? ⟨b,2,none⟩=some o∧w.cell? ⟨b,3,none⟩=some j∧∀i,w.frozen? ⟨b,i,none⟩=false:=by
 refine⟨?_,?_,?_,?_,fun i=>?_⟩<;>simp[World.cell?,World.frozen?,h]
theorem zfK {w:World} {b:Nat} {D E z A q n j o:Value} {t:TypeId} (h:w.heap[b]? =some (.cells #[D,E,z,A] t (0,0))):
  ((((w.setCell ⟨b,0,none⟩ q).setCell ⟨b,1,none⟩ n).setCell ⟨b,2,none⟩ j).setCell ⟨b,3,none⟩ o).heap[b]? =some (.cells #[q,n,j,o] t (0,0)):=by
 have e:=zas (i:=3) (u:=o) (zas (i:=2) (u:=j) (zas (i:=1) (u:=n) (zas (i:=0) (u:=q) h)))
 rw[e]
 simp
theorem zgX {B:Nat} {a w:World} {b:Nat} (h:Below B a w) (j:B≤b) (z o n q:Value):Below B a ((((w.setCell ⟨b,0,none⟩ z).setCell ⟨b,1,none⟩ o).setCell ⟨b,2,none⟩ n).setCell ⟨b,3,none⟩ q):=(((h.setCell j _).setCell j _).setCell j _).setCell j _
theorem zgY {B:Nat} {a w:World} (h:Below B a w) (n:Nat):Below B a (w.drewN n):=⟨h.os,h.tape,h.output,h.size,h.block⟩
theorem IM.set {C:Cx} {A o j z b:Nat} {S:Sv} {q:PS} {w:World} (h:IM C A o j z S q w) (H:b≠z) (I:b≠A) (E: ¬S.has b) (i:Nat) (u:Value):IM C A o j z S q (w.setCell ⟨b,i,none⟩ u):=by
 have n: ∀k,k≠b→(w.setCell ⟨b,i,none⟩ u).heap[k]? =w.heap[k]?:=fun k n=>Below.heap_setCell w ⟨b,i,none⟩ _ k n
 have D:(w.setCell ⟨b,i,none⟩ u).heap.size=w.heap.size:=by show (w.heap.modify _ _).size=_;simp
 exact⟨⟨h.mem.own.keep fun k g=>n k fun e=>E (by rw[←e];exact g),h.mem.inv,zbs h.mem.tok (n A I.symm),h.mem.few,by rw[D];exact h.mem.base⟩,(n z H.symm).trans h.cells,h.ge⟩
theorem IM.scratch {C:Cx} {E n j D b:Nat} {S:Sv} {q:PS} {w:World} (h:IM C E n j D S q w) (A:b≠D) (z:b≠E) (o: ¬S.has b) (K I H J:Value):IM C E n j D S q ((((w.setCell ⟨b,0,none⟩ K).setCell ⟨b,1,none⟩ I).setCell ⟨b,2,none⟩ H).setCell ⟨b,3,none⟩ J):=
 (((h.set A z o _ _).set A z o _ _).set A z o _ _).set A z o _ _
theorem IS.new {o b:Nat} {S n:Sv} {w j:World} (h:IS o S w n j) (D:w.heap.size≤b) (i:Nat) (u:Value):IS o S w n (j.setCell ⟨b,i,none⟩ u):=
 ⟨h.os,h.tape,h.output,by show _≤(j.heap.modify _ _).size;simp;exact h.size,fun k A z q=>(Below.heap_setCell j ⟨b,i,none⟩ u k (by show k≠b;omega)).trans (h.block k A z q),h.sub⟩
theorem IS.scratch {q b:Nat} {S n:Sv} {w o:World} (h:IS q S w n o) (j:w.heap.size≤b) (E A z D:Value):IS q S w n ((((o.setCell ⟨b,0,none⟩ E).setCell ⟨b,1,none⟩ A).setCell ⟨b,2,none⟩ z).setCell ⟨b,3,none⟩ D):=
 (((h.new j _ _).new j _ _).new j _ _).new j _ _
theorem zce {w:World} {b:Nat} {o o':Obj} (h:w.heap[b]? =some o):(w.alloc o').heap[b]? =some o:=(Below.heap_alloc w o' b (Array.getElem?_eq_some_iff.1 h).1).trans h
theorem IS.alloc {j:Nat} {S n:Sv} {w q:World} (h:IS j S w n q) (o:Obj):IS j S w n (q.alloc o):=h.trans (IS.below ((Below.refl _ _).alloc (Nat.le_refl _) _))
def Pan (p:Nat):Ending:=.panicked [{v:=.iface 55 (.int .i64 p),recovered:=false}]
def zN (C:Cx) (gt cap base gp:Nat) {α:Type} (y:Except Nat α) (st:α→PS) (v:α→Value) (S:Sv) (w:World) (e:Ending) (w':World):Prop:=
 match y with
 | .ok a=>e= .returned (v a)∧∃S',IM C gt cap base gp S' (st a) w'∧IS gp S w S' w'
 | .error p=>e=Pan p∧Below base w w'
theorem zj (w:World) (o:Obj):(w.alloc o).heap.size=w.heap.size+1:=by show (w.heap.push _).size=_;simp
theorem zc {p:Prop} (h:p):Hid p:=h
end Go.Proofs.YticdggnnpjachaaGreat
