/-
  Boxes of a program under way,through calls and stores. No program is spoken of but for the numbers of its types.
  A row of pairs of names beside a program under way. No program is spoken of but for the numbers of its types.
  What spec's l4Tail answers: the walk.
  What spec's l4List answers: the walk.
  What spec's l4Part answers,if l4Sum answers so behind it: the walks.
  What spec's l4Part answers where no number and no bracket stands,in a script: the walks.
  What spec's l4Part answers where no number and no bracket stands: the walks.
  What spec's l4Part,l4Product and l4Sum answer: the walks of the two loops,and the three together.
  What spec's l4Let and l4Fn answer: the walks.
-/
import Derived.Test.YtjdddblpfbmpaaaGreatClSpecTreeToSpecParseE
namespace Go.Proofs.YtjdddblpfbmpaaaGreat
set_option maxRecDepth 100000
set_option maxHeartbeats 6400000
open Go.RowKit Go.PlainAid
abbrev set12 (w:World) (b:Nat) (x0 x1 x2 x3 x4 x5 x6 x7 x8 x9 x10 x11:Value):World:=
 ((((((((((((w.setCell ⟨b,0,none⟩ x0).setCell ⟨b,1,none⟩ x1).setCell ⟨b,2,none⟩ x2).setCell ⟨b,3,none⟩ x3).setCell ⟨b,4,none⟩ x4).setCell ⟨b,5,none⟩ x5).setCell ⟨b,6,none⟩ x6).setCell ⟨b,7,none⟩ x7).setCell ⟨b,8,none⟩ x8).setCell ⟨b,9,none⟩ x9).setCell ⟨b,10,none⟩ x10).setCell ⟨b,11,none⟩ x11)
theorem zhA (w:World) (a:Addr) (u:Value):(w.setCell a u).heap.size=w.heap.size:=by show (w.heap.modify _ _).size=_;simp
theorem zqR (w:World) (b:Nat) (x0 x1 x2 x3 x4 J A I z H h j:Value):(set12 w b x0 x1 x2 x3 x4 J A I z H h j).heap.size=w.heap.size:=by
 unfold set12
 simp only[zhA]
theorem zf0 {w:World} {b k:Nat} (h:k≠b) (x0 x1 x2 x3 x4 L H J A I j z:Value):(set12 w b x0 x1 x2 x3 x4 L H J A I j z).heap[k]? =w.heap[k]?:=by
 unfold set12
 rw[zx h,zx h,zx h,zx h,zx h,zx h,zx h,zx h,zx h,zx h,zx h,zx h]
structure Bx (gt:Nat) (S:Sv) (w:World) (b:Nat) (cs:Array Value):Prop where
 heap:w.heap[b]? =some (.cells cs 122 (0,0))
 free: ¬S.has b
 ne:b≠gt
theorem Bx.lt {gt b:Nat} {S:Sv} {w:World} {cs:Array Value} (h:Bx gt S w b cs):b<w.heap.size:=(Array.getElem?_eq_some_iff.1 h.heap).1
theorem Bx.stp {gt b:Nat} {S S':Sv} {w w':World} {cs:Array Value} (h:Bx gt S w b cs) (k:Stp S w S' w'):Bx gt S' w' b cs:=
 ⟨(k.block b h.lt h.free).trans h.heap,fun g=>(k.sub b g).elim h.free fun j=>by have:=h.lt;omega,h.ne⟩
theorem Bx.below {gt b:Nat} {S:Sv} {w w':World} {cs:Array Value} (h:Bx gt S w b cs) (k:Below w.heap.size w w'):Bx gt S w' b cs:=⟨(k.block b h.lt).trans h.heap,h.free,h.ne⟩
theorem Bx.alloc {gt b:Nat} {S:Sv} {w:World} {cs:Array Value} (h:Bx gt S w b cs) (o:Obj):Bx gt S (w.alloc o) b cs:=h.below ((Below.refl _ _).alloc (Nat.le_refl _) _)
theorem Bx.new {C:Cx} {gt cap base:Nat} {S:Sv} {q:PS} {w:World} (h:Mem C gt cap base S q w) (cs:Array Value):Bx gt S (w.alloc (.cells cs 122 (0,0))) w.heap.size cs:=
 ⟨heap_alloc_new w _,fun g=>by have:=(h.own.has g).2;omega,by have:=(zau h.tok).1;omega⟩
theorem Bx.set {gt b:Nat} {S:Sv} {w:World} {cs:Array Value} (h:Bx gt S w b cs) (i:Nat) (u:Value):Bx gt S (w.setCell ⟨b,i,none⟩ u) b (cs.setIfInBounds i u):=⟨zcw h.heap,h.free,h.ne⟩
theorem Bx.set_other {gt b c:Nat} {S:Sv} {w:World} {cs:Array Value} (h:Bx gt S w b cs) (j:b≠c) (i:Nat) (u:Value):Bx gt S (w.setCell ⟨c,i,none⟩ u) b cs:=⟨(zx j).trans h.heap,h.free,h.ne⟩
theorem Bx.put {gt b:Nat} {S:Sv} {w:World} {v0 v1 v2 v3 v4 v5 v6 v7 v8 v9 v10 v11:Value} (h:Bx gt S w b #[v0,v1,v2,v3,v4,v5,v6,v7,v8,v9,v10,v11]) (x0 x1 x2 x3 x4 L H J A I j z:Value):
  Bx gt S (set12 w b x0 x1 x2 x3 x4 L H J A I j z) b #[x0,x1,x2,x3,x4,L,H,J,A,I,j,z]:=⟨zaZ h.heap,h.free,h.ne⟩
theorem Bx.other {gt b c:Nat} {S:Sv} {w:World} {cs:Array Value} (h:Bx gt S w b cs) (I:b≠c) (x0 x1 x2 x3 x4 M H L A J j z:Value):Bx gt S (set12 w c x0 x1 x2 x3 x4 M H L A J j z) b cs:=⟨(zf0 I ..).trans h.heap,h.free,h.ne⟩
theorem Bx.at1 {gt b:Nat} {S:Sv} {w:World} {v0 v1 v2 v3 v4 v5 v6 v7 v8 v9 v10 v11:Value} (h:Bx gt S w b #[v0,v1,v2,v3,v4,v5,v6,v7,v8,v9,v10,v11]) (u:Value):Bx gt S (w.setCell ⟨b,1,none⟩ u) b #[v0,u,v2,v3,v4,v5,v6,v7,v8,v9,v10,v11]:=by simpa using h.set 1 u
theorem Bx.at11 {gt b:Nat} {S:Sv} {w:World} {v0 v1 v2 v3 v4 v5 v6 v7 v8 v9 v10 v11:Value} (h:Bx gt S w b #[v0,v1,v2,v3,v4,v5,v6,v7,v8,v9,v10,v11]) (u:Value):Bx gt S (w.setCell ⟨b,11,none⟩ u) b #[v0,v1,v2,v3,v4,v5,v6,v7,v8,v9,v10,u]:=by simpa using h.set 11 u
theorem Bx.box {gt b:Nat} {S:Sv} {w:World} {v0 v1 v2 v3 v4 v5 v6 v7 v8 v9 v10 v11:Value} (h:Bx gt S w b #[v0,v1,v2,v3,v4,v5,v6,v7,v8,v9,v10,v11]):Box w b v0 v1 v2 v3 v4 v5 v6 v7 v8 v9 v10 v11:=zaq h.heap
theorem Mem.set {C:Cx} {gt cap base b:Nat} {S:Sv} {q:PS} {w:World} (h:Mem C gt cap base S q w) {cs:Array Value} (j:Bx gt S w b cs) (i:Nat) (u:Value):Mem C gt cap base S q (w.setCell ⟨b,i,none⟩ u):=
 ⟨h.own.keep fun k g=>zx (b:=k) fun e=>j.free (by rw[←e];exact g),h.inv,zbG h.tok (zx j.ne.symm),h.few,by rw[zhA];exact h.base⟩
theorem Mem.put {C:Cx} {gt cap base b:Nat} {S:Sv} {q:PS} {w:World} (h:Mem C gt cap base S q w) {cs:Array Value} (A:Bx gt S w b cs) (x0 x1 x2 x3 x4 M I L H J j z:Value):Mem C gt cap base S q (set12 w b x0 x1 x2 x3 x4 M I L H J j z):=
 ⟨h.own.keep fun k g=>zf0 (k:=k) (fun e=>A.free (by rw[←e];exact g)) _ _ _ _ _ _ _ _ _ _ _ _,h.inv,zbG h.tok (zf0 A.ne.symm ..),h.few,by rw[zqR];exact h.base⟩
structure SB (B:Nat) (S:Sv) (w:World) (S':Sv) (w':World):Prop where
 os:w'.os=w.os
 tape:w'.tape=w.tape
 output:w'.output=w.output
 size:w.heap.size≤w'.heap.size
 low:B≤w.heap.size
 block: ∀k,k<B→¬S.has k→w'.heap[k]? =w.heap[k]?
 sub: ∀k,S'.has k→S.has k∨B≤k
theorem SB.start {S:Sv} {w w':World} (h:Below w.heap.size w w'):SB w.heap.size S w S w':=⟨h.os,h.tape,h.output,h.size,Nat.le_refl _,fun k j _=>h.block k j,fun _ g=>.inl g⟩
theorem SB.step {B:Nat} {S S1 z:Sv} {w w1 A:World} (h:SB B S w S1 w1) (k:Stp S1 w1 z A):SB B S w z A:=
 ⟨k.os.trans h.os,k.tape.trans h.tape,k.output.trans h.output,Nat.le_trans h.size k.size,h.low,
  fun i j H=>(k.block i (by have:=h.size;have:=h.low;omega) fun g=>(h.sub i g).elim H fun I=>by omega).trans (h.block i j H),
  fun i j=>(k.sub i j).elim (h.sub i) fun g=>.inr (by have:=h.size;have:=h.low;omega)⟩
theorem SB.below {B:Nat} {S S1:Sv} {w w1 j:World} (h:SB B S w S1 w1) (k:Below w1.heap.size w1 j):SB B S w S1 j:=h.step (Stp.below k)
theorem SB.alloc {B:Nat} {S S1:Sv} {w w1:World} (h:SB B S w S1 w1) (o:Obj):SB B S w S1 (w1.alloc o):=h.below ((Below.refl _ _).alloc (Nat.le_refl _) _)
theorem SB.set {B:Nat} {S S1:Sv} {w w1:World} (h:SB B S w S1 w1) {b:Nat} (A:B≤b) (i:Nat) (u:Value):SB B S w S1 (w1.setCell ⟨b,i,none⟩ u):=
 ⟨h.os,h.tape,h.output,by rw[zhA];exact h.size,h.low,fun k j z=>(zx (by omega)).trans (h.block k j z),h.sub⟩
theorem SB.put {B:Nat} {S S1:Sv} {w w1:World} (h:SB B S w S1 w1) {b:Nat} (j:B≤b) (x0 x1 x2 x3 x4 M I L H J z A:Value):SB B S w S1 (set12 w1 b x0 x1 x2 x3 x4 M I L H J z A):=
 (((((((((((h.set j 0 x0).set j 1 x1).set j 2 x2).set j 3 x3).set j 4 x4).set j 5 M).set j 6 I).set j 7 L).set j 8 H).set j 9 J).set j 10 z).set j 11 A
theorem SB.done {S S1:Sv} {w w1:World} (h:SB w.heap.size S w S1 w1):Stp S w S1 w1:=⟨h.os,h.tape,h.output,h.size,h.block,h.sub⟩
theorem Mem.two {C:Cx} {gt cap base:Nat} {S:Sv} {q:PS} {w w1:World} {z j:Array Value} (h:Mem C gt cap base S q w) (A:Below ((w.alloc (.cells z 122 (0,0))).alloc (.cells j 122 (0,0))).heap.size ((w.alloc (.cells z 122 (0,0))).alloc (.cells j 122 (0,0))) w1):
  Bx gt S w1 w.heap.size z∧Bx gt S w1 (w.heap.size+1) j∧Mem C gt cap base S q w1∧SB w.heap.size S w S w1:=
 ⟨((Bx.new h _).alloc _).below A,by have:=(Bx.new (h.alloc (.cells z 122 (0,0))) j).below A;rw[zn] at this;exact this,h.later (zbh A),SB.start (zbh A)⟩
theorem Mem.two2 {C:Cx} {gt cap base:Nat} {S S1:Sv} {q:PS} {w w1:World} {z j:Array Value} (h:Mem C gt cap base S q w) (s:Stp S ((w.alloc (.cells z 122 (0,0))).alloc (.cells j 122 (0,0))) S1 w1):
  Bx gt S1 w1 w.heap.size z∧Bx gt S1 w1 (w.heap.size+1) j∧SB w.heap.size S w S1 w1:=
 ⟨((Bx.new h _).alloc _).stp s,by have:=(Bx.new (h.alloc (.cells z 122 (0,0))) j).stp s;rw[zn] at this;exact this,(SB.start (zba w _ _)).step s⟩
theorem Bx.boxC {gt b:Nat} {S:Sv} {w:World} {v0 v1 v2 v3 v4 v5 v6 v7 v8 v9 v10 v11:Value} (h:Bx gt S w b #[v0,v1,v2,v3,v4,v5,v6,v7,v8,v9,v10,v11]):w.cell? ⟨b,0,none⟩=some v0∧w.cell? ⟨b,1,none⟩=some v1∧w.cell? ⟨b,2,none⟩=some v2∧w.cell? ⟨b,3,none⟩=some v3∧w.cell? ⟨b,4,none⟩=some v4∧w.cell? ⟨b,5,none⟩=some v5∧w.cell? ⟨b,6,none⟩=some v6∧w.cell? ⟨b,7,none⟩=some v7∧w.cell? ⟨b,8,none⟩=some v8∧w.cell? ⟨b,9,none⟩=some v9∧w.cell? ⟨b,10,none⟩=some v10∧w.cell? ⟨b,11,none⟩=some v11∧∀i,w.frozen? ⟨b,i,none⟩=false:=
 have k:=h.box
 ⟨k.c0,k.c1,k.c2,k.c3,k.c4,k.c5,k.c6,k.c7,k.c8,k.c9,k.c10,k.c11,k.fz⟩
theorem Bx.ret {gt b:Nat} {S:Sv} {w:World} {v0 v1 v2 v3 v4 v5 v6 v7 v8 v9 v10 v11:Value} (h:Bx gt S w b #[v0,v1,v2,v3,v4,v5,v6,v7,v8,v9,v10,v11]) {j:Func} {p:Tmp} {tmps:Array Value} {R:Ending→World→Prop} (H:j.results= #[.cell p 122]) (z:tmps.getD p undef= .pointer (some ⟨b,0,none⟩)) (A:R (.returned (.agg #[v0,v1,v2,v3,v4,v5,v6,v7,v8,v9,v10,v11])) w):bodyPost Tryz.prog j R .ret {tmps:=tmps,defers:=[]} w:=
 bodyPost_ret (results_cell_row H _ _ b 122 _ (0,0) _ z h.heap Tryz.underlying122 rfl (by kernel_rfl)) rfl A
structure Fm (C:Cx) (gt cap base:Nat) (S0:Sv) (w0:World) (S:Sv) (q:PS) (bs:List (Nat×Array Value)) (w:World):Prop where
 x: ∀b∈bs,Bx gt S w b.1 b.2
 d:bs.Pairwise fun a b=>a.1≠b.1
 g: ∀b∈bs,w0.heap.size≤b.1
 m:Mem C gt cap base S q w
 t:SB w0.heap.size S0 w0 S w
section
variable {C:Cx} {gt cap base b b0 b1 b2 b3:Nat} {S0 S S1:Sv} {w0 w w1:World} {q q1:PS} {bs l1:List (Nat×Array Value)} {cs c0 c1 c2 c3:Array Value} {v0 v1 v2 v3 v4 v5 v6 v7 v8 v9 v10 v11:Value}
theorem Fm.x0 (F:Fm C gt cap base S0 w0 S q ((b0,c0)::bs) w):Bx gt S w b0 c0:=F.x _ (List.mem_cons_self ..)
theorem Fm.x1 (F:Fm C gt cap base S0 w0 S q ((b0,c0)::(b1,c1)::bs) w):Bx gt S w b1 c1:=F.x (b1,c1) (by simp)
theorem Fm.x2 (F:Fm C gt cap base S0 w0 S q ((b0,c0)::(b1,c1)::(b2,c2)::bs) w):Bx gt S w b2 c2:=F.x (b2,c2) (by simp)
theorem Fm.x3 (F:Fm C gt cap base S0 w0 S q ((b0,c0)::(b1,c1)::(b2,c2)::(b3,c3)::bs) w):Bx gt S w b3 c3:=F.x (b3,c3) (by simp)
theorem Fm.below (F:Fm C gt cap base S0 w0 S q bs w) (k:Below w.heap.size w w1):Fm C gt cap base S0 w0 S q bs w1:=⟨fun b h=>(F.x b h).below k,F.d,F.g,F.m.later k,F.t.below k⟩
theorem Fm.stp (F:Fm C gt cap base S0 w0 S q bs w) (m:Mem C gt cap base S1 q1 w1) (k:Stp S w S1 w1):Fm C gt cap base S0 w0 S1 q1 bs w1:=⟨fun b h=>(F.x b h).stp k,F.d,F.g,m,F.t.step k⟩
theorem Fm.alloc (F:Fm C gt cap base S0 w0 S q bs w) (o:Obj):Fm C gt cap base S0 w0 S q bs (w.alloc o):=F.below ((Below.refl _ _).alloc (Nat.le_refl _) _)
theorem Fm.adv (F:Fm C gt cap base S0 w0 S q bs w) (h:q.pos<C.ts.length):Fm C gt cap base S0 w0 S (adv q) bs w:=⟨F.x,F.d,F.g,F.m.adv h,F.t⟩
theorem Fm.new (F:Fm C gt cap base S0 w0 S q bs w) (cs:Array Value):Fm C gt cap base S0 w0 S q (bs++[(w.heap.size,cs)]) (w.alloc (.cells cs 122 (0,0))):=by
 refine⟨fun b h=>?_,?_,fun b h=>?_,F.m.alloc _,F.t.alloc _⟩
 ·rcases List.mem_append.1 h with h|h
  ·exact (F.x b h).alloc _
  ·rw[List.mem_singleton.1 h];exact Bx.new F.m cs
 ·refine List.pairwise_append.2 ⟨F.d,List.pairwise_singleton _ _,fun a j b z=>?_⟩
  rw[List.mem_singleton.1 z]
  exact Nat.ne_of_lt (F.x a j).lt
 ·rcases List.mem_append.1 h with h|h
  ·exact F.g b h
  ·rw[List.mem_singleton.1 h];exact F.t.size
theorem Fm.new2 (F:Fm C gt cap base S0 w0 S q [(b0,c0),(b1,c1)] w) (cs:Array Value):Fm C gt cap base S0 w0 S q [(b0,c0),(b1,c1),(w.heap.size,cs)] (w.alloc (.cells cs 122 (0,0))):=F.new cs
theorem Fm.new3 (F:Fm C gt cap base S0 w0 S q [(b0,c0),(b1,c1),(b2,c2)] w) (cs:Array Value):Fm C gt cap base S0 w0 S q [(b0,c0),(b1,c1),(b2,c2),(w.heap.size,cs)] (w.alloc (.cells cs 122 (0,0))):=F.new cs
theorem Fm.turn (F:Fm C gt cap base S0 w0 S q (l1++(b,cs)::bs) w) (O:Bx gt S w1 b c0) (A: ∀k,k≠b→∀c,Bx gt S w k c→Bx gt S w1 k c) (I:Mem C gt cap base S q w1) (N:SB w0.heap.size S0 w0 S w1):Fm C gt cap base S0 w0 S q (l1++(b,c0)::bs) w1:=by
 obtain⟨L,J,j⟩:=List.pairwise_append.1 F.d
 obtain⟨z,M⟩:=List.pairwise_cons.1 J
 refine⟨fun a h=>?_,List.pairwise_append.2 ⟨L,List.pairwise_cons.2 ⟨z,M⟩,fun a H c U=>?_⟩,fun a h=>?_,I,N⟩
 ·rcases List.mem_append.1 h with h|h
  ·exact A _ (j a h _ (List.mem_cons_self ..)) _ (F.x a (List.mem_append_left _ h))
  ·rcases List.mem_cons.1 h with h|h
   ·rw[h];exact O
   ·exact A _ (z a h).symm _ (F.x a (List.mem_append_right _ (List.mem_cons_of_mem _ h)))
 ·rcases List.mem_cons.1 U with h|h
  ·rw[h];exact j a H (b,cs) (List.mem_cons_self ..)
  ·exact j a H c (List.mem_cons_of_mem _ h)
 ·rcases List.mem_append.1 h with h|h
  ·exact F.g a (List.mem_append_left _ h)
  ·rcases List.mem_cons.1 h with h|h
   ·rw[h];exact F.g (b,cs) (List.mem_append_right _ (List.mem_cons_self ..))
   ·exact F.g a (List.mem_append_right _ (List.mem_cons_of_mem _ h))
theorem Fm.put (F:Fm C gt cap base S0 w0 S q (l1++(b,#[v0,v1,v2,v3,v4,v5,v6,v7,v8,v9,v10,v11])::bs) w) (x0 x1 x2 x3 x4 L H J A I j z:Value):Fm C gt cap base S0 w0 S q (l1++(b,#[x0,x1,x2,x3,x4,L,H,J,A,I,j,z])::bs) (set12 w b x0 x1 x2 x3 x4 L H J A I j z):=
 have h:Bx gt S w b #[v0,v1,v2,v3,v4,v5,v6,v7,v8,v9,v10,v11]:=F.x (b,_) (List.mem_append_right _ (List.mem_cons_self ..))
 F.turn (h.put ..) (fun _ M _ N=>N.other M ..) (F.m.put h ..) (F.t.put (F.g (b,_) (List.mem_append_right _ (List.mem_cons_self ..))) ..)
theorem Fm.put0 (F:Fm C gt cap base S0 w0 S q ((b,#[v0,v1,v2,v3,v4,v5,v6,v7,v8,v9,v10,v11])::bs) w) (x0 x1 x2 x3 x4 J A I z H h j:Value):Fm C gt cap base S0 w0 S q ((b,#[x0,x1,x2,x3,x4,J,A,I,z,H,h,j])::bs) (set12 w b x0 x1 x2 x3 x4 J A I z H h j):=Fm.put (l1:=[]) F ..
theorem Fm.put1 (F:Fm C gt cap base S0 w0 S q ((b0,c0)::(b,#[v0,v1,v2,v3,v4,v5,v6,v7,v8,v9,v10,v11])::bs) w) (x0 x1 x2 x3 x4 J A I z H h j:Value):Fm C gt cap base S0 w0 S q ((b0,c0)::(b,#[x0,x1,x2,x3,x4,J,A,I,z,H,h,j])::bs) (set12 w b x0 x1 x2 x3 x4 J A I z H h j):=Fm.put (l1:=[(b0,c0)]) F ..
theorem Fm.put2 (F:Fm C gt cap base S0 w0 S q ((b0,c0)::(b1,c1)::(b,#[v0,v1,v2,v3,v4,v5,v6,v7,v8,v9,v10,v11])::bs) w) (x0 x1 x2 x3 x4 J A I z H h j:Value):Fm C gt cap base S0 w0 S q ((b0,c0)::(b1,c1)::(b,#[x0,x1,x2,x3,x4,J,A,I,z,H,h,j])::bs) (set12 w b x0 x1 x2 x3 x4 J A I z H h j):=Fm.put (l1:=[(b0,c0),(b1,c1)]) F ..
theorem Fm.put3 (F:Fm C gt cap base S0 w0 S q ((b0,c0)::(b1,c1)::(b2,c2)::(b,#[v0,v1,v2,v3,v4,v5,v6,v7,v8,v9,v10,v11])::bs) w) (x0 x1 x2 x3 x4 J A I z H h j:Value):Fm C gt cap base S0 w0 S q ((b0,c0)::(b1,c1)::(b2,c2)::(b,#[x0,x1,x2,x3,x4,J,A,I,z,H,h,j])::bs) (set12 w b x0 x1 x2 x3 x4 J A I z H h j):=Fm.put (l1:=[(b0,c0),(b1,c1),(b2,c2)]) F ..
theorem Fm.set0_1 (F:Fm C gt cap base S0 w0 S q ((b,#[v0,v1,v2,v3,v4,v5,v6,v7,v8,v9,v10,v11])::bs) w) (u:Value):Fm C gt cap base S0 w0 S q ((b,#[v0,u,v2,v3,v4,v5,v6,v7,v8,v9,v10,v11])::bs) (w.setCell ⟨b,1,none⟩ u):=
 have h:Bx gt S w b #[v0,v1,v2,v3,v4,v5,v6,v7,v8,v9,v10,v11]:=F.x (b,_) (by simp)
 Fm.turn (l1:=[]) F (h.at1 u) (fun _ z _ j=>j.set_other z 1 u) (F.m.set h 1 u) (F.t.set (F.g (b,#[v0,v1,v2,v3,v4,v5,v6,v7,v8,v9,v10,v11]) (by simp)) 1 u)
theorem Fm.set0_11 (F:Fm C gt cap base S0 w0 S q ((b,#[v0,v1,v2,v3,v4,v5,v6,v7,v8,v9,v10,v11])::bs) w) (u:Value):Fm C gt cap base S0 w0 S q ((b,#[v0,v1,v2,v3,v4,v5,v6,v7,v8,v9,v10,u])::bs) (w.setCell ⟨b,11,none⟩ u):=
 have h:Bx gt S w b #[v0,v1,v2,v3,v4,v5,v6,v7,v8,v9,v10,v11]:=F.x (b,_) (by simp)
 Fm.turn (l1:=[]) F (h.at11 u) (fun _ z _ j=>j.set_other z 11 u) (F.m.set h 11 u) (F.t.set (F.g (b,#[v0,v1,v2,v3,v4,v5,v6,v7,v8,v9,v10,v11]) (by simp)) 11 u)
theorem Fm.set2_1 (F:Fm C gt cap base S0 w0 S q ((b0,c0)::(b1,c1)::(b,#[v0,v1,v2,v3,v4,v5,v6,v7,v8,v9,v10,v11])::bs) w) (u:Value):Fm C gt cap base S0 w0 S q ((b0,c0)::(b1,c1)::(b,#[v0,u,v2,v3,v4,v5,v6,v7,v8,v9,v10,v11])::bs) (w.setCell ⟨b,1,none⟩ u):=
 have h:Bx gt S w b #[v0,v1,v2,v3,v4,v5,v6,v7,v8,v9,v10,v11]:=F.x (b,_) (by simp)
 Fm.turn (l1:=[(b0,c0),(b1,c1)]) F (h.at1 u) (fun _ z _ j=>j.set_other z 1 u) (F.m.set h 1 u) (F.t.set (F.g (b,#[v0,v1,v2,v3,v4,v5,v6,v7,v8,v9,v10,v11]) (by simp)) 1 u)
theorem Fm.of2 (x0:Bx gt S w b0 c0) (x1:Bx gt S w b1 c1) (m:Mem C gt cap base S q w) (t:SB w0.heap.size S0 w0 S w) (h:b0≠b1) (z:w0.heap.size≤b0) (A:w0.heap.size≤b1):Fm C gt cap base S0 w0 S q [(b0,c0),(b1,c1)] w:=by
 refine⟨fun b j=>?_,by simp[h],fun b j=>?_,m,t⟩
 ·simp at j
  rcases j with rfl|rfl
  ·exact x0
  ·exact x1
 ·simp at j
  rcases j with rfl|rfl
  ·exact z
  ·exact A
theorem Fm.cut {P:Program} {j:Code} {Q:Exit→Act→World→Prop} {a:Act} (F:Fm C gt cap base S0 w0 S q bs w) (h: ∀W,Fm C gt cap base S0 w0 S q bs W→Code.wp P j Q a W):Code.wp P j Q a w:=h w F
theorem Fm.cutR {P:Program} {j:Code} {Q:Exit→Act→World→Prop} {a:Act} {RW:World→Prop} (F:Fm C gt cap base S0 w0 S q bs w) (r:RW w) (h: ∀W,Fm C gt cap base S0 w0 S q bs W→RW W→Code.wp P j Q a W):Code.wp P j Q a w:=h w F r
theorem Mem.fm {z j:Array Value} (h:Mem C gt cap base S q w) (A:Below ((w.alloc (.cells z 122 (0,0))).alloc (.cells j 122 (0,0))).heap.size ((w.alloc (.cells z 122 (0,0))).alloc (.cells j 122 (0,0))) w1):Fm C gt cap base S w S q [(w.heap.size,z),(w.heap.size+1,j)] w1:=
 have⟨h1,h2,h3,h4⟩:=h.two A
 Fm.of2 h1 h2 h3 h4 (by omega) (by omega) (by omega)
theorem Mem.fm2 {z j:Array Value} (h:Mem C gt cap base S q w) (m:Mem C gt cap base S1 q1 w1) (s:Stp S ((w.alloc (.cells z 122 (0,0))).alloc (.cells j 122 (0,0))) S1 w1):Fm C gt cap base S w S1 q1 [(w.heap.size,z),(w.heap.size+1,j)] w1:=
 have⟨h1,h2,h3⟩:=h.two2 s
 Fm.of2 h1 h2 m h3 (by omega) (by omega) (by omega)
end
theorem zkj {C:Cx} {gt cap base:Nat} {y:PR} {d:Nat} {S S':Sv} {w w':World} {q':PS} {z':Int} {v:Value} (j:v=pv C gt cap S' q' z' d) (A:Is y q' z') (z:Mem C gt cap base S' q' w') (h:SB w.heap.size S w S' w'):Out C gt cap base y d S w (.returned v) w':=
 ⟨S',q',z',by rw[j],A,z,h.done⟩
theorem Fm.done {C:Cx} {gt cap base:Nat} {y:PR} {d:Nat} {S S':Sv} {w w':World} {q':PS} {z':Int} {v:Value} {bs:List (Nat×Array Value)} (F:Fm C gt cap base S w S' q' bs w') (h:v=pv C gt cap S' q' z' d) (j:Is y q' z'):Out C gt cap base y d S w (.returned v) w':=zkj h j F.m F.t
structure Row (S:Sv) (w:World) (base B:Nat) (r:Rw) (l:List Ep):Prop where
 own:OwnR w base 86 4 r l.length (l.flatMap epL)
 free: ∀k,r.blk=some k→¬S.has k
 new: ∀k,r.blk=some k→B≤k
 addr: ∃g,r.a=some ⟨g,0,none⟩
theorem Row.ne {I b:Nat} {S:Sv} {w:World} {j B:Nat} {r:Rw} {l:List Ep} {A:Array Value} (h:Row S w j B r l) (H:Bx I S w b A): ∀k,r.blk=some k→k≠b:=by
 rintro k z rfl
 obtain⟨_,_,c,g⟩:=h.own.typed z
 rw[H.heap] at g
 simp only[Option.some.injEq,Obj.cells.injEq] at g
 exact absurd g.2.1 (by decide)
theorem Row.stp {S S':Sv} {w w':World} {j B:Nat} {r:Rw} {l:List Ep} (h:Row S w j B r l) (s:Stp S w S' w'):Row S' w' j B r l:=
 ⟨h.own.keep fun k z=>s.block k (h.own.typed z).2.1 (h.free k z),fun k z g=>(s.sub k g).elim (h.free k z) fun A=>by have:=(h.own.typed z).2.1;omega,h.new,h.addr⟩
theorem Row.below {S:Sv} {w w':World} {j B:Nat} {r:Rw} {l:List Ep} (h:Row S w j B r l) (s:Below w.heap.size w w'):Row S w' j B r l:=h.stp (Stp.below s)
theorem Row.alloc {S:Sv} {w:World} {j B:Nat} {r:Rw} {l:List Ep} (h:Row S w j B r l) (o:Obj):Row S (w.alloc o) j B r l:=h.below ((Below.refl _ _).alloc (Nat.le_refl _) _)
theorem Row.drew {S:Sv} {w:World} {j B:Nat} {r:Rw} {l:List Ep} (h:Row S w j B r l):Row S w.drew j B r l:=⟨h.own,h.free,h.new,h.addr⟩
theorem Row.set {I b:Nat} {S:Sv} {w:World} {j B:Nat} {r:Rw} {l:List Ep} {A:Array Value} (h:Row S w j B r l) (H:Bx I S w b A) (i:Nat) (u:Value):Row S (w.setCell ⟨b,i,none⟩ u) j B r l:=
 ⟨h.own.keep fun k z=>zx (h.ne H k z),h.free,h.new,h.addr⟩
theorem Row.put {O b:Nat} {S:Sv} {w:World} {j B:Nat} {r:Rw} {l:List Ep} {J:Array Value} (h:Row S w j B r l) (N:Bx O S w b J) (x0 x1 x2 x3 x4 V M U L H z A:Value):Row S (set12 w b x0 x1 x2 x3 x4 V M U L H z A) j B r l:=
 ⟨h.own.keep fun k I=>zf0 (h.ne N k I) _ _ _ _ _ _ _ _ _ _ _ _,h.free,h.new,h.addr⟩
theorem Row.nil {C:Cx} {H A j B:Nat} {S:Sv} {q:PS} {w:World} (h:Mem C H A j S q w) (I:B≤w.heap.size):Row S (w.alloc (.cells #[] 86 (0,0))) j B ⟨some ⟨w.heap.size,0,none⟩,0⟩ []:=by
 refine⟨World.ownsRow_lit w #[] 0 h.base (by unfold maxLen;omega) rfl,fun k z g=>?_,fun k z=>?_,⟨_,rfl⟩⟩
 ·simp only[Rw.blk,Value.ownBlock,Option.some.injEq] at z
  have:=(h.own.has g).2
  omega
 ·simp only[Rw.blk,Value.ownBlock,Option.some.injEq] at z
  omega
theorem Row.grow {C:Cx} {L H j B:Nat} {S:Sv} {q:PS} {W w':World} {r J:Rw} {l:List Ep} {x:Ep} (h:Row S W j B r l) (A:Mem C L H j S q W) (Y:B≤W.heap.size) (U:W.grownBy w' r.blk) (O:OwnR w' j 86 4 J (l.length+1) (l.flatMap epL++epL x)) (I:J.blk=r.blk∨J.blk=some W.heap.size):
  Row S w' j B J (l++[x])∧Mem C L H j S q w':=by
 refine⟨⟨?_,fun k z g=>?_,fun k z=>?_,O.addr.resolve_left (by omega)⟩,?_⟩
 ·have e:(l++[x]).length=l.length+1:=by simp
  rw[e]
  simpa using O
 ·rcases I with e|e
  ·exact h.free k (by rw[←e];exact z) g
  ·have V:W.heap.size=k:=Option.some.inj (e.symm.trans z)
   have:=(A.own.has g).2
   omega
 ·rcases I with e|e
  ·exact h.new k (by rw[←e];exact z)
  ·have V:W.heap.size=k:=Option.some.inj (e.symm.trans z)
   omega
 ·have w: ∀k,k<W.heap.size→r.blk≠some k→w'.heap[k]? =W.heap[k]?:=fun k z M=>U.block k z fun e=>M e.symm
  refine⟨A.own.keep fun k z=>w k (A.own.has z).2 fun e=>h.free k e z,A.inv,zbG A.tok (w L (zau A.tok).1 fun e=>?_),A.few,Nat.le_trans A.base U.size⟩
  obtain⟨_,_,c,g⟩:=h.own.typed e
  obtain⟨X,N⟩:=zfH A.tok
  rw[g] at N
  simp only[Option.some.injEq,Obj.cells.injEq] at N
  exact absurd N.2.1 (by decide)
theorem Row.bx {z b:Nat} {S:Sv} {W w':World} {w B:Nat} {r:Rw} {l:List Ep} {A:Array Value} (h:Row S W w B r l) (j:Bx z S W b A) (H:W.grownBy w' r.blk):Bx z S w' b A:=
 ⟨(H.block b j.lt fun e=>h.ne j b e.symm rfl).trans j.heap,j.free,j.ne⟩
theorem Row.sb {S S0:Sv} {w W w':World} {z:Nat} {B:Nat} {r:Rw} {l:List Ep} (h:Row S W z B r l) (j:SB B S0 w S W) (A:W.grownBy w' r.blk):SB B S0 w S w':=
 ⟨A.os.trans j.os,A.tape.trans j.tape,A.output.trans j.output,Nat.le_trans j.size A.size,j.low,fun k H I=>(A.block k (by have:=j.size;have:=j.low;omega) fun e=>by have:=h.new k e.symm;omega).trans (j.block k H I),j.sub⟩
theorem Mem.list3 {C:Cx} {L J j:Nat} {S A:Sv} {q:PS} {w z:World} {I H:Array Value} (h:Mem C L J j S q w) (s:Stp S (((w.alloc (.cells I 122 (0,0))).alloc (.cells H 122 (0,0))).alloc (.cells #[] 86 (0,0))) A z):
  Bx L A z w.heap.size I∧Bx L A z (w.heap.size+1) H∧Row A z j w.heap.size ⟨some ⟨w.heap.size+1+1,0,none⟩,0⟩ []∧SB w.heap.size S w A z:=by
 refine⟨(((Bx.new h _).alloc _).alloc _).stp s,?_,?_,(SB.start (zdb w _ _ _)).step s⟩
 ·have:=((Bx.new (h.alloc (.cells I 122 (0,0))) H).alloc (.cells #[] 86 (0,0))).stp s
  rw[zn] at this
  exact this
 ·have:=(Row.nil (B:=w.heap.size) ((h.alloc (.cells I 122 (0,0))).alloc (.cells H 122 (0,0))) (zba w _ _).size).stp s
  rw[zcN] at this
  exact this
def Is3 (y:PRL) (q:PS) (z:Int) (l:List Ep):Prop:=
 match y with
 | .ok a=>q=a.1∧z= -1∧l=a.2
 | .error e=>z=(e:Int)
def zqS (C:Cx) (gt cap base:Nat) (y:PRL) (d:Nat) (S:Sv) (w:World) (e:Ending) (w':World):Prop:=
 ∃S' q' z' r l,e= .returned (.tuple #[pv C gt cap S' q' z' d,.slice r.a l.length r.cap,.bool (zaG l)])∧Is3 y q' z' l∧Mem C gt cap base S' q' w'∧Stp S w S' w'∧Row S' w' base w.heap.size r l∧l.length≤4001
theorem zkk (l:List Ep) (x:Ep):zaG (l++[x])=(zaG l||(x.loc.toList==[100,101,102,97,117,108,116])):=by simp[zaG]
theorem zqT {z:Func} {p u v:Tmp} {A:TypeId} (h:z.results= #[.cell p A,.tmp u,.tmp v]) (tmps:Array Value) (P:Program) (w:World):
  (results z tmps).run P w=((asAddr (tmps.getD p undef)).run P w).andThen fun a w'=>((loadVar A a).run P w').andThen fun x j=>.ok (.tuple #[x,tmps.getD u undef,tmps.getD v undef]) j:=by
 simp only[results,h]
 simp[Sem.run_bind,Result.andThen]
theorem zkl {P:Program} {A:Func} {p u v:Tmp} {z:TypeId} (h:A.results= #[.cell p z,.tmp u,.tmp v]) (tmps:Array Value) (w:World) (g:Nat) (t:TypeId) (j:Array Value) (H:Nat×Nat) (d:TypeDesc)
  (J:tmps.getD p undef= .pointer (some ⟨g,0,none⟩)) (M:w.heap[g]? =some (.cells j t H))
  (L:P.underlying z=some d) (I:(match d with| .struct _| .array _ _=>true|_=>false)=true) (N:(P.info? z).map (·.size)=some j.size):
  (results A tmps).run P w= .ok (.tuple #[.agg j,tmps.getD u undef,tmps.getD v undef]) w:=by
 rw[zqT h,J]
 simp[asAddr,Result.andThen,run_loadVar_row w g t z j H d M L I N]
theorem zbw {C:Cx} {x:PR} {k:Int} {s:ByteArray} {q:PS} {z:Int} (h:Is (bd x (ze C k s)) q z):z<0→1≤q.pos:=by
 intro w
 obtain⟨e,_⟩:=zaI h w
 obtain⟨a,_,j⟩:=zp e
 obtain⟨rfl,_⟩:=zbT j
 simp[adv]
theorem zhB (C:Cx) (H j h:Nat) (S:Sv) (q:PS) (d:Nat) (A:ByteArray) (w:World) (U:Mem C H j h S q w) (hp:1≤q.pos):
  Calls Tryz.prog 202 #[pv C H j S q (-1) d,.string A] w (Out C H j h (zbE C A q) d S w):=by
 have HM:=zc U
 have z:=U.tok
 have I:=U.few
 clear U
 cases O:isT C q.pos 4 zr with
 |true=>
  have Z:Hid (zbE C A q=bd (bd (bd (.ok q) (ze C 4 zr)) (ze C 4 za8)) (zQ C ⟨3,0,A,sNone,0,0⟩)):=if_pos O
  unfold pv
  go_enter Tryz.func202,Tryz.ntmps202
  go_wp2_with fail
  refine (zl C H j h S q (-1) d 4 zr _ (zt (zt z _) _) I (by decide)).mono ?_
  rintro e w1 ⟨rfl,L⟩
  rw[O]
  have F:=HM.out.fm L
  clear z
  have M:=F.x0.boxC
  go_wp2_with fail
  refine (zai C H j h (.ok q) S q (-1) d zr _ (zab q) F.m).mono ?_
  rintro e w2 ⟨S2,q2,z2,rfl,J,V,X⟩
  replace F:=F.stp V X
  clear M
  go_wp2_with fail
  refine (zai C H j h _ S2 q2 z2 d za8 _ J.out F.m).mono ?_
  rintro e w3 ⟨S3,q3,z3,rfl,N,m3,s3⟩
  replace F:=F.stp m3 s3
  have M:=F.x0.boxC
  unfold pv
  go_wp2_with fail
  refine (zdc C H j h _ S3 q3 z3 d ⟨3,0,A,sNone,0,0⟩ _ N.out (F.put0 ..).m (zbw N.out)).mono ?_
  rintro e w4 ⟨S4,q4,z4,rfl,Y,m4,s4⟩
  replace F:=(F.put0 ..).stp m4 s4
  clear M
  have bb:=F.x1.boxC
  unfold pv
  go_wp2
  refine (F.x1.put ..).ret rfl rfl ?_
  rw[Z.out]
  exact (F.put1 ..).done rfl Y.out
 |false=>
  have Z:Hid (zbE C A q=bd (.ok q) (zQ C ⟨2,0,A,sNone,0,0⟩)):=by show zbE C A q=_;rw[zbE,O];rfl
  unfold pv
  go_enter Tryz.func202,Tryz.ntmps202
  go_wp2_with fail
  refine (zl C H j h S q (-1) d 4 zr _ (zt (zt z _) _) I (by decide)).mono ?_
  rintro e w1 ⟨rfl,L⟩
  rw[O]
  have F:=HM.out.fm L
  clear z
  have M:=F.x0.boxC
  go_wp2_with fail
  refine (zdc C H j h (.ok q) S q (-1) d ⟨2,0,A,sNone,0,0⟩ _ (zab q) F.m (fun _=>hp)).mono ?_
  rintro e w2 ⟨S2,q2,z2,rfl,J,V,X⟩
  replace F:=F.stp V X
  clear M
  have bb:=F.x1.boxC
  unfold pv
  go_wp2
  refine (F.x1.put ..).ret rfl rfl ?_
  rw[Z.out]
  exact (F.put1 ..).done rfl J.out
theorem zqU {C:Cx} {j:Bool} {l:List Ep} {Y:PRN} {M A:ByteArray} {U O z:PS} {X J I:Int} (V:Is2 Y U X M) (w:Is2 (bd Y (asP C j)) O J A) (L:(decide (J<0)&&isT C O.pos 4 zbD)=false) (h:Is (bd (zaS (bd Y (asP C j))) (ze C 4 zbz)) z I):
  Is3 (bd Y fun a=>bd (asP C j a) fun b=>if isT C b.1.pos 4 zbD then za5 C j (adv b.1) (l++[⟨0,b.2,a.2,sNone⟩]) else bd (ze C 4 zbz b.1) fun q'=>.ok (q',l++[⟨0,b.2,a.2,sNone⟩])) z I (l++[⟨0,A,M,sNone⟩]):=by
 cases Y with
 |error e=>exact h
 |ok a=>
  obtain⟨_,_,rfl⟩:=V
  rw[zB] at w h ⊢
  cases N:asP C j a with
  |error e=>rw[N] at h;exact h
  |ok b=>
   rw[N] at w h
   obtain⟨rfl,rfl,rfl⟩:=w
   rw[Bool.and_eq_false_iff] at L
   rw[zB,L.resolve_left (by decide)]
   have e:bd (zaS (.ok b)) (ze C 4 zbz)=ze C 4 zbz b.1:=rfl
   rw[e] at h
   show Is3 (bd (ze C 4 zbz b.1) _) _ _ _
   cases H:ze C 4 zbz b.1 with
   |error e=>rw[H] at h;exact h
   |ok c=>rw[H] at h;exact⟨h.1,h.2,rfl⟩
theorem zqV {C:Cx} {j:Bool} {l:List Ep} {w N A:PS} {M L:ByteArray} {U z:Int} (I:Is2 (bd (.ok w) (zo C true)) N U M) (h:Is2 (bd (bd (.ok w) (zo C true)) (asP C j)) A z L) (V:z<0) (O:isT C A.pos 4 zbD=true):
  (bd (.ok w) fun q=>za5 C j q l)=(bd (.ok (adv A)) fun q=>za5 C j q (l++[⟨0,L,M,sNone⟩]))∧w.pos+1≤A.pos:=by
 rw[zB] at I h ⊢
 rw[zB,zfI]
 cases H:zo C true w with
 |error e=>rw[H] at h;have:z=(e:Int):=h;omega
 |ok a=>
  rw[H] at I h
  obtain⟨_,_,rfl⟩:=I
  rw[zB] at h ⊢
  obtain⟨rfl,_⟩:=zb0 H
  cases J:asP C j (adv w,(zf C w.pos).text) with
  |error e=>rw[J] at h;have:z=(e:Int):=h;omega
  |ok b=>
   rw[J] at h
   obtain⟨rfl,rfl,rfl⟩:=h
   have:=zeW J
   rw[zB,O]
   exact⟨rfl,this⟩
theorem zqW {C:Cx} {h:Bool} {x:PR} {q j:PS} {z w:Int} {l:List Ep} (H:Is x q z) (I: ¬z<0) (A:Is (bd x (ze C 4 zbz)) j w):Is3 (bd x fun q=>za5 C h q l) j w l:=by
 obtain⟨e,rfl,_⟩:=zd0 H I
 exact A
theorem zqX {C:Cx} {h:Bool} {Y:PRN} {j A:PS} {w z:Int} {M J:ByteArray} (H:Is2 Y j w M) (I:(decide (w<0)&&isT C j.pos 1 sAs)=true) (L:Is2 (bd (.ok (adv j)) (zo C h)) A z J):Is2 (bd Y (asP C h)) A z J:=by
 rw[Bool.and_eq_true,decide_eq_true_eq] at I
 cases Y with
 |error e=>have:w=(e:Int):=H;omega
 |ok a=>
  obtain⟨rfl,_,_⟩:=H
  rw[zB,asP,if_pos I.2]
  exact L
theorem zqY {C:Cx} {z:Bool} {Y:PRN} {j:PS} {w:Int} {A:ByteArray} (H:Is2 Y j w A) (I:(decide (w<0)&&isT C j.pos 1 sAs)=false) (J:((A.toList==[100,101,102,97,117,108,116])&& !z)=true):Is2 (bd Y (asP C z)) j (zb5 C j.pos w) A:=by
 cases Y with
 |error e=>
  have h:w=(e:Int):=H
  show zb5 C j.pos w=(e:Int)
  rw[zb5,if_neg (by omega)]
  exact h
 |ok a=>
  obtain⟨rfl,rfl,rfl⟩:=H
  rw[Bool.and_eq_false_iff] at I
  rw[zB,asP,I.resolve_left (by decide),J]
  rfl
theorem zkm {C:Cx} {h:Bool} {Y:PRN} {j:PS} {w:Int} {z:ByteArray} (A:Is2 Y j w z) (H:(decide (w<0)&&isT C j.pos 1 sAs)=false) (I:((z.toList==[100,101,102,97,117,108,116])&& !h)=false):Is2 (bd Y (asP C h)) j w z:=by
 cases Y with
 |error e=>exact A
 |ok a=>
  obtain⟨rfl,rfl,rfl⟩:=A
  rw[Bool.and_eq_false_iff] at H
  rw[zB,asP,H.resolve_left (by decide),I]
  exact⟨rfl,rfl,rfl⟩
theorem zkn (C:Cx) (I z h:Nat) (S:Sv) (q:PS) (d:Nat) (O:Bool) (w:World) (hm:Mem C I z h S q w):
  Calls Tryz.prog 144 #[pv C I z S q (-1) d,.bool O] w (zqS C I z h (zcY C O q) d S w):=by
 obtain⟨i0,hi,au,az,aw⟩:=info_parts Tryz.infoExp
 have HM:=zc hm
 have U:=hm.few
 clear hm
 unfold pv
 go_enter Tryz.func144,Tryz.ntmps144
 go_wp2_with fail
 refine (zai C I z h (.ok q) S q (-1) d zL _ (zab q) (((HM.out.alloc _).alloc _).alloc _)).mono ?_
 rintro e w1 ⟨S1,q1,z1,rfl,ap,m1,s1⟩
 obtain⟨X0,X1,R0,t1⟩:=HM.out.list3 s1
 have F:=Fm.of2 X0 X1 m1 t1 (by omega) (by omega) (by omega)
 have j:=zc R0
 clear m1 s1 X0 X1 R0 t1
 have A:=F.x0.boxC
 unfold pv
 go_wp2
 go_loopg [7,8] (C.ts.length+1) (fun k o an wr=>∃(x':PR) (M:Sv) (Y:PS) (z':Int) (r:Rw) (l:List Ep),Is x' Y z'∧bd x' (fun q=>za5 C O q l)=zcY C O q∧(z'<0→C.ts.length-Y.pos<k)∧(l.length≤Y.pos∨l=[])∧o= .slice r.a l.length r.cap∧an= .bool (zaG l)∧Mem C I z h M Y wr∧SB w.heap.size S w M wr∧Bx I M wr w.heap.size #[.slice (some ⟨I,0,none⟩) C.ts.length z,.int .i64 Y.pos,.int .i64 C.fin,.bool C.scr,.slice M.rq.a Y.rq.length M.rq.cap,.slice M.im.a Y.im.length M.im.cap,.slice M.ep.a Y.ep.length M.ep.cap,.slice M.st.a Y.st.length M.st.cap,.slice M.ex.a Y.ex.length M.ex.cap,.slice M.la.a Y.la.length M.la.cap,.int .i64 z',.int .i64 d]∧Bx I M wr (w.heap.size+1) #[.slice none 0 0,.int .i64 0,.int .i64 0,.bool false,.slice none 0 0,.slice none 0 0,.slice none 0 0,.slice none 0 0,.slice none 0 0,.slice none 0 0,.int .i64 0,.int .i64 0]∧Row M wr h w.heap.size r l)
 case atStart=>exact⟨_,S1,q1,z1,_,[],ap.out,rfl,fun _=>by omega,.inr rfl,rfl,rfl,(F.put0 ..).m,(F.put0 ..).t,(F.put0 ..).x0,(F.put0 ..).x1,(j.out.put F.x0 ..)⟩
 case round=>
  obtain⟨x2,S2,q2,z2,r,l,i2,e2,l2,n2,rfl,rfl,m2,t2,X0,X1,R0⟩:=hrel
  have F:=Fm.of2 X0 X1 m2 t2 (by omega) (by omega) (by omega)
  have ad:=zc i2
  have ae:=zc e2
  have av:=zc l2
  have j:=zc R0
  have aD:l.length≤4000:=n2.elim (fun g=>by have:=m2.inv.pos;omega) (fun g=>by rw[g];simp)
  have ar:=zc n2
  clear X0 X1 i2 m2 t2 e2 l2 R0 n2
  by_cases hz:z2<0
  ·skip
   obtain⟨rfl,rfl⟩:=zaI ad.out hz
   have aE:=av.out hz
   have A:=F.x0.boxC
   go_wp2_with fail
   refine (zbm C I z h (.ok q2) S2 q2 (-1) d true _ (zab q2) F.m).mono ?_
   rintro e w3 ⟨Z,V,z3,X,rfl,J,m3,s3⟩
   replace j:=zc (j.out.stp s3)
   replace F:=F.stp m3 s3
   clear A
   have aC:w.heap.size+1<w3.heap.size:=F.x1.lt
   unfold pv
   go_upto_region 6 with fail
   refine (F.new2 _).cutR (RW:=fun W=>Row Z W h w.heap.size r l) (j.out.alloc _) ?_
   clear j
   intro w4 F R0
   have j:=zc R0
   clear R0
   have A:=F.x0.boxC
   have cb:=F.x2.boxC
   go_upto_region 7 with fail
   refine (F.put0 ..).cutR (RW:=fun W=>Row Z W h w.heap.size r l) (j.out.put F.x0 ..) ?_
   clear A cb
   clear j
   intro w5 F R0
   have j:=zc R0
   clear R0
   skip
   have A:=F.x0.boxC
   skip
   go_wp2_with fail
   refine (zl C I z h Z V z3 d 1 sAs _ F.m.tok U (by decide)).mono ?_
   rintro e w6 ⟨rfl,ag⟩
   replace j:=zc (j.out.below ag)
   replace F:=F.below ag
   clear A
   go_upto_if 28 with fail
   go_cut [11] (fun ao wx=>∃(H:Sv) (L:PS) (z5:Int) (n5:ByteArray),ao= .string n5∧Is2 (bd (bd (.ok q2) (zo C true)) (asP C O)) L z5 n5∧Mem C I z h H L wx∧SB w.heap.size S w H wx∧Bx I H wx w.heap.size #[.slice (some ⟨I,0,none⟩) C.ts.length z,.int .i64 L.pos,.int .i64 C.fin,.bool C.scr,.slice H.rq.a L.rq.length H.rq.cap,.slice H.im.a L.im.length H.im.cap,.slice H.ep.a L.ep.length H.ep.cap,.slice H.st.a L.st.length H.st.cap,.slice H.ex.a L.ex.length H.ex.cap,.slice H.la.a L.la.length H.la.cap,.int .i64 z5,.int .i64 d]∧Bx I H wx (w.heap.size+1) #[.slice none 0 0,.int .i64 0,.int .i64 0,.bool false,.slice none 0 0,.slice none 0 0,.slice none 0 0,.slice none 0 0,.slice none 0 0,.slice none 0 0,.int .i64 0,.int .i64 0]∧Row H wx h w.heap.size r l)
   case first=>
    cases hb:(decide (z3<0)&&isT C V.pos 1 sAs) with
    |true=>
     have al:V.pos<C.ts.length:=by rw[Bool.and_eq_true] at hb;exact za9 hb.2 (by decide)
     have A:=F.x0.boxC
     have am:z3= -1:=by rw[Bool.and_eq_true,decide_eq_true_eq] at hb;exact (zaI J.out.fst hb.1).2
     subst am
     go_wp2_with fail
     refine (zbm C I z h (.ok (adv V)) Z (adv V) (-1) d O _ (zab _) ((F.adv al).set0_1 _).m).mono ?_
     rintro e w7 ⟨S7,q7,z7,n7,rfl,aq,m7,s7⟩
     replace j:=zc ((j.out.set F.x0 1 _).stp s7)
     replace F:=(F.set0_1 _).stp m7 s7
     clear A
     have aB:w.heap.size+1<w7.heap.size:=F.x1.lt
     have aj:w3.heap.size<w7.heap.size:=F.x2.lt
     unfold pv
     go_upto_region 11 with fail
     refine (F.new3 _).cutR (RW:=fun W=>Row S7 W h w.heap.size r l) (j.out.alloc _) ?_
     clear j
     intro w8 F R0
     have j:=zc R0
     clear R0
     have A:=F.x0.boxC
     have db:=F.x3.boxC
     go_wp2
     go_meet
     case rel=>exact⟨S7,q7,z7,n7,rfl,zqX J.out hb aq.out,(F.put0 ..).m,(F.put0 ..).t,(F.put0 ..).x0,(F.put0 ..).x1,(j.out.put F.x0 ..)⟩
    |false=>
     cases e3:(X.toList==[100,101,102,97,117,108,116]) with
     |true=>
      cases O with
      |false=>
       have A:=F.x0.boxC
       go_wp2_with fail
       refine (zdy C I z h Z V z3 d _ F.m.tok U).mono ?_
       rintro e w7 ⟨rfl,N⟩
       replace j:=zc (j.out.below N)
       replace F:=F.below N
       clear A
       have A:=F.x0.boxC
       unfold pv
       go_wp2
       go_meet
       case rel=>exact⟨Z,V,(zb5 C V.pos z3),X,rfl,zqY J.out hb (by rw[e3];rfl),(F.put0 ..).m,(F.put0 ..).t,(F.put0 ..).x0,(F.put0 ..).x1,(j.out.put F.x0 ..)⟩
      |true=>
       have A:=F.x0.boxC
       go_wp2
       go_meet
       case rel=>exact⟨Z,V,z3,X,rfl,zkm J.out hb (by rw[e3];rfl),F.m,F.t,F.x0,F.x1,j.out⟩
     |false=>
      have A:=F.x0.boxC
      go_wp2
      go_meet
      case rel=>exact⟨Z,V,z3,X,rfl,zkm J.out hb (by rw[e3];rfl),F.m,F.t,F.x0,F.x1,j.out⟩
   case rest=>
    obtain⟨H,L,z5,n5,rfl,i5,m5,t5,X0,X1,R0⟩:=hcut
    clear j
    have F:=Fm.of2 X0 X1 m5 t5 (by omega) (by omega) (by omega)
    have aa:=zc i5
    have j:=zc R0
    clear X0 X1 i5 m5 t5 R0
    go_upto_region 15 with fail
    go_cut [8] (fun s8 wx=>s8= .bool (zaG l||(X.toList==[100,101,102,97,117,108,116]))∧wx=wc)
    case first=>
     cases ha:zaG l with
     |true=>
      go_wp2
      go_meet
      case rel=>exact⟨by rw[ha];rfl,rfl⟩
     |false=>
      cases e3:(X.toList==[100,101,102,97,117,108,116]) with
      |true=>
       go_wp2
       go_meet
       case rel=>exact⟨by rw[ha,e3];rfl,rfl⟩
      |false=>
       go_wp2
       go_meet
       case rel=>exact⟨by rw[ha,e3];rfl,rfl⟩
    case rest=>
     obtain⟨rfl,rfl⟩:=hcut
     have ac:=fun o=>j.out.own.alloc o
     have ak:=F.m.base
     go_wp2_with (at_builtin;refine zcv _ rfl _ _ 32 rfl h 86 i0 _ 4 56 Tryz.underlying32 hi au az aw rfl (by decide) (by decide) r l.length _ (by rfl) (ac _) wc.heap.size (epL ⟨0,n5,X,sNone⟩) (by rfl) (by exact heap_alloc_new wc _) rfl (by intro u hu;simp[epL] at hu;rcases hu with rfl|rfl|rfl|rfl<;>rfl) (by omega) (by rw[zn];omega) ?_)
     intro r' w6 hr hg ah
     obtain⟨R6,m6⟩:=(j.out.alloc _).grow (x:=⟨0,n5,X,sNone⟩) (F.alloc _).m (by rw[zn];have:=F.t.size;omega) hg hr (by rw[zn];exact ah)
     replace F:=Fm.of2 ((j.out.alloc _).bx (F.x0.alloc _) hg) ((j.out.alloc _).bx (F.x1.alloc _) hg) m6 ((j.out.alloc _).sb (F.t.alloc _) hg) (by omega) (by omega) (by omega)
     clear j hr hg ah ac ak m6
     have j:=zc R6
     clear R6
     cases hc:(decide (z5<0)&&isT C L.pos 4 zbD) with
     |true=>
      have A:=F.x0.boxC
      go_wp2_with fail
      refine (zl C I z h H L z5 d 4 zbD _ F.m.tok U (by decide)).mono ?_
      rintro e w7 ⟨rfl,N⟩
      rw[hc]
      replace j:=zc (j.out.below N)
      replace F:=F.below N
      clear A
      rw[Bool.and_eq_true,decide_eq_true_eq] at hc
      obtain⟨af,ai⟩:=hc
      have ax:L.pos<C.ts.length:=za9 ai (by decide)
      obtain⟨E5,P5⟩:=zqV (l:=l) J.out aa.out af ai
      have HE:=zc E5
      obtain rfl:z5= -1:=(zaI aa.out.fst af).2
      have ay:Hid ((l++[(⟨0,n5,X,sNone⟩:Ep)]).length≤L.pos+1∨l++[(⟨0,n5,X,sNone⟩:Ep)]=[]):=.inl (by simp only[List.length_append,List.length_singleton];exact ar.out.elim (fun g=>by omega) (fun g=>by rw[g];simp))
      clear E5
      have A:=F.x0.boxC
      go_wp2
      go_roundg (gk-1)
      case rel=>exact⟨.ok (adv L),H,adv L,-1,r',l++[⟨0,n5,X,sNone⟩],zab _,by rw[←ae.out];exact HE.out.symm,fun _=>by rw[zA];omega,ay.out,by simp,by rw[zkk],((F.adv ax).set0_1 _).m,(F.t.set (by omega) 1 _),(F.x0.at1 _),(F.x1.set_other (by omega) 1 _),(j.out.set F.x0 1 _)⟩
      case measure=>omega
     |false=>
      have A:=F.x0.boxC
      go_wp2_with fail
      refine (zl C I z h H L z5 d 4 zbD _ F.m.tok U (by decide)).mono ?_
      rintro e w7 ⟨rfl,N⟩
      rw[hc]
      replace j:=zc (j.out.below N)
      replace F:=F.below N
      clear A
      have A:=F.x0.boxC
      go_wp2_with fail
      refine (zai C I z h _ H L z5 d zbz _ aa.out.fst F.m).mono ?_
      rintro e w8 ⟨S8,q8,z8,rfl,aA,m8,s8⟩
      replace j:=zc (j.out.stp s8)
      replace F:=F.stp m8 s8
      clear A
      have bb:=F.x1.boxC
      unfold pv
      go_wp2
      refine bodyPost_ret (zkl rfl _ _ (w.heap.size+1) 122 _ (0,0) _ rfl ((F.x1.put ..)).heap Tryz.underlying122 rfl (by kernel_rfl)) rfl ?_
      exact⟨S8,q8,z8,r',l++[⟨0,n5,X,sNone⟩],by simp[pv,zkk],by rw[←ae.out,zB,zfI];exact zqU J.out aa.out hc aA.out,(F.put1 ..).m,(F.put1 ..).t.done,(j.out.put F.x1 ..),by simp;omega⟩
  ·skip
   have A:=F.x0.boxC
   go_wp2_with fail
   refine (zai C I z h _ S2 q2 z2 d zbz _ ad.out F.m).mono ?_
   rintro e w3 ⟨Z,V,z3,rfl,J,m3,s3⟩
   replace j:=zc (j.out.stp s3)
   replace F:=F.stp m3 s3
   clear A
   have bb:=F.x1.boxC
   unfold pv
   go_wp2
   refine bodyPost_ret (zkl rfl _ _ (w.heap.size+1) 122 _ (0,0) _ rfl ((F.x1.put ..)).heap Tryz.underlying122 rfl (by kernel_rfl)) rfl ?_
   exact⟨Z,V,z3,r,l,rfl,by rw[←ae.out];exact zqW ad.out (by omega) J.out,(F.put1 ..).m,(F.put1 ..).t.done,(j.out.put F.x1 ..),by omega⟩
def SumOK (C:Cx) (gt cap base m:Nat):Prop:=∀(x:PR) (S:Sv) (q:PS) (z:Int) (d:Nat) (w:World),Is x q z→Mem C gt cap base S q w→(z<0→C.ts.length-q.pos<m)→d≤20→
 Calls Tryz.prog 111 #[pv C gt cap S q z d] w (Out C gt cap base (bd x (pE C .sum d)) d S w)
theorem zg6 {C:Cx} {o:Bool} {q z:PS} {w:Int} {j:ByteArray} (h:Is2 (bd (.ok q) (zo C o)) z w j) (A:zF C q.pos o=true):z=adv q∧w= -1∧j=(zf C q.pos).text:=by
 rw[zB,zo,if_pos A] at h
 exact h
theorem zg7 {C:Cx} {o:Bool} {q A:PS} {j:Int} {z:ByteArray} (h:Is2 (bd (.ok q) (zo C o)) A j z) (w:zF C q.pos o=false):j=(zu C q.pos:Int):=by
 rw[zB,zo,w] at h
 exact h
theorem zko {C:Cx} {n:ByteArray} {y:Except Nat (PS×ByteArray)} {q:PS} {z:Int} {f:ByteArray} (h:Is2 y q z f) (j:(decide (z<0)&&isT C q.pos 4 zr)=true):bd (bd (bd (zaS y) (ze C 4 zr)) (ze C 4 za8)) (zQ C ⟨5,0,n,f,0,0⟩)=bd y fun a=>zbS C n a.2 a.1:=by
 rw[Bool.and_eq_true,decide_eq_true_eq] at j
 cases y with
 |ok a=>
  obtain⟨rfl,_,rfl⟩:=h
  show _=zbS C n a.2 a.1
  rw[zbS,if_pos j.2]
  rfl
 |error e=>rfl
theorem zkp {C:Cx} {n:ByteArray} {y:Except Nat (PS×ByteArray)} {q:PS} {z:Int} {f:ByteArray} (h:Is2 y q z f) (j:(decide (z<0)&&isT C q.pos 4 zr)=false):bd (zaS y) (zQ C ⟨4,0,n,f,0,0⟩)=bd y fun a=>zbS C n a.2 a.1:=by
 cases y with
 |ok a=>
  obtain⟨rfl,rfl,rfl⟩:=h
  rw[Bool.and_eq_false_iff] at j
  show _=zbS C n a.2 a.1
  rw[zbS,j.resolve_left (by decide)]
  rfl
 |error e=>rfl
theorem zkq {C:Cx} {o:Bool} {x:PR} {q:PS} {z:Int} {n:ByteArray} (h:Is2 (bd x (zo C o)) q z n):z<0→1≤q.pos:=by
 intro A
 cases j:bd x (zo C o) with
 |error e=>rw[j] at h;have:z=(e:Int):=h;omega
 |ok a=>
  rw[j] at h
  obtain⟨rfl,_,_⟩:=h
  obtain⟨b,_,w⟩:=zp j
  obtain⟨rfl,_⟩:=zb0 w
  simp[adv]
theorem zqZ (C:Cx) (H j h:Nat) (S:Sv) (q:PS) (d:Nat) (w:World) (I:Mem C H j h S q w) (M:((zf C q.pos).kind==2)=true):
  Calls Tryz.prog 182 #[pv C H j S q (-1) d] w (Out C H j h (pE C .part d q) d S w):=by
 have HM:=zc I
 have z:=I.tok
 have Y:C.ts.length≤4000:=I.few
 have O:=(zau I.tok).1
 clear I
 have U:q.pos<C.ts.length:=zfC M (by decide)
 have X:Hid (pE C .part d q=bd (.ok (adv q)) (zQ C ⟨1,(zf C q.pos).num,sNone,sNone,0,0⟩)):=by show pE C .part d q=_;rw[zbM,if_pos M];rfl
 obtain⟨Z,_,V,_⟩:=z.cells U (d:=⟨0,sNone,0,C.fin⟩)
 change _=some (Value.int .i64 (zf C q.pos).kind) at Z
 change _=some (Value.int .i64 (zf C q.pos).num) at V
 have A:Hid (Mem C H j h S (adv q) w):=HM.out.adv U
 generalize (zf C q.pos).kind=kd at Z M
 have HN:Hid (∀n,n=(zf C q.pos).num→pE C .part d q=bd (.ok (adv q)) (zQ C ⟨1,n,sNone,sNone,0,0⟩)):=fun n e=>by rw[e];exact X.out
 generalize J:(zf C q.pos).num=nm at V
 have N:Hid (nm=(zf C q.pos).num):=J.symm
 clear J X z
 unfold pv
 go_enter Tryz.func182,Tryz.ntmps182
 go_wp2_with fail
 refine (zdc C H j h (.ok (adv q)) S (adv q) (-1) d ⟨1,nm,sNone,sNone,0,0⟩ _ (zab _) ((A.out.alloc _).alloc _) (fun _=>by simp[adv])).mono ?_
 rintro e w1 ⟨S1,q1,z1,rfl,L,m1,s1⟩
 have F:=A.out.fm2 m1 s1
 have bb:=F.x1.boxC
 unfold pv
 go_wp2
 refine (F.x1.put ..).ret rfl rfl ?_
 rw[HN.out nm N.out]
 exact (F.put1 ..).done rfl L.out
theorem zra (C:Cx) (H j h:Nat) (S:Sv) (q:PS) (d:Nat) (w:World) (I:Mem C H j h S q w) (N:((zf C q.pos).kind==2)=false) (J:isT C q.pos 4 zr=true) (V:20≤d) (X:d≤20):
  Calls Tryz.prog 182 #[pv C H j S q (-1) d] w (Out C H j h (pE C .part d q) d S w):=by
 have Y:=zc I
 have z:=I.tok
 have A:C.ts.length≤4000:=I.few
 have O:=(zau I.tok).1
 clear I
 have hp:q.pos<C.ts.length:=za9 J (by decide)
 have HV:Hid (pE C .part d q= .error (zu C q.pos)):=by show pE C .part d q=_;rw[zbM,N,J];simp[V]
 have qd:decide ((20:Int)≤(d:Int))=true:=decide_eq_true (by omega)
 obtain⟨U,_,_,_⟩:=z.cells hp (d:=⟨0,sNone,0,C.fin⟩)
 change _=some (Value.int .i64 (zf C q.pos).kind) at U
 generalize (zf C q.pos).kind=kd at U N
 unfold pv
 go_enter Tryz.func182,Tryz.ntmps182
 go_wp2_with fail
 refine (zl C H j h S q (-1) d 4 zr _ (zt (zt z _) _) A (by decide)).mono ?_
 rintro e w1 ⟨rfl,M⟩
 rw[J]
 have F:=Y.out.fm M
 have Z:=F.x0.boxC
 go_wp2_with fail
 refine (zdy C H j h S q (-1) d _ F.m.tok A).mono ?_
 rintro e w2 ⟨rfl,L⟩
 replace F:=F.below L
 clear Z
 have bb:=F.x1.boxC
 unfold pv
 go_wp2
 refine (F.x1.put ..).ret rfl rfl ?_
 rw[HV.out]
 exact (F.put1 ..).done rfl (show Is (.error (zu C q.pos)) q _ from rfl)
theorem zrb (C:Cx) (A j h:Nat) (S:Sv) (q:PS) (d:Nat) (w:World) (H:Mem C A j h S q w) (V:((zf C q.pos).kind==2)=false) (M:isT C q.pos 4 zr=true) (hd:d<20) (Z:SumOK C A j h (C.ts.length-q.pos)):
  Calls Tryz.prog 182 #[pv C A j S q (-1) d] w (Out C A j h (pE C .part d q) d S w):=by
 have HM:=zc H
 have z:=H.tok
 have I:C.ts.length≤4000:=H.few
 have X:=(zau H.tok).1
 clear H
 have Y:q.pos<C.ts.length:=za9 M (by decide)
 have HV:Hid (pE C .part d q=bd (bd (.ok (adv q)) (pE C .sum (d+1))) (ze C 4 za8)):=by show pE C .part d q=_;rw[zbM,V,M,if_neg (by decide),if_pos rfl,if_neg (by omega)];rfl
 have HS:=zc Z
 clear Z
 have qd:decide ((20:Int)≤(d:Int))=false:=decide_eq_false (by omega)
 obtain⟨c0,_,_,_⟩:=z.cells Y (d:=⟨0,sNone,0,C.fin⟩)
 change _=some (Value.int .i64 (zf C q.pos).kind) at c0
 generalize (zf C q.pos).kind=kd at c0 V
 unfold pv
 go_enter Tryz.func182,Tryz.ntmps182
 go_wp2_with fail
 refine (zl C A j h S q (-1) d 4 zr _ (zt (zt z _) _) I (by decide)).mono ?_
 rintro e w1 ⟨rfl,O⟩
 rw[M]
 have F:=HM.out.fm O
 have J:=F.x0.boxC
 go_wp2_with fail
 refine (HS.out (.ok (adv q)) S (adv q) (-1) (d+1) _ (zab _) (((F.adv Y).set0_1 _).set0_11 _).m (fun _=>by show C.ts.length-(q.pos+1)<_;omega) (by omega)).mono ?_
 rintro e w2 ⟨S2,q2,z2,rfl,L,m2,s2⟩
 replace F:=((F.set0_1 _).set0_11 _).stp m2 s2
 clear J
 go_wp2_with fail
 refine (zai C A j h _ S2 q2 z2 (d+1) za8 _ L.out F.m).mono ?_
 rintro e w3 ⟨S3,q3,z3,rfl,N,m3,s3⟩
 replace F:=F.stp m3 s3
 have J:=F.x0.boxC
 obtain⟨D,U⟩: ∃D:Nat,D=d+1:=⟨_,rfl⟩
 rw[←U]
 have ac:(D:Int)-1=d:=by omega
 have aa:D≤20:=by omega
 clear U hd qd
 unfold pv
 go_upto_region 11 with fail
 refine (F.put0 ..).cut ?_
 clear J
 intro w4 F
 have J:=F.x0.boxC
 have bb:=F.x1.boxC
 go_wp2
 refine bodyPost_ret (results_cell_row rfl _ _ (w.heap.size+1) 122 _ (0,0) _ rfl (((F.x1.set_other (by omega) 11 _).put ..)).heap Tryz.underlying122 rfl (by kernel_rfl)) rfl ?_
 rw[HV.out]
 exact zkj rfl N.out ((F.set0_11 _).put1 ..).m ((F.set0_11 _).put1 ..).t
theorem zrc (j:List Tk) (h:Nat) (I A z:Nat) (S:Sv) (q:PS) (d:Nat) (w:World) (L:Mem (Cx.mk j h true) I A z S q w) (M: ¬q.pos<(Cx.mk j h true).ts.length):
  Calls Tryz.prog 182 #[pv (Cx.mk j h true) I A S q (-1) d] w (Out (Cx.mk j h true) I A z (pE (Cx.mk j h true) .part d q) d S w):=by
 have HM:=zc L
 have J:=L.tok
 have H:(Cx.mk j h true).ts.length≤4000:=L.few
 have X:=(zau L.tok).1
 clear L
 have hk:((zf (Cx.mk j h true) q.pos).kind==2)=false:=by rw[zdI (by omega)];rfl
 have Y:isT (Cx.mk j h true) q.pos 4 zr=false:=zfb M (by decide)
 have Z:isT (Cx.mk j h true) q.pos 1 zaF=false:=zfb M (by decide)
 have hn:zF (Cx.mk j h true) q.pos false=false:=zhf M
 have HV:Hid (pE (Cx.mk j h true) .part d q= .error (zu (Cx.mk j h true) q.pos)):=by show pE (Cx.mk j h true) .part d q=_;rw[zbM,hk,Y,Z,zo,hn];rfl
 have ac: ¬q.pos<j.length:=M
 unfold pv
 go_enter Tryz.func182,Tryz.ntmps182
 go_wp2_with fail
 refine (zl (Cx.mk j h true) I A z S q (-1) d 4 zr _ (zt (zt J _) _) H (by decide)).mono ?_
 rintro e w1 ⟨rfl,V⟩
 rw[Y]
 have F:=HM.out.fm V
 have N:=F.x0.boxC
 go_wp2_with fail
 refine (zl (Cx.mk j h true) I A z S q (-1) d 1 zaF _ F.m.tok H (by decide)).mono ?_
 rintro e w2 ⟨rfl,O⟩
 rw[Z]
 replace F:=F.below O
 clear N
 have N:=F.x0.boxC
 go_wp2_with fail
 refine (zbm (Cx.mk j h true) I A z (.ok q) S q (-1) d false _ (zab q) F.m).mono ?_
 rintro e w3 ⟨S3,q3,z3,n3,rfl,U,m3,s3⟩
 replace F:=F.stp m3 s3
 clear N
 obtain rfl:=zg7 U.out hn
 have dz:decide ((0:Int)≤(zu (Cx.mk j h true) q.pos:Int))=true:=decide_eq_true (by omega)
 have aa:w.heap.size+1<w3.heap.size:=F.x1.lt
 unfold pv
 go_upto_region 17 with fail
 refine (F.new2 _).cut ?_
 intro w4 F
 have bb:=F.x1.boxC
 have cb:=F.x2.boxC
 go_wp2
 refine (F.x1.put ..).ret rfl rfl ?_
 rw[HV.out]
 exact (F.put1 ..).done rfl (show Is (.error (zu (Cx.mk j h true) q.pos)) q3 _ from rfl)
theorem zrd (j:List Tk) (h:Nat) (J A z:Nat) (S:Sv) (q:PS) (d:Nat) (w:World) (L:Mem (Cx.mk j h true) J A z S q w) (X:((zf (Cx.mk j h true) q.pos).kind==2)=false) (ho:isT (Cx.mk j h true) q.pos 4 zr=false) (Z:q.pos<(Cx.mk j h true).ts.length) (hu:isT (Cx.mk j h true) q.pos 1 zaF=false) (hn:zF (Cx.mk j h true) q.pos false=false):
  Calls Tryz.prog 182 #[pv (Cx.mk j h true) J A S q (-1) d] w (Out (Cx.mk j h true) J A z (pE (Cx.mk j h true) .part d q) d S w):=by
 have HM:=zc L
 have H:=L.tok
 have I:(Cx.mk j h true).ts.length≤4000:=L.few
 have Y:=(zau L.tok).1
 clear L
 have HV:Hid (pE (Cx.mk j h true) .part d q= .error (zu (Cx.mk j h true) q.pos)):=by show pE (Cx.mk j h true) .part d q=_;rw[zbM,X,ho,hu,zo,hn];rfl
 have ac:q.pos<j.length:=Z
 obtain⟨V,_,_,_⟩:=H.cells Z (d:=⟨0,sNone,0,(Cx.mk j h true).fin⟩)
 change _=some (Value.int .i64 (zf (Cx.mk j h true) q.pos).kind) at V
 generalize (zf (Cx.mk j h true) q.pos).kind=kd at V X
 unfold pv
 go_enter Tryz.func182,Tryz.ntmps182
 go_wp2_with fail
 refine (zl (Cx.mk j h true) J A z S q (-1) d 4 zr _ (zt (zt H _) _) I (by decide)).mono ?_
 rintro e w1 ⟨rfl,U⟩
 rw[ho]
 have F:=HM.out.fm U
 have M:=F.x0.boxC
 go_wp2_with fail
 refine (zl (Cx.mk j h true) J A z S q (-1) d 1 zaF _ F.m.tok I (by decide)).mono ?_
 rintro e w2 ⟨rfl,N⟩
 rw[hu]
 replace F:=F.below N
 clear M
 have M:=F.x0.boxC
 go_wp2_with fail
 refine (zbm (Cx.mk j h true) J A z (.ok q) S q (-1) d false _ (zab q) F.m).mono ?_
 rintro e w3 ⟨S3,q3,z3,n3,rfl,O,m3,s3⟩
 replace F:=F.stp m3 s3
 clear M
 obtain rfl:=zg7 O.out hn
 have dz:decide ((0:Int)≤(zu (Cx.mk j h true) q.pos:Int))=true:=decide_eq_true (by omega)
 have aa:w.heap.size+1<w3.heap.size:=F.x1.lt
 unfold pv
 go_upto_region 17 with fail
 refine (F.new2 _).cut ?_
 intro w4 F
 have bb:=F.x1.boxC
 obtain⟨V,c1,c2,c3,c4,c5,c6,c7,c8,c9,ae,ad,cf⟩:=F.x2.box
 go_wp2
 refine (F.x1.put ..).ret rfl rfl ?_
 rw[HV.out]
 exact (F.put1 ..).done rfl (show Is (.error (zu (Cx.mk j h true) q.pos)) q3 _ from rfl)
theorem zkr (H:List Tk) (h:Nat) (J z j:Nat) (S:Sv) (q:PS) (d:Nat) (w:World) (M:Mem (Cx.mk H h true) J z j S q w) (A:Nat):
  Calls Tryz.prog 182 #[pv (Cx.mk H h true) J z S q (A:Int) d] w (Out (Cx.mk H h true) J z j (.error A) d S w):=by
 have HM:=zc M
 have L:=M.tok
 have I:(Cx.mk H h true).ts.length≤4000:=M.few
 have X:=(zau M.tok).1
 clear M
 have hz: ¬(A:Int)<0:=by omega
 have Y: ∀k s,(decide ((A:Int)<0)&&isT (Cx.mk H h true) q.pos k s)=false:=fun k s=>by rw[decide_eq_false hz];rfl
 unfold pv
 go_enter Tryz.func182,Tryz.ntmps182
 go_wp2_with fail
 refine (zl (Cx.mk H h true) J z j S q (A:Int) d 4 zr _ (zt (zt L _) _) I (by decide)).mono ?_
 rintro e w1 ⟨rfl,V⟩
 rw[Y]
 have F:=HM.out.fm V
 have N:=F.x0.boxC
 go_wp2_with fail
 refine (zl (Cx.mk H h true) J z j S q (A:Int) d 1 zaF _ F.m.tok I (by decide)).mono ?_
 rintro e w2 ⟨rfl,O⟩
 rw[Y]
 replace F:=F.below O
 clear N
 have N:=F.x0.boxC
 go_wp2_with fail
 refine (zbm (Cx.mk H h true) J z j (.error A) S q (A:Int) d false _ (show Is (.error A) q _ from rfl) F.m).mono ?_
 rintro e w3 ⟨S3,q3,z3,n3,rfl,U,m3,s3⟩
 replace F:=F.stp m3 s3
 clear N
 obtain rfl:z3=(A:Int):=U.out
 have dz:decide ((0:Int)≤(A:Int))=true:=decide_eq_true (by omega)
 have Z:w.heap.size+1<w3.heap.size:=F.x1.lt
 unfold pv
 go_upto_region 17 with fail
 refine (F.new2 _).cut ?_
 intro w4 F
 have bb:=F.x1.boxC
 have cb:=F.x2.boxC
 go_wp2
 refine (F.x1.put ..).ret rfl rfl ?_
 exact (F.put1 ..).done rfl (show Is (.error A) q3 _ from rfl)
theorem zre (j:List Tk) (h:Nat) (J A z:Nat) (S:Sv) (q:PS) (d:Nat) (w:World) (L:Mem (Cx.mk j h true) J A z S q w) (X:((zf (Cx.mk j h true) q.pos).kind==2)=false) (Z:isT (Cx.mk j h true) q.pos 4 zr=false) (N:q.pos<(Cx.mk j h true).ts.length) (hu:isT (Cx.mk j h true) q.pos 1 zaF=true):
  Calls Tryz.prog 182 #[pv (Cx.mk j h true) J A S q (-1) d] w (Out (Cx.mk j h true) J A z (pE (Cx.mk j h true) .part d q) d S w):=by
 have HM:=zc L
 have H:=L.tok
 have I:(Cx.mk j h true).ts.length≤4000:=L.few
 have Y:=(zau L.tok).1
 clear L
 have HV:Hid (pE (Cx.mk j h true) .part d q=zbE (Cx.mk j h true) zaF (adv q)):=by show pE (Cx.mk j h true) .part d q=_;rw[zbM,X,Z,hu];rfl
 have aa:q.pos<j.length:=N
 obtain⟨c0,_,_,_⟩:=H.cells N (d:=⟨0,sNone,0,(Cx.mk j h true).fin⟩)
 change _=some (Value.int .i64 (zf (Cx.mk j h true) q.pos).kind) at c0
 generalize (zf (Cx.mk j h true) q.pos).kind=kd at c0 X
 unfold pv
 go_enter Tryz.func182,Tryz.ntmps182
 go_wp2_with fail
 refine (zl (Cx.mk j h true) J A z S q (-1) d 4 zr _ (zt (zt H _) _) I (by decide)).mono ?_
 rintro e w1 ⟨rfl,V⟩
 rw[Z]
 have F:=HM.out.fm V
 have M:=F.x0.boxC
 go_wp2_with fail
 refine (zl (Cx.mk j h true) J A z S q (-1) d 1 zaF _ F.m.tok I (by decide)).mono ?_
 rintro e w2 ⟨rfl,O⟩
 rw[hu]
 replace F:=F.below O
 clear M
 have M:=F.x0.boxC
 go_wp2_with fail
 refine (zhB (Cx.mk j h true) J A z S (adv q) d zaF _ ((F.adv N).set0_1 _).m (by simp[adv])).mono ?_
 rintro e w3 ⟨S3,q3,z3,rfl,U,m3,s3⟩
 replace F:=(F.set0_1 _).stp m3 s3
 clear M
 have bb:=F.x1.boxC
 unfold pv
 go_wp2
 refine (F.x1.put ..).ret rfl rfl ?_
 rw[HV.out]
 exact (F.put1 ..).done rfl U.out
theorem zrf (j:List Tk) (h:Nat) (J A z:Nat) (S:Sv) (q:PS) (d:Nat) (w:World) (L:Mem (Cx.mk j h true) J A z S q w) (hk:((zf (Cx.mk j h true) q.pos).kind==2)=false) (ho:isT (Cx.mk j h true) q.pos 4 zr=false) (hp:q.pos<(Cx.mk j h true).ts.length) (hu:isT (Cx.mk j h true) q.pos 1 zaF=false) (hn:zF (Cx.mk j h true) q.pos false=true) (hd:isT (Cx.mk j h true) (q.pos+1) 4 cPoint=false):
  Calls Tryz.prog 182 #[pv (Cx.mk j h true) J A S q (-1) d] w (Out (Cx.mk j h true) J A z (pE (Cx.mk j h true) .part d q) d S w):=by
 have HM:=zc L
 have I:=L.tok
 have H:(Cx.mk j h true).ts.length≤4000:=L.few
 have ah:=(zau L.tok).1
 clear L
 have HV:Hid (pE (Cx.mk j h true) .part d q=zbE (Cx.mk j h true) (zf (Cx.mk j h true) q.pos).text (adv q)):=by show pE (Cx.mk j h true) .part d q=_;rw[zbM,hk,ho,hu,zo,hn];show (if isT (Cx.mk j h true) (adv q).pos 4 cPoint then _ else _)=_;rw[zA,hd];rfl
 have aj:q.pos<j.length:=hp
 obtain⟨V,_,_,_⟩:=I.cells hp (d:=⟨0,sNone,0,(Cx.mk j h true).fin⟩)
 change _=some (Value.int .i64 (zf (Cx.mk j h true) q.pos).kind) at V
 generalize (zf (Cx.mk j h true) q.pos).kind=kd at V hk
 unfold pv
 go_enter Tryz.func182,Tryz.ntmps182
 go_wp2_with fail
 refine (zl (Cx.mk j h true) J A z S q (-1) d 4 zr _ (zt (zt I _) _) H (by decide)).mono ?_
 rintro e w1 ⟨rfl,ag⟩
 rw[ho]
 have F:=HM.out.fm ag
 have ab:=F.x0.boxC
 go_wp2_with fail
 refine (zl (Cx.mk j h true) J A z S q (-1) d 1 zaF _ F.m.tok H (by decide)).mono ?_
 rintro e w2 ⟨rfl,ad⟩
 rw[hu]
 replace F:=F.below ad
 clear ab
 have ab:=F.x0.boxC
 go_wp2_with fail
 refine (zbm (Cx.mk j h true) J A z (.ok q) S q (-1) d false _ (zab q) F.m).mono ?_
 rintro e w3 ⟨S3,U,z3,n3,rfl,M,m3,s3⟩
 replace F:=F.stp m3 s3
 clear ab
 obtain⟨X,rfl,N⟩:=zg6 M.out hn
 have HQ:=zc X
 have aa:=zc N
 have O:U.pos=q.pos+1:=by rw[X];rfl
 have af:isT (Cx.mk j h true) U.pos 4 cPoint=false:=by rw[O];exact hd
 clear X N M
 have ai:w.heap.size+1<w3.heap.size:=F.x1.lt
 unfold pv
 clear O
 go_wp2_with fail
 refine (zl (Cx.mk j h true) J A z S3 U (-1) d 4 cPoint _ (F.alloc _).m.tok H (by decide)).mono ?_
 rintro e w4 ⟨rfl,ae⟩
 rw[af]
 replace F:=(F.new2 _).below ae
 obtain⟨V,c1,c2,c3,c4,c5,c6,c7,c8,c9,ac,Z,cf⟩:=F.x2.box
 go_wp2_with fail
 refine (zhB (Cx.mk j h true) J A z S3 U d n3 _ F.m (by rw[HQ.out];simp[adv])).mono ?_
 rintro e w5 ⟨S5,q5,z5,rfl,Y,m5,s5⟩
 replace F:=F.stp m5 s5
 clear V c1 c2 c3 c4 c5 c6 c7 c8 c9 ac Z cf
 have bb:=F.x1.boxC
 unfold pv
 go_wp2
 refine (F.x1.put ..).ret rfl rfl ?_
 rw[HV.out,←HQ.out,←aa.out]
 exact (F.put1 ..).done rfl Y.out
theorem zrg (z:List Tk) (h:Nat) (I A j:Nat) (S:Sv) (q:PS) (d:Nat) (w:World) (Z:Mem (Cx.mk z h true) I A j S q w) (hk:((zf (Cx.mk z h true) q.pos).kind==2)=false) (ho:isT (Cx.mk z h true) q.pos 4 zr=false) (hp:q.pos<(Cx.mk z h true).ts.length) (hu:isT (Cx.mk z h true) q.pos 1 zaF=false) (hn:zF (Cx.mk z h true) q.pos false=true) (hd:isT (Cx.mk z h true) (q.pos+1) 4 cPoint=true):
  Calls Tryz.prog 182 #[pv (Cx.mk z h true) I A S q (-1) d] w (Out (Cx.mk z h true) I A j (pE (Cx.mk z h true) .part d q) d S w):=by
 have HM:=zc Z
 have L:=Z.tok
 have H:(Cx.mk z h true).ts.length≤4000:=Z.few
 have ao:=(zau Z.tok).1
 clear Z
 have HV:Hid (pE (Cx.mk z h true) .part d q=bd (bd (.ok (adv (adv q))) (zo (Cx.mk z h true) true)) fun y=>zbS (Cx.mk z h true) (zf (Cx.mk z h true) q.pos).text y.2 y.1):=by show pE (Cx.mk z h true) .part d q=_;rw[zbM,hk,ho,hu,zo,hn];show (if isT (Cx.mk z h true) (adv q).pos 4 cPoint then _ else _)=_;rw[zA,hd];rfl
 have aq:q.pos<z.length:=hp
 obtain⟨c0,_,_,_⟩:=L.cells hp (d:=⟨0,sNone,0,(Cx.mk z h true).fin⟩)
 change _=some (Value.int .i64 (zf (Cx.mk z h true) q.pos).kind) at c0
 generalize (zf (Cx.mk z h true) q.pos).kind=kd at c0 hk
 unfold pv
 go_enter Tryz.func182,Tryz.ntmps182
 go_wp2_with fail
 refine (zl (Cx.mk z h true) I A j S q (-1) d 4 zr _ (zt (zt L _) _) H (by decide)).mono ?_
 rintro e w1 ⟨rfl,al⟩
 rw[ho]
 have F:=HM.out.fm al
 have ab:=F.x0.boxC
 go_wp2_with fail
 refine (zl (Cx.mk z h true) I A j S q (-1) d 1 zaF _ F.m.tok H (by decide)).mono ?_
 rintro e w2 ⟨rfl,ah⟩
 rw[hu]
 replace F:=F.below ah
 clear ab
 have ab:=F.x0.boxC
 go_wp2_with fail
 refine (zbm (Cx.mk z h true) I A j (.ok q) S q (-1) d false _ (zab q) F.m).mono ?_
 rintro e w3 ⟨S3,M,z3,n3,rfl,ad,m3,s3⟩
 replace F:=F.stp m3 s3
 clear ab
 obtain⟨hq,rfl,V⟩:=zg6 ad.out hn
 have HQ:=zc hq
 have Y:=zc V
 have ae:M.pos=q.pos+1:=by rw[hq];rfl
 have U:isT (Cx.mk z h true) M.pos 4 cPoint=true:=by rw[ae];exact hd
 clear hq V ad
 have ap:w.heap.size+1<w3.heap.size:=F.x1.lt
 unfold pv
 clear ae
 go_wp2_with fail
 refine (zl (Cx.mk z h true) I A j S3 M (-1) d 4 cPoint _ (F.alloc _).m.tok H (by decide)).mono ?_
 rintro e w4 ⟨rfl,ak⟩
 rw[U]
 replace F:=(F.new2 _).below ak
 obtain⟨c0,c1,c2,c3,c4,c5,c6,c7,c8,c9,ag,aj,cf⟩:=F.x2.box
 have aa:M.pos<(Cx.mk z h true).ts.length:=za9 U (by decide)
 have am:M.pos<z.length:=aa
 go_wp2_with fail
 refine (zbm (Cx.mk z h true) I A j (.ok (adv M)) S3 (adv M) (-1) d true _ (zab _) ((F.adv aa).set2_1 _).m).mono ?_
 rintro e w5 ⟨S5,q5,X,n5,rfl,J,m5,s5⟩
 replace F:=(F.set2_1 _).stp m5 s5
 clear c0 c1 c2 c3 c4 c5 c6 c7 c8 c9 ag aj cf
 have an:w.heap.size+1<w5.heap.size:=F.x1.lt
 have af:w3.heap.size<w5.heap.size:=F.x2.lt
 cases hc:(decide (X<0)&&isT (Cx.mk z h true) q5.pos 4 zr) with
 |true=>
  unfold pv
  go_wp2_with fail
  refine (zl (Cx.mk z h true) I A j S5 q5 X d 4 zr _ (F.alloc _).m.tok H (by decide)).mono ?_
  rintro e w6 ⟨rfl,O⟩
  rw[hc]
  replace F:=(F.new3 _).below O
  have db:=F.x3.boxC
  go_wp2_with fail
  refine (zai (Cx.mk z h true) I A j _ S5 q5 X d zr _ J.out.fst F.m).mono ?_
  rintro e w7 ⟨S7,q7,z7,rfl,N,m7,s7⟩
  replace F:=F.stp m7 s7
  clear db
  go_wp2_with fail
  refine (zai (Cx.mk z h true) I A j _ S7 q7 z7 d za8 _ N.out F.m).mono ?_
  rintro e w8 ⟨S8,q8,z8,rfl,ac,m8,s8⟩
  replace F:=F.stp m8 s8
  have db:=F.x3.boxC
  unfold pv
  go_wp2_with fail
  refine (zdc (Cx.mk z h true) I A j _ S8 q8 z8 d ⟨5,0,n3,n5,0,0⟩ _ ac.out (F.put3 ..).m (zbw ac.out)).mono ?_
  rintro e w9 ⟨S9,q9,z9,rfl,ai,m9,s9⟩
  replace F:=(F.put3 ..).stp m9 s9
  clear db
  have bb:=F.x1.boxC
  unfold pv
  go_wp2
  refine (F.x1.put ..).ret rfl rfl ?_
  rw[HV.out,←HQ.out,←Y.out,←zko J.out hc]
  exact (F.put1 ..).done rfl ai.out
 |false=>
  unfold pv
  go_wp2_with fail
  refine (zl (Cx.mk z h true) I A j S5 q5 X d 4 zr _ (F.alloc _).m.tok H (by decide)).mono ?_
  rintro e w6 ⟨rfl,O⟩
  rw[hc]
  replace F:=(F.new3 _).below O
  have db:=F.x3.boxC
  go_wp2_with fail
  refine (zdc (Cx.mk z h true) I A j _ S5 q5 X d ⟨4,0,n3,n5,0,0⟩ _ J.out.fst F.m (zkq J.out)).mono ?_
  rintro e w7 ⟨S7,q7,z7,rfl,N,m7,s7⟩
  replace F:=F.stp m7 s7
  clear db
  have bb:=F.x1.boxC
  unfold pv
  go_wp2
  refine (F.x1.put ..).ret rfl rfl ?_
  rw[HV.out,←HQ.out,←Y.out,←zkp J.out hc]
  exact (F.put1 ..).done rfl N.out
theorem zrh (j:List Tk) (h:Nat) (I A z:Nat) (S:Sv) (q:PS) (d:Nat) (w:World) (J:Mem (Cx.mk j h false) I A z S q w) (M: ¬q.pos<(Cx.mk j h false).ts.length):
  Calls Tryz.prog 182 #[pv (Cx.mk j h false) I A S q (-1) d] w (Out (Cx.mk j h false) I A z (pE (Cx.mk j h false) .part d q) d S w):=by
 have HM:=zc J
 have H:=J.tok
 have L:(Cx.mk j h false).ts.length≤4000:=J.few
 have U:=(zau J.tok).1
 clear J
 have hk:((zf (Cx.mk j h false) q.pos).kind==2)=false:=by rw[zdI (by omega)];rfl
 have V:isT (Cx.mk j h false) q.pos 4 zr=false:=zfb M (by decide)
 have hu:isT (Cx.mk j h false) q.pos 1 zaF=false:=zfb M (by decide)
 have X:zF (Cx.mk j h false) q.pos false=false:=zhf M
 have HV:Hid (pE (Cx.mk j h false) .part d q= .error (zu (Cx.mk j h false) q.pos)):=by show pE (Cx.mk j h false) .part d q=_;rw[zbM,hk,V,zo,X];rfl
 have aa: ¬q.pos<j.length:=M
 unfold pv
 go_enter Tryz.func182,Tryz.ntmps182
 go_wp2_with fail
 refine (zl (Cx.mk j h false) I A z S q (-1) d 4 zr _ (zt (zt H _) _) L (by decide)).mono ?_
 rintro e w1 ⟨rfl,O⟩
 rw[V]
 have F:=HM.out.fm O
 have ab:=F.x0.boxC
 go_wp2_with fail
 refine (zbm (Cx.mk j h false) I A z (.ok q) S q (-1) d false _ (zab q) F.m).mono ?_
 rintro e w2 ⟨S2,q2,z2,n2,rfl,N,Z,s2⟩
 replace F:=F.stp Z s2
 clear ab
 obtain rfl:=zg7 N.out X
 have dz:decide ((0:Int)≤(zu (Cx.mk j h false) q.pos:Int))=true:=decide_eq_true (by omega)
 have Y:w.heap.size+1<w2.heap.size:=F.x1.lt
 unfold pv
 go_upto_region 17 with fail
 refine (F.new2 _).cut ?_
 intro w3 F
 have bb:=F.x1.boxC
 have cb:=F.x2.boxC
 go_wp2
 refine (F.x1.put ..).ret rfl rfl ?_
 rw[HV.out]
 exact (F.put1 ..).done rfl (show Is (.error (zu (Cx.mk j h false) q.pos)) q2 _ from rfl)
theorem zri (j:List Tk) (h:Nat) (I A z:Nat) (S:Sv) (q:PS) (d:Nat) (w:World) (J:Mem (Cx.mk j h false) I A z S q w) (U:((zf (Cx.mk j h false) q.pos).kind==2)=false) (Y:isT (Cx.mk j h false) q.pos 4 zr=false) (X:q.pos<(Cx.mk j h false).ts.length) (Z:zF (Cx.mk j h false) q.pos false=false):
  Calls Tryz.prog 182 #[pv (Cx.mk j h false) I A S q (-1) d] w (Out (Cx.mk j h false) I A z (pE (Cx.mk j h false) .part d q) d S w):=by
 have HM:=zc J
 have H:=J.tok
 have L:(Cx.mk j h false).ts.length≤4000:=J.few
 have V:=(zau J.tok).1
 clear J
 have HV:Hid (pE (Cx.mk j h false) .part d q= .error (zu (Cx.mk j h false) q.pos)):=by show pE (Cx.mk j h false) .part d q=_;rw[zbM,U,Y,zo,Z];rfl
 have ac:q.pos<j.length:=X
 obtain⟨O,_,_,_⟩:=H.cells X (d:=⟨0,sNone,0,(Cx.mk j h false).fin⟩)
 change _=some (Value.int .i64 (zf (Cx.mk j h false) q.pos).kind) at O
 generalize (zf (Cx.mk j h false) q.pos).kind=kd at O U
 unfold pv
 go_enter Tryz.func182,Tryz.ntmps182
 go_wp2_with fail
 refine (zl (Cx.mk j h false) I A z S q (-1) d 4 zr _ (zt (zt H _) _) L (by decide)).mono ?_
 rintro e w1 ⟨rfl,N⟩
 rw[Y]
 have F:=HM.out.fm N
 have ab:=F.x0.boxC
 go_wp2_with fail
 refine (zbm (Cx.mk j h false) I A z (.ok q) S q (-1) d false _ (zab q) F.m).mono ?_
 rintro e w2 ⟨S2,q2,z2,n2,rfl,M,m2,s2⟩
 replace F:=F.stp m2 s2
 clear ab
 obtain rfl:=zg7 M.out Z
 have dz:decide ((0:Int)≤(zu (Cx.mk j h false) q.pos:Int))=true:=decide_eq_true (by omega)
 have aa:w.heap.size+1<w2.heap.size:=F.x1.lt
 unfold pv
 go_upto_region 17 with fail
 refine (F.new2 _).cut ?_
 intro w3 F
 have bb:=F.x1.boxC
 obtain⟨O,c1,c2,c3,c4,c5,c6,c7,c8,c9,ae,ad,cf⟩:=F.x2.box
 go_wp2
 refine (F.x1.put ..).ret rfl rfl ?_
 rw[HV.out]
 exact (F.put1 ..).done rfl (show Is (.error (zu (Cx.mk j h false) q.pos)) q2 _ from rfl)
theorem zks (H:List Tk) (h:Nat) (J A j:Nat) (S:Sv) (q:PS) (d:Nat) (w:World) (L:Mem (Cx.mk H h false) J A j S q w) (z:Nat):
  Calls Tryz.prog 182 #[pv (Cx.mk H h false) J A S q (z:Int) d] w (Out (Cx.mk H h false) J A j (.error z) d S w):=by
 have Y:=zc L
 have I:=L.tok
 have M:(Cx.mk H h false).ts.length≤4000:=L.few
 have U:=(zau L.tok).1
 clear L
 have hz: ¬(z:Int)<0:=by omega
 have hs: ∀k s,(decide ((z:Int)<0)&&isT (Cx.mk H h false) q.pos k s)=false:=fun k s=>by rw[decide_eq_false hz];rfl
 unfold pv
 go_enter Tryz.func182,Tryz.ntmps182
 go_wp2_with fail
 refine (zl (Cx.mk H h false) J A j S q (z:Int) d 4 zr _ (zt (zt I _) _) M (by decide)).mono ?_
 rintro e w1 ⟨rfl,O⟩
 rw[hs]
 have F:=Y.out.fm O
 have ab:=F.x0.boxC
 go_wp2_with fail
 refine (zbm (Cx.mk H h false) J A j (.error z) S q (z:Int) d false _ (show Is (.error z) q _ from rfl) F.m).mono ?_
 rintro e w2 ⟨S2,q2,Z,n2,rfl,N,X,s2⟩
 replace F:=F.stp X s2
 clear ab
 obtain rfl:Z=(z:Int):=N.out
 have dz:decide ((0:Int)≤(z:Int))=true:=decide_eq_true (by omega)
 have V:w.heap.size+1<w2.heap.size:=F.x1.lt
 unfold pv
 go_upto_region 17 with fail
 refine (F.new2 _).cut ?_
 intro w3 F
 have bb:=F.x1.boxC
 have cb:=F.x2.boxC
 go_wp2
 refine (F.x1.put ..).ret rfl rfl ?_
 exact (F.put1 ..).done rfl (show Is (.error z) q2 _ from rfl)
theorem zrj (j:List Tk) (h:Nat) (J A z:Nat) (S:Sv) (q:PS) (d:Nat) (w:World) (M:Mem (Cx.mk j h false) J A z S q w) (hk:((zf (Cx.mk j h false) q.pos).kind==2)=false) (ho:isT (Cx.mk j h false) q.pos 4 zr=false) (hp:q.pos<(Cx.mk j h false).ts.length) (hn:zF (Cx.mk j h false) q.pos false=true) (hd:isT (Cx.mk j h false) (q.pos+1) 4 cPoint=false):
  Calls Tryz.prog 182 #[pv (Cx.mk j h false) J A S q (-1) d] w (Out (Cx.mk j h false) J A z (pE (Cx.mk j h false) .part d q) d S w):=by
 have HM:=zc M
 have H:=M.tok
 have I:(Cx.mk j h false).ts.length≤4000:=M.few
 have ag:=(zau M.tok).1
 clear M
 have HV:Hid (pE (Cx.mk j h false) .part d q=zbE (Cx.mk j h false) (zf (Cx.mk j h false) q.pos).text (adv q)):=by show pE (Cx.mk j h false) .part d q=_;rw[zbM,hk,ho,zo,hn];show (if isT (Cx.mk j h false) (adv q).pos 4 cPoint then _ else _)=_;rw[zA,hd];rfl
 have ai:q.pos<j.length:=hp
 obtain⟨U,_,_,_⟩:=H.cells hp (d:=⟨0,sNone,0,(Cx.mk j h false).fin⟩)
 change _=some (Value.int .i64 (zf (Cx.mk j h false) q.pos).kind) at U
 generalize (zf (Cx.mk j h false) q.pos).kind=kd at U hk
 unfold pv
 go_enter Tryz.func182,Tryz.ntmps182
 go_wp2_with fail
 refine (zl (Cx.mk j h false) J A z S q (-1) d 4 zr _ (zt (zt H _) _) I (by decide)).mono ?_
 rintro e w1 ⟨rfl,ae⟩
 rw[ho]
 have F:=HM.out.fm ae
 have ab:=F.x0.boxC
 go_wp2_with fail
 refine (zbm (Cx.mk j h false) J A z (.ok q) S q (-1) d false _ (zab q) F.m).mono ?_
 rintro e w2 ⟨S2,V,z2,n2,rfl,L,m2,s2⟩
 replace F:=F.stp m2 s2
 clear ab
 obtain⟨X,rfl,N⟩:=zg6 L.out hn
 have HQ:=zc X
 have aa:=zc N
 have O:V.pos=q.pos+1:=by rw[X];rfl
 have ad:isT (Cx.mk j h false) V.pos 4 cPoint=false:=by rw[O];exact hd
 clear X N L
 have ah:w.heap.size+1<w2.heap.size:=F.x1.lt
 unfold pv
 clear O
 go_wp2_with fail
 refine (zl (Cx.mk j h false) J A z S2 V (-1) d 4 cPoint _ (F.alloc _).m.tok I (by decide)).mono ?_
 rintro e w3 ⟨rfl,af⟩
 rw[ad]
 replace F:=(F.new2 _).below af
 obtain⟨U,c1,c2,c3,c4,c5,c6,c7,c8,c9,ac,Y,cf⟩:=F.x2.box
 go_wp2_with fail
 refine (zhB (Cx.mk j h false) J A z S2 V d n2 _ F.m (by rw[HQ.out];simp[adv])).mono ?_
 rintro e w4 ⟨S4,q4,z4,rfl,Z,m4,s4⟩
 replace F:=F.stp m4 s4
 clear U c1 c2 c3 c4 c5 c6 c7 c8 c9 ac Y cf
 have bb:=F.x1.boxC
 unfold pv
 go_wp2
 refine (F.x1.put ..).ret rfl rfl ?_
 rw[HV.out,←HQ.out,←aa.out]
 exact (F.put1 ..).done rfl Z.out
theorem zrk (z:List Tk) (h:Nat) (I A j:Nat) (S:Sv) (q:PS) (d:Nat) (w:World) (hm:Mem (Cx.mk z h false) I A j S q w) (hk:((zf (Cx.mk z h false) q.pos).kind==2)=false) (ho:isT (Cx.mk z h false) q.pos 4 zr=false) (hp:q.pos<(Cx.mk z h false).ts.length) (hn:zF (Cx.mk z h false) q.pos false=true) (hd:isT (Cx.mk z h false) (q.pos+1) 4 cPoint=true):
  Calls Tryz.prog 182 #[pv (Cx.mk z h false) I A S q (-1) d] w (Out (Cx.mk z h false) I A j (pE (Cx.mk z h false) .part d q) d S w):=by
 have HM:=zc hm
 have L:=hm.tok
 have H:(Cx.mk z h false).ts.length≤4000:=hm.few
 have am:=(zau hm.tok).1
 clear hm
 have HV:Hid (pE (Cx.mk z h false) .part d q=bd (bd (.ok (adv (adv q))) (zo (Cx.mk z h false) true)) fun y=>zbS (Cx.mk z h false) (zf (Cx.mk z h false) q.pos).text y.2 y.1):=by show pE (Cx.mk z h false) .part d q=_;rw[zbM,hk,ho,zo,hn];show (if isT (Cx.mk z h false) (adv q).pos 4 cPoint then _ else _)=_;rw[zA,hd];rfl
 have ao:q.pos<z.length:=hp
 obtain⟨c0,_,_,_⟩:=L.cells hp (d:=⟨0,sNone,0,(Cx.mk z h false).fin⟩)
 change _=some (Value.int .i64 (zf (Cx.mk z h false) q.pos).kind) at c0
 generalize (zf (Cx.mk z h false) q.pos).kind=kd at c0 hk
 unfold pv
 go_enter Tryz.func182,Tryz.ntmps182
 go_wp2_with fail
 refine (zl (Cx.mk z h false) I A j S q (-1) d 4 zr _ (zt (zt L _) _) H (by decide)).mono ?_
 rintro e w1 ⟨rfl,aj⟩
 rw[ho]
 have F:=HM.out.fm aj
 have ab:=F.x0.boxC
 go_wp2_with fail
 refine (zbm (Cx.mk z h false) I A j (.ok q) S q (-1) d false _ (zab q) F.m).mono ?_
 rintro e w2 ⟨S2,N,z2,n2,rfl,V,m2,s2⟩
 replace F:=F.stp m2 s2
 clear ab
 obtain⟨hq,rfl,Y⟩:=zg6 V.out hn
 have HQ:=zc hq
 have aa:=zc Y
 have ad:N.pos=q.pos+1:=by rw[hq];rfl
 have X:isT (Cx.mk z h false) N.pos 4 cPoint=true:=by rw[ad];exact hd
 clear hq Y V
 have an:w.heap.size+1<w2.heap.size:=F.x1.lt
 unfold pv
 clear ad
 go_wp2_with fail
 refine (zl (Cx.mk z h false) I A j S2 N (-1) d 4 cPoint _ (F.alloc _).m.tok H (by decide)).mono ?_
 rintro e w3 ⟨rfl,ag⟩
 rw[X]
 replace F:=(F.new2 _).below ag
 obtain⟨c0,c1,c2,c3,c4,c5,c6,c7,c8,c9,af,ah,cf⟩:=F.x2.box
 have ac:N.pos<(Cx.mk z h false).ts.length:=za9 X (by decide)
 have ak:N.pos<z.length:=ac
 go_wp2_with fail
 refine (zbm (Cx.mk z h false) I A j (.ok (adv N)) S2 (adv N) (-1) d true _ (zab _) ((F.adv ac).set2_1 _).m).mono ?_
 rintro e w4 ⟨S4,q4,U,n4,rfl,J,m4,s4⟩
 replace F:=(F.set2_1 _).stp m4 s4
 clear c0 c1 c2 c3 c4 c5 c6 c7 c8 c9 af ah cf
 have al:w.heap.size+1<w4.heap.size:=F.x1.lt
 have ae:w2.heap.size<w4.heap.size:=F.x2.lt
 cases hc:(decide (U<0)&&isT (Cx.mk z h false) q4.pos 4 zr) with
 |true=>
  unfold pv
  go_wp2_with fail
  refine (zl (Cx.mk z h false) I A j S4 q4 U d 4 zr _ (F.alloc _).m.tok H (by decide)).mono ?_
  rintro e w5 ⟨rfl,O⟩
  rw[hc]
  replace F:=(F.new3 _).below O
  have db:=F.x3.boxC
  go_wp2_with fail
  refine (zai (Cx.mk z h false) I A j _ S4 q4 U d zr _ J.out.fst F.m).mono ?_
  rintro e w6 ⟨S6,q6,z6,rfl,M,m6,s6⟩
  replace F:=F.stp m6 s6
  clear db
  go_wp2_with fail
  refine (zai (Cx.mk z h false) I A j _ S6 q6 z6 d za8 _ M.out F.m).mono ?_
  rintro e w7 ⟨S7,q7,z7,rfl,Z,m7,s7⟩
  replace F:=F.stp m7 s7
  have db:=F.x3.boxC
  unfold pv
  go_wp2_with fail
  refine (zdc (Cx.mk z h false) I A j _ S7 q7 z7 d ⟨5,0,n2,n4,0,0⟩ _ Z.out (F.put3 ..).m (zbw Z.out)).mono ?_
  rintro e w8 ⟨S8,q8,z8,rfl,ai,m8,s8⟩
  replace F:=(F.put3 ..).stp m8 s8
  clear db
  have bb:=F.x1.boxC
  unfold pv
  go_wp2
  refine (F.x1.put ..).ret rfl rfl ?_
  rw[HV.out,←HQ.out,←aa.out,←zko J.out hc]
  exact (F.put1 ..).done rfl ai.out
 |false=>
  unfold pv
  go_wp2_with fail
  refine (zl (Cx.mk z h false) I A j S4 q4 U d 4 zr _ (F.alloc _).m.tok H (by decide)).mono ?_
  rintro e w5 ⟨rfl,O⟩
  rw[hc]
  replace F:=(F.new3 _).below O
  have db:=F.x3.boxC
  go_wp2_with fail
  refine (zdc (Cx.mk z h false) I A j _ S4 q4 U d ⟨4,0,n2,n4,0,0⟩ _ J.out.fst F.m (zkq J.out)).mono ?_
  rintro e w6 ⟨S6,q6,z6,rfl,M,m6,s6⟩
  replace F:=F.stp m6 s6
  clear db
  have bb:=F.x1.boxC
  unfold pv
  go_wp2
  refine (F.x1.put ..).ret rfl rfl ?_
  rw[HV.out,←HQ.out,←aa.out,←zkp J.out hc]
  exact (F.put1 ..).done rfl M.out
def zhC (C:Cx) (gt cap base m:Nat):Prop:=∀(x:PR) (S:Sv) (q:PS) (z:Int) (d:Nat) (w:World),Is x q z→Mem C gt cap base S q w→(z<0→C.ts.length-q.pos<m)→d≤20→
 Calls Tryz.prog 182 #[pv C gt cap S q z d] w (Out C gt cap base (bd x (pE C .part d)) d S w)
def zkt (C:Cx) (gt cap base m:Nat):Prop:=∀(x:PR) (S:Sv) (q:PS) (z:Int) (d:Nat) (w:World),Is x q z→Mem C gt cap base S q w→(z<0→C.ts.length-q.pos<m)→d≤20→
 Calls Tryz.prog 150 #[pv C gt cap S q z d] w (Out C gt cap base (bd x (pE C .prod d)) d S w)
theorem SumOK.mono {C:Cx} {H A j m k:Nat} (h:SumOK C H A j m) (I:k≤m):SumOK C H A j k:=fun x S q z d w M J N L=>h x S q z d w M J (fun g=>Nat.lt_of_lt_of_le (N g) I) L
theorem zrl {C:Cx} {I A h m:Nat} (hS:SumOK C I A h m):zhC C I A h (m+1):=by
 intro x S q z d w hx J hl O
 by_cases Y:z<0
 ·obtain⟨rfl,rfl⟩:=zaI hx Y
  rw[zB]
  have aa:SumOK C I A h (C.ts.length-q.pos):=hS.mono (by have:=hl Y;omega)
  cases L:((zf C q.pos).kind==2) with
  |true=>exact zqZ C I A h S q d w J L
  |false=>
   cases N:isT C q.pos 4 zr with
   |true=>
    by_cases Z:20≤d
    ·exact zra C I A h S q d w J L N Z O
    ·exact zrb C I A h S q d w J L N (by omega) aa
   |false=>
    obtain⟨H,j,U⟩:=C
    cases U with
    |true=>
     by_cases M:q.pos<H.length
     ·cases X:isT (Cx.mk H j true) q.pos 1 zaF with
      |true=>exact zre H j I A h S q d w J L N M X
      |false=>
       cases V:zF (Cx.mk H j true) q.pos false with
       |false=>exact zrd H j I A h S q d w J L N M X V
       |true=>
        cases O:isT (Cx.mk H j true) (q.pos+1) 4 cPoint with
        |false=>exact zrf H j I A h S q d w J L N M X V O
        |true=>exact zrg H j I A h S q d w J L N M X V O
     ·exact zrc H j I A h S q d w J M
    |false=>
     by_cases M:q.pos<H.length
     ·cases V:zF (Cx.mk H j false) q.pos false with
      |false=>exact zri H j I A h S q d w J L N M V
      |true=>
       cases O:isT (Cx.mk H j false) (q.pos+1) 4 cPoint with
       |false=>exact zrj H j I A h S q d w J L N M V O
       |true=>exact zrk H j I A h S q d w J L N M V O
     ·exact zrh H j I A h S q d w J M
 ·obtain⟨e,rfl,rfl⟩:=zd0 hx Y
  rw[zer]
  obtain⟨H,j,U⟩:=C
  cases U with
  |true=>exact zkr H j I A h S q d w J e
  |false=>exact zks H j I A h S q d w J e
theorem zhD {C:Cx} {x:PR} {q:PS} {z:Int} (h:Is x q z) (F:PS→Ex):bd x (zQ C (F q))=bd x fun q'=>zQ C (F q') q':=by
 cases x with
 |ok a=>obtain⟨rfl,_⟩:=h;rfl
 |error e=>rfl
theorem zku {C:Cx} {y:PS→Ex} {x:PR} {q:PS} {n:Nat} (z: ∀a,x= .ok a→n≤a.pos) (h:(bd x fun q'=>zQ C (y q') q')= .ok q):n≤q.pos:=by
 obtain⟨a,j,w⟩:=zp h
 obtain⟨rfl,_⟩:=zb1 w
 exact z a j
theorem zrm {C:Cx} {d m:Nat} {x:PR} {q j:PS} {z h:Int} (J:Is x q z) (H:Is (bd x (pE C .part d)) j h) (A:z<0→C.ts.length-q.pos<m) (L:h<0):C.ts.length-j.pos<m:=by
 obtain⟨e,_⟩:=zaI H L
 obtain⟨a,w,I⟩:=zp e
 subst w
 obtain⟨rfl,rfl⟩:=J
 have:=zbf I
 have:=A (by decide)
 omega
theorem zrn {C:Cx} {d m:Nat} {x:PR} {q j:PS} {z h:Int} (J:Is x q z) (H:Is (bd x (pE C .prod d)) j h) (A:z<0→C.ts.length-q.pos<m) (L:h<0):C.ts.length-j.pos<m:=by
 obtain⟨e,_⟩:=zaI H L
 obtain⟨a,w,I⟩:=zp e
 subst w
 obtain⟨rfl,rfl⟩:=J
 have:=zbf I
 have:=A (by decide)
 omega
theorem zro {C:Cx} {d:Nat} {j q:PS} {z:Int} (h:Is (bd (.ok (adv j)) (pE C .part d)) q z) (w:z<0):1≤q.pos:=by
 obtain⟨e,_⟩:=zaI h w
 have:=zbf (show pE C .part d (adv j)= .ok q from e)
 rw[zA] at this
 omega
theorem zkv {C:Cx} {d:Nat} {j q:PS} {z:Int} (h:Is (bd (.ok (adv j)) (pE C .prod d)) q z) (w:z<0):1≤q.pos:=by
 obtain⟨e,_⟩:=zaI h w
 have:=zbf (show pE C .prod d (adv j)= .ok q from e)
 rw[zA] at this
 omega
theorem zrp {C:Cx} {d:Nat} {F:PS→Ex} {j q:PS} {z:Int} (h:Is (bd (bd (.ok (adv j)) (pE C .part d)) fun q'=>zQ C (F q') q') q z) (A:z<0):j.pos+1≤q.pos:=by
 obtain⟨e,_⟩:=zaI h A
 exact zku (fun a w=>by have:=zbf (show pE C .part d (adv j)= .ok a from w);rw[zA] at this;exact this) e
theorem zkw {C:Cx} {d:Nat} {F:PS→Ex} {j q:PS} {z:Int} (h:Is (bd (bd (.ok (adv j)) (pE C .prod d)) fun q'=>zQ C (F q') q') q z) (A:z<0):j.pos+1≤q.pos:=by
 obtain⟨e,_⟩:=zaI h A
 exact zku (fun a w=>by have:=zbf (show pE C .prod d (adv j)= .ok a from w);rw[zA] at this;exact this) e
theorem zrq {C:Cx} {d:Nat} {q:PS} (h:isT C q.pos 4 zz=true) (_:q.pos<C.ts.length):
  bd (.ok q) (pE C .prodT d)=bd (bd (bd (.ok (adv q)) (pE C .part d)) fun q'=>zQ C ⟨8,0,sNone,sNone,(q.ex.length:Int)-1,(q'.ex.length:Int)-1⟩ q') (pE C .prodT d):=by
 show pE C .prodT d q=_
 rw[zfD,if_pos h]
 rfl
theorem zkx {C:Cx} {d:Nat} {q:PS} {k:Int} (h:(isT C q.pos 4 zct||isT C q.pos 4 zbl)=true) (j:zdu C q.pos=k) (_:q.pos<C.ts.length):
  bd (.ok q) (pE C .sumT d)=bd (bd (bd (.ok (adv q)) (pE C .prod d)) fun q'=>zQ C ⟨k,0,sNone,sNone,(q.ex.length:Int)-1,(q'.ex.length:Int)-1⟩ q') (pE C .sumT d):=by
 show pE C .sumT d q=_
 rw[zeT,if_pos h,j]
 rfl
theorem zrr {C:Cx} {d:Nat} {x:PR} {q:PS} {z:Int} (j:Is x q z) (h:(decide (z<0)&&isT C q.pos 4 zz)=false):Is (bd x (pE C .prodT d)) q z:=by
 cases x with
 |ok a=>
  obtain⟨rfl,rfl⟩:=j
  rw[Bool.and_eq_false_iff] at h
  rw[zB,zfD,h.resolve_left (by decide)]
  exact⟨rfl,rfl⟩
 |error e=>exact j
theorem zrs {C:Cx} {d:Nat} {x:PR} {q:PS} {z:Int} (w:Is x q z) (j:(decide (z<0)&&isT C q.pos 4 zct)=false) (h:(decide (z<0)&&isT C q.pos 4 zbl)=false):Is (bd x (pE C .sumT d)) q z:=by
 cases x with
 |ok a=>
  obtain⟨rfl,rfl⟩:=w
  rw[Bool.and_eq_false_iff] at j h
  rw[zB,zeT,j.resolve_left (by decide),h.resolve_left (by decide)]
  exact⟨rfl,rfl⟩
 |error e=>exact w
theorem zrt {C:Cx} {i:Nat} (h:isT C i 4 zct=true):isT C i 4 zbl=false:=by
 simp only[isT,Bool.and_eq_true,beq_iff_eq] at h
 simp only[isT,h.2]
 rw[Bool.and_eq_false_iff]
 exact .inr (by simp)
theorem zky {C:Cx} {M I j m:Nat} (hP:zhC C M I j m):zkt C M I j m:=by
 intro x S q z d w hx hm hl N
 have HP:=zc hP
 have HM:=zc hm
 have HX:=zc hx
 have HL:=zc hl
 have U:=hm.few
 clear hP hm hx hl
 unfold pv
 go_enter Tryz.func150,Tryz.ntmps150
 go_wp2_with fail
 refine (HP.out x S q z d _ HX.out ((HM.out.alloc _).alloc _) HL.out N).mono ?_
 rintro e w1 ⟨S1,q1,z1,rfl,aa,m1,s1⟩
 have F:=HM.out.fm2 m1 s1
 have J:=F.x0.boxC
 unfold pv
 go_wp2
 go_loopg [] (C.ts.length+1) (fun k wr=>∃(x':PR) (H:Sv) (A:PS) (z':Int),Is x' A z'∧bd x' (pE C .prodT d)=bd x (pE C .prod d)∧(z'<0→C.ts.length-A.pos<k)∧(z'<0→C.ts.length-A.pos<m)∧Mem C M I j H A wr∧SB w.heap.size S w H wr∧Bx M H wr w.heap.size #[.slice (some ⟨M,0,none⟩) C.ts.length I,.int .i64 A.pos,.int .i64 C.fin,.bool C.scr,.slice H.rq.a A.rq.length H.rq.cap,.slice H.im.a A.im.length H.im.cap,.slice H.ep.a A.ep.length H.ep.cap,.slice H.st.a A.st.length H.st.cap,.slice H.ex.a A.ex.length H.ex.cap,.slice H.la.a A.la.length H.la.cap,.int .i64 z',.int .i64 d]∧Bx M H wr (w.heap.size+1) #[.slice none 0 0,.int .i64 0,.int .i64 0,.bool false,.slice none 0 0,.slice none 0 0,.slice none 0 0,.slice none 0 0,.slice none 0 0,.slice none 0 0,.int .i64 0,.int .i64 0])
 case atStart=>exact⟨_,S1,q1,z1,aa.out,by rw[zO];exact zag fun a _=>(zit C d a).symm,fun _=>by omega,fun Z=>zrm HX.out aa.out HL.out Z,(F.put0 ..).m,(F.put0 ..).t,(F.put0 ..).x0,(F.put0 ..).x1⟩
 case round=>
  obtain⟨x2,S2,L,z2,i2,e2,l2,b2,m2,t2,X0,X1⟩:=hrel
  have F:=Fm.of2 X0 X1 m2 t2 (by omega) (by omega) (by omega)
  have Y:=zc i2
  have ac:=zc e2
  have af:=zc l2
  have ae:=zc b2
  have ak:=m2.inv.ex
  clear X0 X1 i2 m2 t2 e2 l2 b2
  cases hc:(decide (z2<0)&&isT C L.pos 4 zz) with
  |true=>
   have J:=F.x0.boxC
   go_wp2_with fail
   refine (zl C M I j S2 L z2 d 4 zz _ F.m.tok U (by decide)).mono ?_
   rintro e w3 ⟨rfl,X⟩
   rw[hc]
   replace F:=F.below X
   clear J
   rw[Bool.and_eq_true,decide_eq_true_eq] at hc
   obtain⟨Z,hs⟩:=hc
   have hp:L.pos<C.ts.length:=za9 hs (by decide)
   obtain⟨rfl,rfl⟩:=zaI Y.out Z
   have ah:=af.out Z
   have al:=ae.out Z
   skip
   have J:=F.x0.boxC
   go_wp2_with fail
   refine (HP.out (.ok (adv L)) S2 (adv L) (-1) d _ (zab _) ((F.adv hp).set0_1 _).m (fun _=>by rw[zA];omega) N).mono ?_
   rintro e w4 ⟨S4,q4,z4,rfl,V,m4,s4⟩
   replace F:=(F.set0_1 _).stp m4 s4
   clear J
   have J:=F.x0.boxC
   unfold pv
   go_upto_region 6 with fail
   refine (F.put0 ..).cut ?_
   clear J
   intro w5 F
   have J:=F.x0.boxC
   have ag:=F.m.inv.ex
   go_wp2_with fail
   refine (zdc C M I j _ S4 q4 z4 d ⟨8,0,sNone,sNone,(L.ex.length:Int)-1,(q4.ex.length:Int)-1⟩ _ V.out F.m (fun h=>zro V.out h)).mono ?_
   rintro e w6 ⟨S6,q6,z6,rfl,ad,m6,s6⟩
   replace F:=F.stp m6 s6
   clear J
   have HI:Hid (Is (bd (bd (.ok (adv L)) (pE C .part d)) fun A=>zQ C ⟨8,0,sNone,sNone,(L.ex.length:Int)-1,(A.ex.length:Int)-1⟩ A) q6 z6):=by rw[←zhD V.out (fun A=>⟨8,0,sNone,sNone,(L.ex.length:Int)-1,(A.ex.length:Int)-1⟩)];exact ad.out
   have O:Hid (z6<0→L.pos+1≤q6.pos):=fun h=>zrp HI.out h
   have J:=F.x0.boxC
   unfold pv
   go_wp2
   go_roundg (gk-1)
   case rel=>exact⟨_,S6,q6,z6,HI.out,by rw[←ac.out];exact (zrq (d:=d) hs hp).symm,fun h=>by have:=O.out h;omega,fun h=>by have:=O.out h;omega,(F.put0 ..).m,(F.put0 ..).t,(F.put0 ..).x0,(F.put0 ..).x1⟩
   case measure=>omega
  |false=>
   have J:=F.x0.boxC
   go_wp2_with fail
   refine (zl C M I j S2 L z2 d 4 zz _ F.m.tok U (by decide)).mono ?_
   rintro e w3 ⟨rfl,X⟩
   rw[hc]
   replace F:=F.below X
   clear J
   have J:=F.x0.boxC
   obtain⟨b0,b1,b2,b3,b4,b5,b6,b7,b8,b9,aj,ai,bf⟩:=F.x1.box
   go_wp2
   refine (F.x1.put ..).ret rfl rfl ?_
   exact (F.put1 ..).done rfl (show Is (bd x (pE C .prod d)) L z2 from by rw[←ac.out];exact zrr Y.out hc)
theorem zkz {C:Cx} {U I j m:Nat} (hP:zkt C U I j m):SumOK C U I j m:=by
 intro x S q z d w hx hm hl V
 have HP:=zc hP
 have HM:=zc hm
 have HX:=zc hx
 have HL:=zc hl
 have L:=hm.few
 clear hP hm hx hl
 unfold pv
 go_enter Tryz.func111,Tryz.ntmps111
 go_wp2_with fail
 refine (HP.out x S q z d _ HX.out ((HM.out.alloc _).alloc _) HL.out V).mono ?_
 rintro e w1 ⟨S1,q1,z1,rfl,ag,m1,s1⟩
 have F:=HM.out.fm2 m1 s1
 have H:=F.x0.boxC
 unfold pv
 go_wp2
 go_loopg [] (C.ts.length+1) (fun k wr=>∃(x':PR) (O:Sv) (J:PS) (z':Int),Is x' J z'∧bd x' (pE C .sumT d)=bd x (pE C .sum d)∧(z'<0→C.ts.length-J.pos<k)∧(z'<0→C.ts.length-J.pos<m)∧Mem C U I j O J wr∧SB w.heap.size S w O wr∧Bx U O wr w.heap.size #[.slice (some ⟨U,0,none⟩) C.ts.length I,.int .i64 J.pos,.int .i64 C.fin,.bool C.scr,.slice O.rq.a J.rq.length O.rq.cap,.slice O.im.a J.im.length O.im.cap,.slice O.ep.a J.ep.length O.ep.cap,.slice O.st.a J.st.length O.st.cap,.slice O.ex.a J.ex.length O.ex.cap,.slice O.la.a J.la.length O.la.cap,.int .i64 z',.int .i64 d]∧Bx U O wr (w.heap.size+1) #[.slice none 0 0,.int .i64 0,.int .i64 0,.bool false,.slice none 0 0,.slice none 0 0,.slice none 0 0,.slice none 0 0,.slice none 0 0,.slice none 0 0,.int .i64 0,.int .i64 0])
 case atStart=>exact⟨_,S1,q1,z1,ag.out,by rw[zO];exact zag fun a _=>(zis C d a).symm,fun _=>by omega,fun Z=>zrn HX.out ag.out HL.out Z,(F.put0 ..).m,(F.put0 ..).t,(F.put0 ..).x0,(F.put0 ..).x1⟩
 case round=>
  obtain⟨x2,S2,A,Y,i2,e2,l2,b2,m2,t2,X0,X1⟩:=hrel
  have F:=Fm.of2 X0 X1 m2 t2 (by omega) (by omega) (by omega)
  have aa:=zc i2
  have af:=zc e2
  have ai:=zc l2
  have ah:=zc b2
  have au:=m2.inv.ex
  clear X0 X1 i2 m2 t2 e2 l2 b2
  cases hc:(decide (Y<0)&&isT C A.pos 4 zct) with
  |true=>
   have H:=F.x0.boxC
   go_wp2_with fail
   refine (zl C U I j S2 A Y d 4 zct _ F.m.tok L (by decide)).mono ?_
   rintro e w3 ⟨rfl,ad⟩
   rw[hc]
   replace F:=F.below ad
   clear H
   rw[Bool.and_eq_true,decide_eq_true_eq] at hc
   obtain⟨Z,hs⟩:=hc
   have aj:isT C A.pos 4 zbl=false:=zrt hs
   have M:(decide (Y<0)&&isT C A.pos 4 zbl)=false:=by rw[aj,Bool.and_false]
   have H:=F.x0.boxC
   go_wp2_with fail
   refine (zl C U I j S2 A Y d 4 zbl _ F.m.tok L (by decide)).mono ?_
   rintro e w4 ⟨rfl,X⟩
   rw[M]
   replace F:=F.below X
   clear H
   clear M
   have hp:A.pos<C.ts.length:=za9 hs (by decide)
   obtain⟨rfl,rfl⟩:=zaI aa.out Z
   have al:=ai.out Z
   have ap:=ah.out Z
   skip
   have H:=F.x0.boxC
   go_wp2_with fail
   refine (HP.out (.ok (adv A)) S2 (adv A) (-1) d _ (zab _) ((F.adv hp).set0_1 _).m (fun _=>by rw[zA];omega) V).mono ?_
   rintro e w5 ⟨S5,q5,z5,rfl,ae,m5,s5⟩
   replace F:=(F.set0_1 _).stp m5 s5
   clear H
   have H:=F.x0.boxC
   unfold pv
   go_upto_region 9 with fail
   refine (F.put0 ..).cut ?_
   clear H
   intro w6 F
   have H:=F.x0.boxC
   have ak:=F.m.inv.ex
   go_wp2_with fail
   refine (zdc C U I j _ S5 q5 z5 d ⟨6,0,sNone,sNone,(A.ex.length:Int)-1,(q5.ex.length:Int)-1⟩ _ ae.out F.m (fun h=>zkv ae.out h)).mono ?_
   rintro e w7 ⟨S7,q7,z7,rfl,am,m7,s7⟩
   replace F:=F.stp m7 s7
   clear H
   have HI:Hid (Is (bd (bd (.ok (adv A)) (pE C .prod d)) fun J=>zQ C ⟨6,0,sNone,sNone,(A.ex.length:Int)-1,(J.ex.length:Int)-1⟩ J) q7 z7):=by rw[←zhD ae.out (fun J=>⟨6,0,sNone,sNone,(A.ex.length:Int)-1,(J.ex.length:Int)-1⟩)];exact am.out
   have N:Hid (z7<0→A.pos+1≤q7.pos):=fun h=>zkw HI.out h
   have H:=F.x0.boxC
   unfold pv
   go_wp2
   go_roundg (gk-1)
   case rel=>exact⟨_,S7,q7,z7,HI.out,by rw[←af.out];exact (zkx (d:=d) (by rw[hs];rfl) (show zdu C A.pos=6 by rw[zdu,aj];rfl) hp).symm,fun h=>by have:=N.out h;omega,fun h=>by have:=N.out h;omega,(F.put0 ..).m,(F.put0 ..).t,(F.put0 ..).x0,(F.put0 ..).x1⟩
   case measure=>omega
  |false=>
   have H:=F.x0.boxC
   go_wp2_with fail
   refine (zl C U I j S2 A Y d 4 zct _ F.m.tok L (by decide)).mono ?_
   rintro e w3 ⟨rfl,ad⟩
   rw[hc]
   replace F:=F.below ad
   clear H
   cases M:(decide (Y<0)&&isT C A.pos 4 zbl) with
   |true=>
    have H:=F.x0.boxC
    go_wp2_with fail
    refine (zl C U I j S2 A Y d 4 zbl _ F.m.tok L (by decide)).mono ?_
    rintro e w4 ⟨rfl,X⟩
    rw[M]
    replace F:=F.below X
    clear H
    have H:=F.x0.boxC
    go_wp2_with fail
    refine (zl C U I j S2 A Y d 4 zbl _ F.m.tok L (by decide)).mono ?_
    rintro e w5 ⟨rfl,an⟩
    rw[M]
    replace F:=F.below an
    clear H
    rw[Bool.and_eq_true,decide_eq_true_eq] at M
    obtain⟨Z,hs⟩:=M
    have hp:A.pos<C.ts.length:=za9 hs (by decide)
    obtain⟨rfl,rfl⟩:=zaI aa.out Z
    have al:=ai.out Z
    have ap:=ah.out Z
    skip
    have H:=F.x0.boxC
    go_wp2_with fail
    refine (HP.out (.ok (adv A)) S2 (adv A) (-1) d _ (zab _) ((F.adv hp).set0_1 _).m (fun _=>by rw[zA];omega) V).mono ?_
    rintro e w6 ⟨S6,q6,z6,rfl,ac,m6,s6⟩
    replace F:=(F.set0_1 _).stp m6 s6
    clear H
    have H:=F.x0.boxC
    unfold pv
    go_upto_region 9 with fail
    refine (F.put0 ..).cut ?_
    clear H
    intro w7 F
    have H:=F.x0.boxC
    have ak:=F.m.inv.ex
    go_wp2_with fail
    refine (zdc C U I j _ S6 q6 z6 d ⟨7,0,sNone,sNone,(A.ex.length:Int)-1,(q6.ex.length:Int)-1⟩ _ ac.out F.m (fun h=>zkv ac.out h)).mono ?_
    rintro e w8 ⟨S8,q8,z8,rfl,ao,m8,s8⟩
    replace F:=F.stp m8 s8
    clear H
    have HI:Hid (Is (bd (bd (.ok (adv A)) (pE C .prod d)) fun J=>zQ C ⟨7,0,sNone,sNone,(A.ex.length:Int)-1,(J.ex.length:Int)-1⟩ J) q8 z8):=by rw[←zhD ac.out (fun J=>⟨7,0,sNone,sNone,(A.ex.length:Int)-1,(J.ex.length:Int)-1⟩)];exact ao.out
    have N:Hid (z8<0→A.pos+1≤q8.pos):=fun h=>zkw HI.out h
    have H:=F.x0.boxC
    unfold pv
    go_wp2
    go_roundg (gk-1)
    case rel=>exact⟨_,S8,q8,z8,HI.out,by rw[←af.out];exact (zkx (d:=d) (by rw[hs,Bool.or_true]) (show zdu C A.pos=7 by rw[zdu,hs];rfl) hp).symm,fun h=>by have:=N.out h;omega,fun h=>by have:=N.out h;omega,(F.put0 ..).m,(F.put0 ..).t,(F.put0 ..).x0,(F.put0 ..).x1⟩
    case measure=>omega
   |false=>
    have H:=F.x0.boxC
    go_wp2_with fail
    refine (zl C U I j S2 A Y d 4 zbl _ F.m.tok L (by decide)).mono ?_
    rintro e w4 ⟨rfl,X⟩
    rw[M]
    replace F:=F.below X
    clear H
    have H:=F.x0.boxC
    obtain⟨b0,b1,b2,b3,b4,b5,b6,b7,b8,b9,ar,aq,bf⟩:=F.x1.box
    go_wp2
    refine (F.x1.put ..).ret rfl rfl ?_
    exact (F.put1 ..).done rfl (show Is (bd x (pE C .sum d)) A Y from by rw[←af.out];exact zrs aa.out hc M)
theorem zru (C:Cx) (I j h:Nat):zhC C I j h 0:=by
 intro x S q z d w O J N U
 by_cases M:z<0
 ·have:=N M
  omega
 ·obtain⟨e,rfl,rfl⟩:=zd0 O M
  rw[zer]
  obtain⟨L,A,H⟩:=C
  cases H with
  |true=>exact zkr L A I j h S q d w J e
  |false=>exact zks L A I j h S q d w J e
theorem zrv (C:Cx) (w j h:Nat) (m:Nat):SumOK C w j h m:=by
 induction m with
 |zero=>exact zkz (zky (zru C w j h))
 |succ m z=>exact zkz (zky (zrl z))
theorem zdp (C:Cx) (A j h:Nat) (x:PR) (S:Sv) (q:PS) (z:Int) (w:World) (I:Is x q z) (H:Mem C A j h S q w):
  Calls Tryz.prog 111 #[pv C A j S q z 0] w (Out C A j h (bd x (pE C .sum 0)) 0 S w):=
 zrv C A j h (C.ts.length+1) x S q z 0 w I H (fun _=>by omega) (by omega)
theorem Is2.withN {y:PRN} {q q':PS} {z z':Int} {n:ByteArray} {F:PR→ByteArray→PR} (h:Is2 y q z n) (A: ∀e n,F (.error e) n= .error e) (j:Is (F (zaS y) n) q' z'):Is2 (withN y F) q' z' n:=by
 cases y with
 |ok a=>
  obtain⟨_,_,rfl⟩:=h
  have e:zaS (.ok a)= .ok a.1:=rfl
  rw[e] at j
  show Is2 (bd (F (.ok a.1) a.2) fun q=>.ok (q,a.2)) q' z' a.2
  cases w:F (.ok a.1) a.2 with
  |ok b=>rw[w] at j;exact⟨j.1,j.2,rfl⟩
  |error e=>rw[w] at j;exact j
 |error e=>
  have H:zaS (.error e)= .error e:=rfl
  rw[H,A] at j
  exact j
theorem zk0 {C:Cx} {A j h:Nat} {y:PRN} {d:Nat} {S S':Sv} {w w':World} {q':PS} {z':Int} {z:ByteArray} {v:Value} (I:v=pv C A j S' q' z' d) (L:Is2 y q' z' z) (H:Mem C A j h S' q' w') (J:SB w.heap.size S w S' w'):zdA C A j h y d S w (.returned (.tuple #[v,.string z])) w':=
 ⟨S',q',z',z,by rw[I],L,H,J.done⟩
theorem zhE (C:Cx) (z j h:Nat) (S:Sv) (q:PS) (w:World) (V:Mem C z j h S q w):
  Calls Tryz.prog 108 #[pv C z j S q (-1) 0] w (zdA C z j h (zcJ C q) 0 S w):=by
 have O:=zc V
 clear V
 unfold pv
 go_enter Tryz.func108,Tryz.ntmps108
 go_wp2_with fail
 refine (zaO C z j h (.ok q) S q (-1) 0 zE _ (zab q) ((O.out.alloc _).alloc _)).mono ?_
 rintro e w1 ⟨S1,q1,z1,rfl,I,m1,s1⟩
 have F:=O.out.fm2 m1 s1
 go_wp2_with fail
 refine (zbm C z j h _ S1 q1 z1 0 false _ I.out F.m).mono ?_
 rintro e w2 ⟨S2,q2,z2,n2,rfl,H,Y,s2⟩
 replace F:=F.stp Y s2
 have U:w.heap.size+1<w2.heap.size:=F.x1.lt
 unfold pv
 go_wp2_with fail
 refine (zai C z j h _ S2 q2 z2 0 cEq _ H.out.fst (F.alloc _).m).mono ?_
 rintro e w3 ⟨S3,q3,z3,rfl,N,Z,s3⟩
 replace F:=(F.new2 _).stp Z s3
 go_wp2_with fail
 refine (zdp C z j h _ S3 q3 z3 _ N.out F.m).mono ?_
 rintro e w4 ⟨S4,q4,z4,rfl,L,m4,X⟩
 replace F:=F.stp m4 X
 go_wp2_with fail
 refine (zai C z j h _ S4 q4 z4 0 cSemi _ L.out F.m).mono ?_
 rintro e w5 ⟨S5,q5,z5,rfl,A,m5,s5⟩
 replace F:=F.stp m5 s5
 have M:=F.x2.boxC
 unfold pv
 go_upto_region 3 with fail
 refine (F.put2 ..).cut ?_
 clear M
 intro w6 F
 have M:=F.x2.boxC
 go_wp2_with fail
 refine (zdd C z j h _ S5 q5 z5 0 1 n2 _ A.out F.m (zbw A.out)).mono ?_
 rintro e w7 ⟨S7,q7,z7,rfl,J,m7,s7⟩
 replace F:=F.stp m7 s7
 clear M
 have bb:=F.x1.boxC
 unfold pv
 go_wp2
 refine bodyPost_ret (zar rfl _ _ (w.heap.size+1) 122 _ (0,0) _ rfl ((F.x1.put ..)).heap Tryz.underlying122 rfl (by kernel_rfl)) rfl ?_
 exact zk0 rfl (H.out.withN (F:=fun x n=>_) (fun _ _=>rfl) J.out) (F.put1 ..).m (F.put1 ..).t
theorem zhF (C:Cx) (z j h:Nat) (S:Sv) (q:PS) (w:World) (hm:Mem C z j h S q w):
  Calls Tryz.prog 109 #[pv C z j S q (-1) 0] w (zdA C z j h (fnP C q) 0 S w):=by
 have HM:=zc hm
 clear hm
 unfold pv
 go_enter Tryz.func109,Tryz.ntmps109
 go_wp2_with fail
 refine (zaO C z j h (.ok q) S q (-1) 0 zT _ (zab q) ((HM.out.alloc _).alloc _)).mono ?_
 rintro e w1 ⟨S1,q1,z1,rfl,V,m1,s1⟩
 have F:=HM.out.fm2 m1 s1
 go_wp2_with fail
 refine (zbm C z j h _ S1 q1 z1 0 false _ V.out F.m).mono ?_
 rintro e w2 ⟨S2,q2,z2,n2,rfl,I,m2,s2⟩
 replace F:=F.stp m2 s2
 have ak:w.heap.size+1<w2.heap.size:=F.x1.lt
 unfold pv
 go_wp2_with fail
 refine (zai C z j h _ S2 q2 z2 0 zr _ I.out.fst (F.alloc _).m).mono ?_
 rintro e w3 ⟨S3,q3,z3,rfl,ah,m3,s3⟩
 replace F:=(F.new2 _).stp m3 s3
 go_wp2_with fail
 refine (zai C z j h _ S3 q3 z3 0 za8 _ ah.out F.m).mono ?_
 rintro e w4 ⟨S4,q4,z4,rfl,Y,m4,s4⟩
 replace F:=F.stp m4 s4
 go_wp2_with fail
 refine (zai C z j h _ S4 q4 z4 0 zL _ Y.out F.m).mono ?_
 rintro e w5 ⟨S5,q5,z5,rfl,ad,m5,s5⟩
 replace F:=F.stp m5 s5
 have A:=F.x2.boxC
 unfold pv
 go_upto_region 3 with fail
 refine (F.put2 ..).cut ?_
 clear A
 intro w6 F
 have A:=F.x2.boxC
 go_wp2_with fail
 refine (zaO C z j h _ S5 q5 z5 0 zeq _ ad.out F.m).mono ?_
 rintro e w7 ⟨S7,q7,z7,rfl,X,m7,s7⟩
 replace F:=F.stp m7 s7
 clear A
 go_wp2_with fail
 refine (zdp C z j h _ S7 q7 z7 _ X.out F.m).mono ?_
 rintro e w8 ⟨S8,q8,z8,rfl,ag,m8,s8⟩
 replace F:=F.stp m8 s8
 have A:=F.x2.boxC
 unfold pv
 go_upto_region 4 with fail
 refine (F.put2 ..).cut ?_
 clear A
 intro w9 F
 have A:=F.x2.boxC
 go_wp2_with fail
 refine (zai C z j h _ S8 q8 z8 0 cSemi _ ag.out F.m).mono ?_
 rintro e aq ⟨ac,aj,M,rfl,L,ae,N⟩
 replace F:=F.stp ae N
 clear A
 go_wp2_with fail
 refine (zai C z j h _ ac aj M 0 zbz _ L.out F.m).mono ?_
 rintro e am ⟨Z,af,ai,rfl,H,O,U⟩
 replace F:=F.stp O U
 have A:=F.x2.boxC
 unfold pv
 go_upto_region 5 with fail
 refine (F.put2 ..).cut ?_
 clear A
 intro ar F
 have A:=F.x2.boxC
 go_wp2_with fail
 refine (zdd C z j h _ Z af ai 0 2 n2 _ H.out F.m (zbw H.out)).mono ?_
 rintro e ap ⟨ao,an,al,rfl,J,ab,aa⟩
 replace F:=F.stp ab aa
 clear A
 have bb:=F.x1.boxC
 unfold pv
 go_wp2
 refine bodyPost_ret (zar rfl _ _ (w.heap.size+1) 122 _ (0,0) _ rfl ((F.x1.put ..)).heap Tryz.underlying122 rfl (by kernel_rfl)) rfl ?_
 exact zk0 rfl (I.out.withN (F:=fun x n=>_) (fun _ _=>rfl) J.out) (F.put1 ..).m (F.put1 ..).t
end Go.Proofs.YtjdddblpfbmpaaaGreat
