/- Facts and walks that the theorem stands on. -/
import Derived.Test.YtgcbmogmniahjaaGreatG24
import Derived.Deep.DeepCutAuto
namespace Go.Proofs.YtgcbmogmniahjaaGreat
open Go.Proofs.Tryz
set_option maxRecDepth 100000
set_option maxHeartbeats 6400000
open Go.RowKit Go.PlainAid
abbrev set12 (w:World) (b:Nat) (x0 x1 x2 x3 x4 x5 x6 x7 x8 x9 x10 x11:Value):World:=
 ((((((((((((w.setCell ⟨b,0,none⟩ x0).setCell ⟨b,1,none⟩ x1).setCell ⟨b,2,none⟩ x2).setCell ⟨b,3,none⟩ x3).setCell ⟨b,4,none⟩ x4).setCell ⟨b,5,none⟩ x5).setCell ⟨b,6,none⟩ x6).setCell ⟨b,7,none⟩ x7).setCell ⟨b,8,none⟩ x8).setCell ⟨b,9,none⟩ x9).setCell ⟨b,10,none⟩ x10).setCell ⟨b,11,none⟩ x11)
theorem zhS (w:World) (a:Addr) (u:Value):(w.setCell a u).heap.size=w.heap.size:=by show (w.heap.modify _ _).size=_;simp
theorem zro (w:World) (b:Nat) (z H L I A M E K D J h q:Value):(set12 w b z H L I A M E K D J h q).heap.size=w.heap.size:=by
 unfold set12;simp only[zhS]
theorem zfC {w:World} {b k:Nat} (h:k≠b) (A I M J D N H L E K q z:Value):(set12 w b A I M J D N H L E K q z).heap[k]? =w.heap[k]?:=by
 unfold set12;rw[zv h,zv h,zv h,zv h,zv h,zv h,zv h,zv h,zv h,zv h,zv h,zv h]
structure Bx (gt:Nat) (S:Sv) (w:World) (b:Nat) (cs:Array Value):Prop where
 heap:w.heap[b]? =some (.cells cs 121 (0,0))
 free: ¬S.has b
 ne:b≠gt
theorem Bx.lt {gt b:Nat} {S:Sv} {w:World} {cs:Array Value} (h:Bx gt S w b cs):b<w.heap.size:=(aLt h.heap)
theorem Bx.stp {gt b:Nat} {S q:Sv} {w z:World} {cs:Array Value} (h:Bx gt S w b cs) (k:Stp S w q z):Bx gt q z b cs:=
 ⟨(k.block b h.lt h.free).trans h.heap,fun g=>(k.sub b g).elim h.free fun A=>by have:=h.lt;omega,h.ne⟩
theorem Bx.below {gt b:Nat} {S:Sv} {w q:World} {cs:Array Value} (h:Bx gt S w b cs) (k:Below w.heap.size w q):Bx gt S q b cs:=⟨(k.block b h.lt).trans h.heap,h.free,h.ne⟩
theorem Bx.alloc {gt b:Nat} {S:Sv} {w:World} {cs:Array Value} (h:Bx gt S w b cs) (o:Obj):Bx gt S (w.alloc o) b cs:=h.below ((Below.refl _ _).alloc (Nat.le_refl _) _)
theorem Bx.new {C:Cx} {gt cap base:Nat} {S:Sv} {q:PS} {w:World} (h:Mem C gt cap base S q w) (cs:Array Value):Bx gt S (w.alloc (.cells cs 121 (0,0))) w.heap.size cs:=
 ⟨heap_alloc_new w _,fun g=>by have:=(h.own.has g).2;omega,by have:=(zat h.tok).1;omega⟩
theorem Bx.set {gt b:Nat} {S:Sv} {w:World} {cs:Array Value} (h:Bx gt S w b cs) (i:Nat) (u:Value):Bx gt S (w.setCell ⟨b,i,none⟩ u) b (cs.setIfInBounds i u):=⟨zcx h.heap,h.free,h.ne⟩
theorem Bx.set_other {gt b c:Nat} {S:Sv} {w:World} {cs:Array Value} (h:Bx gt S w b cs) (q:b≠c) (i:Nat) (u:Value):Bx gt S (w.setCell ⟨c,i,none⟩ u) b cs:=⟨(zv q).trans h.heap,h.free,h.ne⟩
theorem Bx.put {gt b:Nat} {S:Sv} {w:World} {v0 v1 v2 v3 v4 v5 v6 v7 v8 v9 v10 v11:Value} (h:Bx gt S w b #[v0,v1,v2,v3,v4,v5,v6,v7,v8,v9,v10,v11]) (A I M J D N H L E K q z:Value):
  Bx gt S (set12 w b A I M J D N H L E K q z) b #[A,I,M,J,D,N,H,L,E,K,q,z]:=⟨zbc h.heap,h.free,h.ne⟩
theorem Bx.other {gt b c:Nat} {S:Sv} {w:World} {cs:Array Value} (h:Bx gt S w b cs) (K:b≠c) (A I N J D O H M E L q z:Value):Bx gt S (set12 w c A I N J D O H M E L q z) b cs:=⟨(zfC K ..).trans h.heap,h.free,h.ne⟩
theorem Bx.at1 {gt b:Nat} {S:Sv} {w:World} {v0 v1 v2 v3 v4 v5 v6 v7 v8 v9 v10 v11:Value} (h:Bx gt S w b #[v0,v1,v2,v3,v4,v5,v6,v7,v8,v9,v10,v11]) (u:Value):Bx gt S (w.setCell ⟨b,1,none⟩ u) b #[v0,u,v2,v3,v4,v5,v6,v7,v8,v9,v10,v11]:=by simpa using h.set 1 u
theorem Bx.at11 {gt b:Nat} {S:Sv} {w:World} {v0 v1 v2 v3 v4 v5 v6 v7 v8 v9 v10 v11:Value} (h:Bx gt S w b #[v0,v1,v2,v3,v4,v5,v6,v7,v8,v9,v10,v11]) (u:Value):Bx gt S (w.setCell ⟨b,11,none⟩ u) b #[v0,v1,v2,v3,v4,v5,v6,v7,v8,v9,v10,u]:=by simpa using h.set 11 u
theorem Bx.box {gt b:Nat} {S:Sv} {w:World} {v0 v1 v2 v3 v4 v5 v6 v7 v8 v9 v10 v11:Value} (h:Bx gt S w b #[v0,v1,v2,v3,v4,v5,v6,v7,v8,v9,v10,v11]):Box w b v0 v1 v2 v3 v4 v5 v6 v7 v8 v9 v10 v11:=zan h.heap
theorem Mem.set {C:Cx} {gt cap base b:Nat} {S:Sv} {q:PS} {w:World} (h:Mem C gt cap base S q w) {cs:Array Value} (z:Bx gt S w b cs) (i:Nat) (u:Value):Mem C gt cap base S q (w.setCell ⟨b,i,none⟩ u):=
 ⟨h.own.keep fun k g=>zv (b:=k) fun e=>z.free (by rw[<-e];exact g),h.inv,zbG h.tok (zv z.ne.symm),h.few,by rw[zhS];exact h.base⟩
theorem Mem.put {C:Cx} {gt cap base b:Nat} {S:Sv} {q:PS} {w:World} (h:Mem C gt cap base S q w) {cs:Array Value} (D:Bx gt S w b cs) (E K O L H U J N I M z A:Value):Mem C gt cap base S q (set12 w b E K O L H U J N I M z A):=
 ⟨h.own.keep fun k g=>zfC (k:=k) (fun e=>D.free (by rw[<-e];exact g)) _ _ _ _ _ _ _ _ _ _ _ _,h.inv,zbG h.tok (zfC D.ne.symm ..),h.few,by rw[zro];exact h.base⟩
structure SB (B:Nat) (S:Sv) (w:World) (S':Sv) (w':World):Prop where
 os:w'.os=w.os
 tape:w'.tape=w.tape
 output:w'.output=w.output
 size:w.heap.size<=w'.heap.size
 low:B<=w.heap.size
 block: ∀k,k<B->¬S.has k->w'.heap[k]? =w.heap[k]?
 sub: ∀k,S'.has k->S.has k∨B<=k
theorem SB.start {S:Sv} {w q:World} (h:Below w.heap.size w q):SB w.heap.size S w S q:=⟨h.os,h.tape,h.output,h.size,Nat.le_refl _,fun k z _=>h.block k z,fun _ g=>.inl g⟩
theorem SB.step {B:Nat} {S S1 z:Sv} {w w1 A:World} (h:SB B S w S1 w1) (k:Stp S1 w1 z A):SB B S w z A:=
 ⟨k.os.trans h.os,k.tape.trans h.tape,k.output.trans h.output,Nat.le_trans h.size k.size,h.low,
  fun i q D=>(k.block i (by have:=h.size;have:=h.low;omega) fun g=>(h.sub i g).elim D fun E=>by omega).trans (h.block i q D),
  fun i q=>(k.sub i q).elim (h.sub i) fun g=>.inr (by have:=h.size;have:=h.low;omega)⟩
theorem SB.below {B:Nat} {S S1:Sv} {w w1 q:World} (h:SB B S w S1 w1) (k:Below w1.heap.size w1 q):SB B S w S1 q:=h.step (Stp.below k)
theorem SB.alloc {B:Nat} {S S1:Sv} {w w1:World} (h:SB B S w S1 w1) (o:Obj):SB B S w S1 (w1.alloc o):=h.below ((Below.refl _ _).alloc (Nat.le_refl _) _)
theorem SB.set {B:Nat} {S S1:Sv} {w w1:World} (h:SB B S w S1 w1) {b:Nat} (A:B<=b) (i:Nat) (u:Value):SB B S w S1 (w1.setCell ⟨b,i,none⟩ u):=
 ⟨h.os,h.tape,h.output,by rw[zhS];exact h.size,h.low,fun k q z=>(zv (by omega)).trans (h.block k q z),h.sub⟩
theorem SB.put {B:Nat} {S S1:Sv} {w w1:World} (h:SB B S w S1 w1) {b:Nat} (q:B<=b) (D J N K E O I M H L z A:Value):SB B S w S1 (set12 w1 b D J N K E O I M H L z A):=
 (((((((((((h.set q 0 D).set q 1 J).set q 2 N).set q 3 K).set q 4 E).set q 5 O).set q 6 I).set q 7 M).set q 8 H).set q 9 L).set q 10 z).set q 11 A
theorem SB.done {S S1:Sv} {w w1:World} (h:SB w.heap.size S w S1 w1):Stp S w S1 w1:=⟨h.os,h.tape,h.output,h.size,h.block,h.sub⟩
theorem Mem.two {C:Cx} {gt cap base:Nat} {S:Sv} {q:PS} {w w1:World} {A z:Array Value} (h:Mem C gt cap base S q w) (D:Below ((w.alloc (.cells A 121 (0,0))).alloc (.cells z 121 (0,0))).heap.size ((w.alloc (.cells A 121 (0,0))).alloc (.cells z 121 (0,0))) w1):
  Bx gt S w1 w.heap.size A/\Bx gt S w1 (w.heap.size+1) z/\Mem C gt cap base S q w1/\SB w.heap.size S w S w1:=
 ⟨((Bx.new h _).alloc _).below D,by have:=(Bx.new (h.alloc (.cells A 121 (0,0))) z).below D;rw[zg] at this;exact this,h.later (zbh D),SB.start (zbh D)⟩
theorem Mem.two2 {C:Cx} {gt cap base:Nat} {S S1:Sv} {q:PS} {w w1:World} {A z:Array Value} (h:Mem C gt cap base S q w) (s:Stp S ((w.alloc (.cells A 121 (0,0))).alloc (.cells z 121 (0,0))) S1 w1):
  Bx gt S1 w1 w.heap.size A/\Bx gt S1 w1 (w.heap.size+1) z/\SB w.heap.size S w S1 w1:=
 ⟨((Bx.new h _).alloc _).stp s,by have:=(Bx.new (h.alloc (.cells A 121 (0,0))) z).stp s;rw[zg] at this;exact this,(SB.start (zbd w _ _)).step s⟩
theorem Bx.boxC {gt b:Nat} {S:Sv} {w:World} {v0 v1 v2 v3 v4 v5 v6 v7 v8 v9 v10 v11:Value} (h:Bx gt S w b #[v0,v1,v2,v3,v4,v5,v6,v7,v8,v9,v10,v11]):w.cell? ⟨b,0,none⟩=some v0/\w.cell? ⟨b,1,none⟩=some v1/\w.cell? ⟨b,2,none⟩=some v2/\w.cell? ⟨b,3,none⟩=some v3/\w.cell? ⟨b,4,none⟩=some v4/\w.cell? ⟨b,5,none⟩=some v5/\w.cell? ⟨b,6,none⟩=some v6/\w.cell? ⟨b,7,none⟩=some v7/\w.cell? ⟨b,8,none⟩=some v8/\w.cell? ⟨b,9,none⟩=some v9/\w.cell? ⟨b,10,none⟩=some v10/\w.cell? ⟨b,11,none⟩=some v11/\∀i,w.frozen? ⟨b,i,none⟩=false:=
 have k:=h.box
 ⟨k.c0,k.c1,k.c2,k.c3,k.c4,k.c5,k.c6,k.c7,k.c8,k.c9,k.c10,k.c11,k.fz⟩
theorem Bx.ret {gt b:Nat} {S:Sv} {w:World} {v0 v1 v2 v3 v4 v5 v6 v7 v8 v9 v10 v11:Value} (h:Bx gt S w b #[v0,v1,v2,v3,v4,v5,v6,v7,v8,v9,v10,v11]) {q:Func} {p:Tmp} {tmps:Array Value} {R:Ending->World->Prop} (D:q.results= #[.cell p 121]) (z:tmps.getD p undef= .pointer (some ⟨b,0,none⟩)) (A:R (.returned (.agg #[v0,v1,v2,v3,v4,v5,v6,v7,v8,v9,v10,v11])) w):bodyPost prog q R .ret {tmps:=tmps,defers:=[]} w:=
 bodyPost_ret (results_cell_row D _ _ b 121 _ (0,0) _ z h.heap underlying121 rfl (by kernel_rfl)) rfl A
structure Fm (C:Cx) (gt cap base:Nat) (S0:Sv) (w0:World) (S:Sv) (q:PS) (bs:List (Nat×Array Value)) (w:World):Prop where
 x: ∀b∈bs,Bx gt S w b.1 b.2
 d:bs.Pairwise fun a b=>a.1≠b.1
 g: ∀b∈bs,w0.heap.size<=b.1
 m:Mem C gt cap base S q w
 t:SB w0.heap.size S0 w0 S w
section
variable {C:Cx} {gt cap base b b0 b1 b2 b3:Nat} {S0 S S1:Sv} {w0 w w1:World} {q q1:PS} {bs l1:List (Nat×Array Value)} {cs c0 c1 c2 c3:Array Value} {v0 v1 v2 v3 v4 v5 v6 v7 v8 v9 v10 v11:Value}
theorem Fm.x0 (F:Fm C gt cap base S0 w0 S q ((b0,c0)::bs) w):Bx gt S w b0 c0:=F.x _ (List.mem_cons_self ..)
theorem Fm.x1 (F:Fm C gt cap base S0 w0 S q ((b0,c0)::(b1,c1)::bs) w):Bx gt S w b1 c1:=F.x (b1,c1) (by simp)
theorem Fm.x2 (F:Fm C gt cap base S0 w0 S q ((b0,c0)::(b1,c1)::(b2,c2)::bs) w):Bx gt S w b2 c2:=F.x (b2,c2) (by simp)
theorem Fm.x3 (F:Fm C gt cap base S0 w0 S q ((b0,c0)::(b1,c1)::(b2,c2)::(b3,c3)::bs) w):Bx gt S w b3 c3:=F.x (b3,c3) (by simp)
theorem Fm.below (F:Fm C gt cap base S0 w0 S q bs w) (k:Below w.heap.size w w1):Fm C gt cap base S0 w0 S q bs w1:=⟨fun b h=>(F.x b h).below k,F.d,F.g,F.m.later k,F.t.below k⟩
theorem Fm.stp (F:Fm C gt cap base S0 w0 S q bs w) (m:Mem C gt cap base S1 q1 w1) (k:Stp S w S1 w1):Fm C gt cap base S0 w0 S1 q1 bs w1:=⟨fun b h=>(F.x b h).stp k,F.d,F.g,m,F.t.step k⟩
theorem Fm.alloc (F:Fm C gt cap base S0 w0 S q bs w) (o:Obj):Fm C gt cap base S0 w0 S q bs (w.alloc o):=F.below ((Below.refl _ _).alloc (Nat.le_refl _) _)
theorem Fm.adv (F:Fm C gt cap base S0 w0 S q bs w) (h:q.pos<C.ts.length):Fm C gt cap base S0 w0 S (adv q) bs w:=⟨F.x,F.d,F.g,F.m.adv h,F.t⟩
theorem Fm.new (F:Fm C gt cap base S0 w0 S q bs w) (cs:Array Value):Fm C gt cap base S0 w0 S q (bs++[(w.heap.size,cs)]) (w.alloc (.cells cs 121 (0,0))):=by
 refine⟨fun b h=>?_,?_,fun b h=>?_,F.m.alloc _,F.t.alloc _⟩
 ·rcases List.mem_append.1 h with h|h
  ·exact (F.x b h).alloc _
  ·rw[List.mem_singleton.1 h];exact Bx.new F.m cs
 ·refine List.pairwise_append.2 ⟨F.d,List.pairwise_singleton _ _,fun a z b A=>?_⟩;rw[List.mem_singleton.1 A];exact Nat.ne_of_lt (F.x a z).lt
 ·rcases List.mem_append.1 h with h|h
  ·exact F.g b h
  ·rw[List.mem_singleton.1 h];exact F.t.size
theorem Fm.new2 (F:Fm C gt cap base S0 w0 S q [(b0,c0),(b1,c1)] w) (cs:Array Value):Fm C gt cap base S0 w0 S q [(b0,c0),(b1,c1),(w.heap.size,cs)] (w.alloc (.cells cs 121 (0,0))):=F.new cs
theorem Fm.new3 (F:Fm C gt cap base S0 w0 S q [(b0,c0),(b1,c1),(b2,c2)] w) (cs:Array Value):Fm C gt cap base S0 w0 S q [(b0,c0),(b1,c1),(b2,c2),(w.heap.size,cs)] (w.alloc (.cells cs 121 (0,0))):=F.new cs
theorem Fm.turn (F:Fm C gt cap base S0 w0 S q (l1++(b,cs)::bs) w) (M:Bx gt S w1 b c0) (D: ∀k,k≠b->∀c,Bx gt S w k c->Bx gt S w1 k c) (H:Mem C gt cap base S q w1) (L:SB w0.heap.size S0 w0 S w1):Fm C gt cap base S0 w0 S q (l1++(b,c0)::bs) w1:=by
 obtain⟨J,I,z⟩:=List.pairwise_append.1 F.d;obtain⟨A,K⟩:=List.pairwise_cons.1 I;refine⟨fun a h=>?_,List.pairwise_append.2 ⟨J,List.pairwise_cons.2 ⟨A,K⟩,fun a E c N=>?_⟩,fun a h=>?_,H,L⟩
 ·rcases List.mem_append.1 h with h|h
  ·exact D _ (z a h _ (List.mem_cons_self ..)) _ (F.x a (List.mem_append_left _ h))
  ·rcases List.mem_cons.1 h with h|h
   ·rw[h];exact M
   ·exact D _ (A a h).symm _ (F.x a (List.mem_append_right _ (List.mem_cons_of_mem _ h)))
 ·rcases List.mem_cons.1 N with h|h
  ·rw[h];exact z a E (b,cs) (List.mem_cons_self ..)
  ·exact z a E c (List.mem_cons_of_mem _ h)
 ·rcases List.mem_append.1 h with h|h
  ·exact F.g a (List.mem_append_left _ h)
  ·rcases List.mem_cons.1 h with h|h
   ·rw[h];exact F.g (b,cs) (List.mem_append_right _ (List.mem_cons_self ..))
   ·exact F.g a (List.mem_append_right _ (List.mem_cons_of_mem _ h))
theorem Fm.put (F:Fm C gt cap base S0 w0 S q (l1++(b,#[v0,v1,v2,v3,v4,v5,v6,v7,v8,v9,v10,v11])::bs) w) (D J N K E O I M H L z A:Value):Fm C gt cap base S0 w0 S q (l1++(b,#[D,J,N,K,E,O,I,M,H,L,z,A])::bs) (set12 w b D J N K E O I M H L z A):=
 have h:Bx gt S w b #[v0,v1,v2,v3,v4,v5,v6,v7,v8,v9,v10,v11]:=F.x (b,_) (List.mem_append_right _ (List.mem_cons_self ..))
 F.turn (h.put ..) (fun _ U _ V=>V.other U ..) (F.m.put h ..) (F.t.put (F.g (b,_) (List.mem_append_right _ (List.mem_cons_self ..))) ..)
theorem Fm.put0 (F:Fm C gt cap base S0 w0 S q ((b,#[v0,v1,v2,v3,v4,v5,v6,v7,v8,v9,v10,v11])::bs) w) (A I M J D N H L E K h z:Value):Fm C gt cap base S0 w0 S q ((b,#[A,I,M,J,D,N,H,L,E,K,h,z])::bs) (set12 w b A I M J D N H L E K h z):=Fm.put (l1:=[]) F ..
theorem Fm.put1 (F:Fm C gt cap base S0 w0 S q ((b0,c0)::(b,#[v0,v1,v2,v3,v4,v5,v6,v7,v8,v9,v10,v11])::bs) w) (A I M J D N H L E K h z:Value):Fm C gt cap base S0 w0 S q ((b0,c0)::(b,#[A,I,M,J,D,N,H,L,E,K,h,z])::bs) (set12 w b A I M J D N H L E K h z):=Fm.put (l1:=[(b0,c0)]) F ..
theorem Fm.put2 (F:Fm C gt cap base S0 w0 S q ((b0,c0)::(b1,c1)::(b,#[v0,v1,v2,v3,v4,v5,v6,v7,v8,v9,v10,v11])::bs) w) (A I M J D N H L E K h z:Value):Fm C gt cap base S0 w0 S q ((b0,c0)::(b1,c1)::(b,#[A,I,M,J,D,N,H,L,E,K,h,z])::bs) (set12 w b A I M J D N H L E K h z):=Fm.put (l1:=[(b0,c0),(b1,c1)]) F ..
theorem Fm.put3 (F:Fm C gt cap base S0 w0 S q ((b0,c0)::(b1,c1)::(b2,c2)::(b,#[v0,v1,v2,v3,v4,v5,v6,v7,v8,v9,v10,v11])::bs) w) (A I M J D N H L E K h z:Value):Fm C gt cap base S0 w0 S q ((b0,c0)::(b1,c1)::(b2,c2)::(b,#[A,I,M,J,D,N,H,L,E,K,h,z])::bs) (set12 w b A I M J D N H L E K h z):=Fm.put (l1:=[(b0,c0),(b1,c1),(b2,c2)]) F ..
theorem Fm.set0_1 (F:Fm C gt cap base S0 w0 S q ((b,#[v0,v1,v2,v3,v4,v5,v6,v7,v8,v9,v10,v11])::bs) w) (u:Value):Fm C gt cap base S0 w0 S q ((b,#[v0,u,v2,v3,v4,v5,v6,v7,v8,v9,v10,v11])::bs) (w.setCell ⟨b,1,none⟩ u):=
 have h:Bx gt S w b #[v0,v1,v2,v3,v4,v5,v6,v7,v8,v9,v10,v11]:=F.x (b,_) (by simp)
 Fm.turn (l1:=[]) F (h.at1 u) (fun _ A _ z=>z.set_other A 1 u) (F.m.set h 1 u) (F.t.set (F.g (b,#[v0,v1,v2,v3,v4,v5,v6,v7,v8,v9,v10,v11]) (by simp)) 1 u)
theorem Fm.set0_11 (F:Fm C gt cap base S0 w0 S q ((b,#[v0,v1,v2,v3,v4,v5,v6,v7,v8,v9,v10,v11])::bs) w) (u:Value):Fm C gt cap base S0 w0 S q ((b,#[v0,v1,v2,v3,v4,v5,v6,v7,v8,v9,v10,u])::bs) (w.setCell ⟨b,11,none⟩ u):=
 have h:Bx gt S w b #[v0,v1,v2,v3,v4,v5,v6,v7,v8,v9,v10,v11]:=F.x (b,_) (by simp)
 Fm.turn (l1:=[]) F (h.at11 u) (fun _ A _ z=>z.set_other A 11 u) (F.m.set h 11 u) (F.t.set (F.g (b,#[v0,v1,v2,v3,v4,v5,v6,v7,v8,v9,v10,v11]) (by simp)) 11 u)
theorem Fm.set2_1 (F:Fm C gt cap base S0 w0 S q ((b0,c0)::(b1,c1)::(b,#[v0,v1,v2,v3,v4,v5,v6,v7,v8,v9,v10,v11])::bs) w) (u:Value):Fm C gt cap base S0 w0 S q ((b0,c0)::(b1,c1)::(b,#[v0,u,v2,v3,v4,v5,v6,v7,v8,v9,v10,v11])::bs) (w.setCell ⟨b,1,none⟩ u):=
 have h:Bx gt S w b #[v0,v1,v2,v3,v4,v5,v6,v7,v8,v9,v10,v11]:=F.x (b,_) (by simp)
 Fm.turn (l1:=[(b0,c0),(b1,c1)]) F (h.at1 u) (fun _ A _ z=>z.set_other A 1 u) (F.m.set h 1 u) (F.t.set (F.g (b,#[v0,v1,v2,v3,v4,v5,v6,v7,v8,v9,v10,v11]) (by simp)) 1 u)
theorem Fm.of2 (A:Bx gt S w b0 c0) (H:Bx gt S w b1 c1) (m:Mem C gt cap base S q w) (t:SB w0.heap.size S0 w0 S w) (h:b0≠b1) (E:w0.heap.size<=b0) (D:w0.heap.size<=b1):Fm C gt cap base S0 w0 S q [(b0,c0),(b1,c1)] w:=by
 refine⟨fun b z=>?_,by simp[h],fun b z=>?_,m,t⟩
 ·simp at z;rcases z with rfl|rfl
  ·exact A
  ·exact H
 ·simp at z;rcases z with rfl|rfl
  ·exact E
  ·exact D
theorem Fm.cut {P:Program} {z:Code} {Q:Exit->Act->World->Prop} {a:Act} (F:Fm C gt cap base S0 w0 S q bs w) (h: ∀W,Fm C gt cap base S0 w0 S q bs W->Code.wp P z Q a W):Code.wp P z Q a w:=h w F
theorem Fm.cutR {P:Program} {z:Code} {Q:Exit->Act->World->Prop} {a:Act} {RW:World->Prop} (F:Fm C gt cap base S0 w0 S q bs w) (r:RW w) (h: ∀W,Fm C gt cap base S0 w0 S q bs W->RW W->Code.wp P z Q a W):Code.wp P z Q a w:=h w F r
theorem Mem.fm {A z:Array Value} (h:Mem C gt cap base S q w) (D:Below ((w.alloc (.cells A 121 (0,0))).alloc (.cells z 121 (0,0))).heap.size ((w.alloc (.cells A 121 (0,0))).alloc (.cells z 121 (0,0))) w1):Fm C gt cap base S w S q [(w.heap.size,A),(w.heap.size+1,z)] w1:=
 have⟨h1,h2,h3,h4⟩:=h.two D
 Fm.of2 h1 h2 h3 h4 (by omega) (by omega) (by omega)
theorem Mem.fm2 {A z:Array Value} (h:Mem C gt cap base S q w) (m:Mem C gt cap base S1 q1 w1) (s:Stp S ((w.alloc (.cells A 121 (0,0))).alloc (.cells z 121 (0,0))) S1 w1):Fm C gt cap base S w S1 q1 [(w.heap.size,A),(w.heap.size+1,z)] w1:=
 have⟨h1,h2,h3⟩:=h.two2 s
 Fm.of2 h1 h2 m h3 (by omega) (by omega) (by omega)
end
theorem zkL {C:Cx} {gt cap base:Nat} {y:PR} {d:Nat} {S h:Sv} {w q:World} {q':PS} {z':Int} {v:Value} (A:v=pv C gt cap h q' z' d) (E:Is y q' z') (z:Mem C gt cap base h q' q) (D:SB w.heap.size S w h q):Out C gt cap base y d S w (.returned v) q:=
 ⟨h,q',z',by rw[A],E,z,D.done⟩
theorem Fm.done {C:Cx} {gt cap base:Nat} {y:PR} {d:Nat} {S h:Sv} {w q:World} {q':PS} {z':Int} {v:Value} {bs:List (Nat×Array Value)} (F:Fm C gt cap base S w h q' bs q) (A:v=pv C gt cap h q' z' d) (z:Is y q' z'):Out C gt cap base y d S w (.returned v) q:=zkL A z F.m F.t
structure Row (S:Sv) (w:World) (base B:Nat) (r:Rw) (l:List Ep):Prop where
 own:OwnR w base 97 4 r l.length (l.flatMap epL)
 free: ∀k,r.blk=some k->¬S.has k
 new: ∀k,r.blk=some k->B<=k
 addr: ∃g,r.a=some ⟨g,0,none⟩
theorem Row.ne {q b:Nat} {S:Sv} {w:World} {base B:Nat} {r:Rw} {l:List Ep} {D:Array Value} (h:Row S w base B r l) (A:Bx q S w b D): ∀k,r.blk=some k->k≠b:=by
 rintro k z rfl;obtain⟨_,_,c,g⟩:=h.own.typed z;rw[A.heap] at g;simp only[Option.some.injEq,Obj.cells.injEq] at g;exact absurd g.2.1 (by decide)
theorem Row.stp {S z:Sv} {w A:World} {base B:Nat} {r:Rw} {l:List Ep} (h:Row S w base B r l) (s:Stp S w z A):Row z A base B r l:=
 ⟨h.own.keep fun k q=>s.block k (h.own.typed q).2.1 (h.free k q),fun k q g=>(s.sub k g).elim (h.free k q) fun D=>by have:=(h.own.typed q).2.1;omega,h.new,h.addr⟩
theorem Row.below {S:Sv} {w q:World} {base B:Nat} {r:Rw} {l:List Ep} (h:Row S w base B r l) (s:Below w.heap.size w q):Row S q base B r l:=h.stp (Stp.below s)
theorem Row.alloc {S:Sv} {w:World} {base B:Nat} {r:Rw} {l:List Ep} (h:Row S w base B r l) (o:Obj):Row S (w.alloc o) base B r l:=h.below ((Below.refl _ _).alloc (Nat.le_refl _) _)
theorem Row.drew {S:Sv} {w:World} {base B:Nat} {r:Rw} {l:List Ep} (h:Row S w base B r l):Row S w.drew base B r l:=⟨h.own,h.free,h.new,h.addr⟩
theorem Row.set {q b:Nat} {S:Sv} {w:World} {base B:Nat} {r:Rw} {l:List Ep} {D:Array Value} (h:Row S w base B r l) (A:Bx q S w b D) (i:Nat) (u:Value):Row S (w.setCell ⟨b,i,none⟩ u) base B r l:=
 ⟨h.own.keep fun k z=>zv (h.ne A k z),h.free,h.new,h.addr⟩
theorem Row.put {O b:Nat} {S:Sv} {w:World} {base B:Nat} {r:Rw} {l:List Ep} {I:Array Value} (h:Row S w base B r l) (N:Bx O S w b I) (D L V M H X K U J A q z:Value):Row S (set12 w b D L V M H X K U J A q z) base B r l:=
 ⟨h.own.keep fun k E=>zfC (h.ne N k E) _ _ _ _ _ _ _ _ _ _ _ _,h.free,h.new,h.addr⟩
theorem Row.nil {C:Cx} {D z base B:Nat} {S:Sv} {q:PS} {w:World} (h:Mem C D z base S q w) (hB:B<=w.heap.size):Row S (w.alloc (.cells #[] 97 (0,0))) base B ⟨some ⟨w.heap.size,0,none⟩,0⟩ []:=by
 refine⟨World.ownsRow_lit w #[] 0 h.base (by unfold maxLen;omega) rfl,fun k A g=>?_,fun k A=>?_,⟨_,rfl⟩⟩
 ·simp only[Rw.blk,Value.ownBlock,Option.some.injEq] at A;have:=(h.own.has g).2;omega
 ·simp only[Rw.blk,Value.ownBlock,Option.some.injEq] at A;omega
theorem Row.grow {C:Cx} {J E base B:Nat} {S:Sv} {q:PS} {W D:World} {r I:Rw} {l:List Ep} {x:Ep} (h:Row S W base B r l) (A:Mem C J E base S q W) (hB:B<=W.heap.size) (N:W.grownBy D r.blk) (M:OwnR D base 97 4 I (l.length+1) (l.flatMap epL++epL x)) (H:I.blk=r.blk∨I.blk=some W.heap.size):
  Row S D base B I (l++[x])/\Mem C J E base S q D:=by
 refine⟨⟨?_,fun k z g=>?_,fun k z=>?_,M.addr.resolve_left (by omega)⟩,?_⟩
 ·have e:(l++[x]).length=l.length+1:=by simp
  rw[e]
  simpa using M
 ·rcases H with e|e
  ·exact h.free k (by rw[<-e];exact z) g
  ·have O:W.heap.size=k:=Option.some.inj (e.symm.trans z);have:=(A.own.has g).2;omega
 ·rcases H with e|e
  ·exact h.new k (by rw[<-e];exact z)
  ·have O:W.heap.size=k:=Option.some.inj (e.symm.trans z);omega
 ·have w: ∀k,k<W.heap.size->r.blk≠some k->D.heap[k]? =W.heap[k]?:=fun k z K=>N.block k z fun e=>K e.symm;refine⟨A.own.keep fun k z=>w k (A.own.has z).2 fun e=>h.free k e z,A.inv,zbG A.tok (w J (zat A.tok).1 fun e=>?_),A.few,Nat.le_trans A.base N.size⟩;obtain⟨_,_,c,g⟩:=h.own.typed e;obtain⟨U,L⟩:=zfW A.tok;rw[g] at L;simp only[Option.some.injEq,Obj.cells.injEq] at L;exact absurd L.2.1 (by decide)
theorem Row.bx {w b:Nat} {S:Sv} {W z:World} {base B:Nat} {r:Rw} {l:List Ep} {A:Array Value} (h:Row S W base B r l) (q:Bx w S W b A) (D:W.grownBy z r.blk):Bx w S z b A:=
 ⟨(D.block b q.lt fun e=>h.ne q b e.symm rfl).trans q.heap,q.free,q.ne⟩
theorem Row.sb {S S0:Sv} {w W A:World} {base:Nat} {B:Nat} {r:Rw} {l:List Ep} (h:Row S W base B r l) (q:SB B S0 w S W) (z:W.grownBy A r.blk):SB B S0 w S A:=
 ⟨z.os.trans q.os,z.tape.trans q.tape,z.output.trans q.output,Nat.le_trans q.size z.size,q.low,fun k D E=>(z.block k (by have:=q.size;have:=q.low;omega) fun e=>by have:=h.new k e.symm;omega).trans (q.block k D E),q.sub⟩
theorem Mem.list3 {C:Cx} {I H base:Nat} {S A:Sv} {q:PS} {w z:World} {E D:Array Value} (h:Mem C I H base S q w) (s:Stp S (((w.alloc (.cells E 121 (0,0))).alloc (.cells D 121 (0,0))).alloc (.cells #[] 97 (0,0))) A z):
  Bx I A z w.heap.size E/\Bx I A z (w.heap.size+1) D/\Row A z base w.heap.size ⟨some ⟨w.heap.size+1+1,0,none⟩,0⟩ []/\SB w.heap.size S w A z:=by
 refine⟨(((Bx.new h _).alloc _).alloc _).stp s,?_,?_,(SB.start (zdc w _ _ _)).step s⟩
 ·have:=((Bx.new (h.alloc (.cells E 121 (0,0))) D).alloc (.cells #[] 97 (0,0))).stp s;rw[zg] at this;exact this
 ·have:=(Row.nil (B:=w.heap.size) ((h.alloc (.cells E 121 (0,0))).alloc (.cells D 121 (0,0))) (zbd w _ _).size).stp s;rw[zcN] at this;exact this
def Is3 (y:PRL) (q:PS) (z:Int) (l:List Ep):Prop:=
 match y with
 | .ok a=>q=a.1/\z= -1/\l=a.2
 | .error e=>z=(e:Int)
def zrp (C:Cx) (gt cap base:Nat) (y:PRL) (d:Nat) (S:Sv) (w:World) (e:Ending) (w':World):Prop:=
 ∃S' q' z' r l,e= .returned (.tuple #[pv C gt cap S' q' z' d,.slice r.a l.length r.cap,.bool (zaE l)])/\Is3 y q' z' l/\Mem C gt cap base S' q' w'/\Stp S w S' w'/\Row S' w' base w.heap.size r l/\l.length<=4001
theorem zkM (l:List Ep) (x:Ep):zaE (l++[x])=(zaE l||(x.loc.toList==[100,101,102,97,117,108,116])):=by simp[zaE]
theorem zrq {z:Func} {p u v:Tmp} {A:TypeId} (h:z.results= #[.cell p A,.tmp u,.tmp v]) (tmps:Array Value) (P:Program) (w:World):
  (results z tmps).run P w=((asAddr (tmps.getD p undef)).run P w).andThen fun a D=>((loadVar A a).run P D).andThen fun x q=>.ok (.tuple #[x,tmps.getD u undef,tmps.getD v undef]) q:=by
 simp only[results,h];simp[Sem.run_bind,Result.andThen]
theorem zkN {P:Program} {A:Func} {p u v:Tmp} {z:TypeId} (h:A.results= #[.cell p z,.tmp u,.tmp v]) (tmps:Array Value) (w:World) (g:Nat) (t:TypeId) (q:Array Value) (D:Nat×Nat) (d:TypeDesc)
  (H:tmps.getD p undef= .pointer (some ⟨g,0,none⟩)) (J:w.heap[g]? =some (.cells q t D))
  (I:P.underlying z=some d) (E:(match d with| .struct _| .array _ _=>true|_=>false)=true) (K:(P.info? z).map (·.size)=some q.size):
  (results A tmps).run P w= .ok (.tuple #[.agg q,tmps.getD u undef,tmps.getD v undef]) w:=by
 rw[zrq h,H];simp[asAddr,Result.andThen,run_loadVar_row w g t z q D d J I E K]
theorem zbx {C:Cx} {x:PR} {k:Int} {s:BA} {q:PS} {z:Int} (h:Is (bd x (zd C k s)) q z):z<0->1<=q.pos:=by
 intro A;obtain⟨e,_⟩:=zaG h A;obtain⟨a,_,w⟩:=zn e;obtain⟨rfl,_⟩:=zbS w;simp[adv]
theorem zhT (C:Cx) (D h base:Nat) (S:Sv) (q:PS) (d:Nat) (A:BA) (w:World) (M:Mem C D h base S q w) (hp:1<=q.pos):
  Calls prog 205 #[pv C D h S q (-1) d,.string A] w (Out C D h base (zbE C A q) d S w):=by
 have X:=zc M;have z:=M.tok;have E:=M.few;clear M;cases L:isT C q.pos 4 zo with
 |true=>
  have V:Hid (zbE C A q=bd (bd (bd (.ok q) (zd C 4 zo)) (zd C 4 za6)) (zQ C ⟨3,0,A,sNone,0,0⟩)):=if_pos L;unfold pv;go_enter func205,ntmps205;go_wp2_with fail;refine (zk C D h base S q (-1) d 4 zo _ (zr (zr z _) _) E (by decide)).mono ?_;rintro e w1 ⟨rfl,I⟩;rw[L];have F:=X.o.fm I;clear z;have J:=F.x0.boxC;go_wp2_with fail;refine (zah C D h base (.ok q) S q (-1) d zo _ (zaa q) F.m).mono ?_;rintro e w2 ⟨Z,q2,Y,rfl,H,N,O⟩;replace F:=F.stp N O;clear J;go_wp2_with fail;refine (zah C D h base _ Z q2 Y d za6 _ H.o F.m).mono ?_;rintro e w3 ⟨S3,q3,z3,rfl,K,m3,s3⟩;replace F:=F.stp m3 s3;have J:=F.x0.boxC;unfold pv;go_wp2_with fail;refine (zdd C D h base _ S3 q3 z3 d ⟨3,0,A,sNone,0,0⟩ _ K.o (F.put0 ..).m (zbx K.o)).mono ?_;rintro e w4 ⟨S4,q4,z4,rfl,U,m4,s4⟩;replace F:=(F.put0 ..).stp m4 s4;clear J;have bb:=F.x1.boxC;unfold pv;go_wp2;refine (F.x1.put ..).ret rfl rfl ?_;rw[V.o];exact (F.put1 ..).done rfl U.o
 |false=>
  have V:Hid (zbE C A q=bd (.ok q) (zQ C ⟨2,0,A,sNone,0,0⟩)):=by show zbE C A q=_;rw[zbE,L];rfl
  unfold pv;go_enter func205,ntmps205;go_wp2_with fail;refine (zk C D h base S q (-1) d 4 zo _ (zr (zr z _) _) E (by decide)).mono ?_;rintro e w1 ⟨rfl,I⟩;rw[L];have F:=X.o.fm I;clear z;have J:=F.x0.boxC;go_wp2_with fail;refine (zdd C D h base (.ok q) S q (-1) d ⟨2,0,A,sNone,0,0⟩ _ (zaa q) F.m (fun _=>hp)).mono ?_;rintro e w2 ⟨Z,q2,Y,rfl,H,N,O⟩;replace F:=F.stp N O;clear J;have bb:=F.x1.boxC;unfold pv;go_wp2;refine (F.x1.put ..).ret rfl rfl ?_;rw[V.o];exact (F.put1 ..).done rfl H.o
theorem zrr {C:Cx} {q:Bool} {l:List Ep} {Y:PRN} {J A:BA} {M L z:PS} {O H E:Int} (N:Is2 Y M O J) (w:Is2 (bd Y (asP C q)) L H A) (I:(decide (H<0)&&isT C L.pos 4 zbD)=false) (h:Is (bd (zaR (bd Y (asP C q))) (zd C 4 zb0)) z E):
  Is3 (bd Y fun a=>bd (asP C q a) fun b=>if isT C b.1.pos 4 zbD then za2 C q (adv b.1) (l++[⟨0,b.2,a.2,sNone⟩]) else bd (zd C 4 zb0 b.1) fun q'=>.ok (q',l++[⟨0,b.2,a.2,sNone⟩])) z E (l++[⟨0,A,J,sNone⟩]):=by
 cases Y with
 |error e=>exact h
 |ok a=>
  obtain⟨_,_,rfl⟩:=N;rw[zA] at w h ⊢;cases K:asP C q a with
  |error e=>rw[K] at h;exact h
  |ok b=>
   rw[K] at w h;obtain⟨rfl,rfl,rfl⟩:=w;rw[Bool.and_eq_false_iff] at I;rw[zA,I.resolve_left (by decide)];have e:bd (zaR (.ok b)) (zd C 4 zb0)=zd C 4 zb0 b.1:=rfl;rw[e] at h;show Is3 (bd (zd C 4 zb0 b.1) _) _ _ _;cases D:zd C 4 zb0 b.1 with
   |error e=>rw[D] at h;exact h
   |ok c=>rw[D] at h;exact⟨h.1,h.2,rfl⟩
theorem zrs {C:Cx} {w:Bool} {l:List Ep} {z L D:PS} {K J:BA} {N A:Int} (H:Is2 (bd (.ok z) (zm C true)) L N K) (h:Is2 (bd (bd (.ok z) (zm C true)) (asP C w)) D A J) (O:A<0) (M:isT C D.pos 4 zbD=true):
  (bd (.ok z) fun q=>za2 C w q l)=(bd (.ok (adv D)) fun q=>za2 C w q (l++[⟨0,J,K,sNone⟩]))/\z.pos+1<=D.pos:=by
 rw[zA] at H h ⊢;rw[zA,zfX];cases E:zm C true z with
 |error e=>rw[E] at h;have:A=(e:Int):=h;omega
 |ok a=>
  rw[E] at H h;obtain⟨_,_,rfl⟩:=H;rw[zA] at h ⊢;obtain⟨rfl,_⟩:=zb1 E;cases I:asP C w (adv z,(ze C z.pos).text) with
  |error e=>rw[I] at h;have:A=(e:Int):=h;omega
  |ok b=>
   rw[I] at h;obtain⟨rfl,rfl,rfl⟩:=h;have:=zfl I;rw[zA,M];exact⟨rfl,this⟩
theorem zrt {C:Cx} {h:Bool} {x:PR} {q w:PS} {z A:Int} {l:List Ep} (E:Is x q z) (H: ¬z<0) (D:Is (bd x (zd C 4 zb0)) w A):Is3 (bd x fun q=>za2 C h q l) w A l:=by
 obtain⟨e,rfl,_⟩:=zd2 E H;exact D
theorem zru {C:Cx} {h:Bool} {Y:PRN} {q A:PS} {w z:Int} {J H:BA} (D:Is2 Y q w J) (E:(decide (w<0)&&isT C q.pos 1 sAs)=true) (I:Is2 (bd (.ok (adv q)) (zm C h)) A z H):Is2 (bd Y (asP C h)) A z H:=by
 rw[Bool.and_eq_true,decide_eq_true_eq] at E;cases Y with
 |error e=>have:w=(e:Int):=D;omega
 |ok a=>
  obtain⟨rfl,_,_⟩:=D;rw[zA,asP,if_pos E.2];exact I
theorem zrv {C:Cx} {z:Bool} {Y:PRN} {q:PS} {w:Int} {A:BA} (D:Is2 Y q w A) (E:(decide (w<0)&&isT C q.pos 1 sAs)=false) (H:((A.toList==[100,101,102,97,117,108,116])&& !z)=true):Is2 (bd Y (asP C z)) q (zb6 C q.pos w) A:=by
 cases Y with
 |error e=>
  have h:w=(e:Int):=D;show zb6 C q.pos w=(e:Int);rw[zb6,if_neg (by omega)];exact h
 |ok a=>
  obtain⟨rfl,rfl,rfl⟩:=D;rw[Bool.and_eq_false_iff] at E;rw[zA,asP,E.resolve_left (by decide),H];rfl
theorem zkO {C:Cx} {h:Bool} {Y:PRN} {q:PS} {w:Int} {z:BA} (A:Is2 Y q w z) (D:(decide (w<0)&&isT C q.pos 1 sAs)=false) (E:((z.toList==[100,101,102,97,117,108,116])&& !h)=false):Is2 (bd Y (asP C h)) q w z:=by
 cases Y with
 |error e=>exact A
 |ok a=>
  obtain⟨rfl,rfl,rfl⟩:=A;rw[Bool.and_eq_false_iff] at D;rw[zA,asP,D.resolve_left (by decide),E];exact⟨rfl,rfl,rfl⟩
theorem zkP (C:Cx) (E z base:Nat) (S:Sv) (q:PS) (d:Nat) (L:Bool) (w:World) (hm:Mem C E z base S q w):
  Calls prog 152 #[pv C E z S q (-1) d,.bool L] w (zrp C E z base (zcZ C L q) d S w):=by
 obtain⟨i0,hi,ar,ay,av⟩:=info_parts Tryz.infoExp;have HM:=zc hm;have M:=hm.few;clear hm;unfold pv;go_enter func152,ntmps152;go_wp2_with fail;refine (zah C E z base (.ok q) S q (-1) d zM _ (zaa q) (((HM.o.alloc _).alloc _).alloc _)).mono ?_;rintro e w1 ⟨S1,q1,z1,rfl,ao,m1,s1⟩;obtain⟨X0,X1,R0,t1⟩:=HM.o.list3 s1;have F:=Fm.of2 X0 X1 m1 t1 (by omega) (by omega) (by omega);have h:=zc R0;clear m1 s1 X0 X1 R0 t1;have A:=F.x0.boxC;unfold pv;go_wp2;go_loopg [7,8] (C.ts.length+1) (fun k o an wr=>∃(x':PR) (J:Sv) (U:PS) (z':Int) (r:Rw) (l:List Ep),Is x' U z'/\bd x' (fun q=>za2 C L q l)=zcZ C L q/\(z'<0->C.ts.length-U.pos<k)/\(l.length<=U.pos∨l=[])/\o= .slice r.a l.length r.cap/\an= .bool (zaE l)/\Mem C E z base J U wr/\SB w.heap.size S w J wr/\Bx E J wr w.heap.size #[.slice (some ⟨E,0,none⟩) C.ts.length z,.int .i64 U.pos,.int .i64 C.fin,.bool C.scr,.slice J.rq.a U.rq.length J.rq.cap,.slice J.im.a U.im.length J.im.cap,.slice J.ep.a U.ep.length J.ep.cap,.slice J.st.a U.st.length J.st.cap,.slice J.ex.a U.ex.length J.ex.cap,.slice J.la.a U.la.length J.la.cap,.int .i64 z',.int .i64 d]/\Bx E J wr (w.heap.size+1) #[.slice none 0 0,.int .i64 0,.int .i64 0,.bool false,.slice none 0 0,.slice none 0 0,.slice none 0 0,.slice none 0 0,.slice none 0 0,.slice none 0 0,.int .i64 0,.int .i64 0]/\Row J wr base w.heap.size r l)
 case atStart=>exact⟨_,S1,q1,z1,_,[],ao.o,rfl,fun _=>by omega,.inr rfl,rfl,rfl,(F.put0 ..).m,(F.put0 ..).t,(F.put0 ..).x0,(F.put0 ..).x1,(h.o.put F.x0 ..)⟩
 case round=>
  obtain⟨x2,S2,q2,z2,r,l,i2,e2,l2,n2,rfl,rfl,m2,t2,X0,X1,R0⟩:=hrel;have F:=Fm.of2 X0 X1 m2 t2 (by omega) (by omega) (by omega);have ac:=zc i2;have ad:=zc e2;have au:=zc l2;have h:=zc R0;have aC:l.length<=4000:=n2.elim (fun g=>by have:=m2.inv.pos;omega) (fun g=>by rw[g];simp);have aq:=zc n2;clear X0 X1 i2 m2 t2 e2 l2 R0 n2;by_cases hz:z2<0
  ·skip
   obtain⟨rfl,rfl⟩:=zaG ac.o hz;have aD:=au.o hz;have A:=F.x0.boxC;go_wp2_with fail;refine (zbn C E z base (.ok q2) S2 q2 (-1) d true _ (zaa q2) F.m).mono ?_;rintro e w3 ⟨V,N,Y,O,rfl,H,m3,s3⟩;replace h:=zc (h.o.stp s3);replace F:=F.stp m3 s3;clear A;have aB:w.heap.size+1<w3.heap.size:=F.x1.lt;unfold pv;go_upto_region 6 with fail;refine (F.new2 _).cutR (RW:=fun W=>Row V W base w.heap.size r l) (h.o.alloc _) ?_;clear h;intro w4 F R0;have h:=zc R0;clear R0;have A:=F.x0.boxC;have cb:=F.x2.boxC;go_upto_region 7 with fail;refine (F.put0 ..).cutR (RW:=fun W=>Row V W base w.heap.size r l) (h.o.put F.x0 ..) ?_;clear A cb;clear h;intro w5 F R0;have h:=zc R0;clear R0
   skip
   have A:=F.x0.boxC
   skip
   go_wp2_with fail;refine (zk C E z base V N Y d 1 sAs _ F.m.tok M (by decide)).mono ?_;rintro e w6 ⟨rfl,af⟩;replace h:=zc (h.o.below af);replace F:=F.below af;clear A;go_upto_if 28 with fail
   go_cut [11] (fun am wx=>∃(D:Sv) (I:PS) (z5:Int) (X:BA),am= .string X/\Is2 (bd (bd (.ok q2) (zm C true)) (asP C L)) I z5 X/\Mem C E z base D I wx/\SB w.heap.size S w D wx/\Bx E D wx w.heap.size #[.slice (some ⟨E,0,none⟩) C.ts.length z,.int .i64 I.pos,.int .i64 C.fin,.bool C.scr,.slice D.rq.a I.rq.length D.rq.cap,.slice D.im.a I.im.length D.im.cap,.slice D.ep.a I.ep.length D.ep.cap,.slice D.st.a I.st.length D.st.cap,.slice D.ex.a I.ex.length D.ex.cap,.slice D.la.a I.la.length D.la.cap,.int .i64 z5,.int .i64 d]/\Bx E D wx (w.heap.size+1) #[.slice none 0 0,.int .i64 0,.int .i64 0,.bool false,.slice none 0 0,.slice none 0 0,.slice none 0 0,.slice none 0 0,.slice none 0 0,.slice none 0 0,.int .i64 0,.int .i64 0]/\Row D wx base w.heap.size r l)
   case first=>
    cases hb:(decide (Y<0)&&isT C N.pos 1 sAs) with
    |true=>
     have ak:N.pos<C.ts.length:=by rw[Bool.and_eq_true] at hb;exact za7 hb.2 (by decide)
     have A:=F.x0.boxC;have al:Y= -1:=by rw[Bool.and_eq_true,decide_eq_true_eq] at hb;exact (zaG H.o.fst hb.1).2
     subst al;go_wp2_with fail;refine (zbn C E z base (.ok (adv N)) V (adv N) (-1) d L _ (zaa _) ((F.adv ak).set0_1 _).m).mono ?_;rintro e w7 ⟨S7,q7,z7,n7,rfl,ap,m7,s7⟩;replace h:=zc ((h.o.set F.x0 1 _).stp s7);replace F:=(F.set0_1 _).stp m7 s7;clear A;have aA:w.heap.size+1<w7.heap.size:=F.x1.lt;have ai:w3.heap.size<w7.heap.size:=F.x2.lt;unfold pv;go_upto_region 11 with fail;refine (F.new3 _).cutR (RW:=fun W=>Row S7 W base w.heap.size r l) (h.o.alloc _) ?_;clear h;intro w8 F R0;have h:=zc R0;clear R0;have A:=F.x0.boxC;have db:=F.x3.boxC;go_wp2;go_meet
     case rel=>exact⟨S7,q7,z7,n7,rfl,zru H.o hb ap.o,(F.put0 ..).m,(F.put0 ..).t,(F.put0 ..).x0,(F.put0 ..).x1,(h.o.put F.x0 ..)⟩
    |false=>
     cases e3:(O.toList==[100,101,102,97,117,108,116]) with
     |true=>
      cases L with
      |false=>
       have A:=F.x0.boxC;go_wp2_with fail;refine (zd0 C E z base V N Y d _ F.m.tok M).mono ?_;rintro e w7 ⟨rfl,K⟩;replace h:=zc (h.o.below K);replace F:=F.below K;clear A;have A:=F.x0.boxC;unfold pv;go_wp2;go_meet
       case rel=>exact⟨V,N,(zb6 C N.pos Y),O,rfl,zrv H.o hb (by rw[e3];rfl),(F.put0 ..).m,(F.put0 ..).t,(F.put0 ..).x0,(F.put0 ..).x1,(h.o.put F.x0 ..)⟩
      |true=>
       have A:=F.x0.boxC;go_wp2;go_meet
       case rel=>exact⟨V,N,Y,O,rfl,zkO H.o hb (by rw[e3];rfl),F.m,F.t,F.x0,F.x1,h.o⟩
     |false=>
      have A:=F.x0.boxC;go_wp2;go_meet
      case rel=>exact⟨V,N,Y,O,rfl,zkO H.o hb (by rw[e3];rfl),F.m,F.t,F.x0,F.x1,h.o⟩
   case rest=>
    obtain⟨D,I,z5,X,rfl,i5,m5,t5,X0,X1,R0⟩:=hcut;clear h;have F:=Fm.of2 X0 X1 m5 t5 (by omega) (by omega) (by omega);have Z:=zc i5;have h:=zc R0;clear X0 X1 i5 m5 t5 R0;go_upto_region 15 with fail;go_cut [8] (fun s8 wx=>s8= .bool (zaE l||(O.toList==[100,101,102,97,117,108,116]))/\wx=wc)
    case first=>
     cases ha:zaE l with
     |true=>
      go_wp2;go_meet
      case rel=>exact⟨by rw[ha];rfl,rfl⟩
     |false=>
      cases e3:(O.toList==[100,101,102,97,117,108,116]) with
      |true=>
       go_wp2;go_meet
       case rel=>exact⟨by rw[ha,e3];rfl,rfl⟩
      |false=>
       go_wp2;go_meet
       case rel=>exact⟨by rw[ha,e3];rfl,rfl⟩
    case rest=>
     obtain⟨rfl,rfl⟩:=hcut;have aa:=fun o=>h.o.own.alloc o;have aj:=F.m.base;go_wp2_with (at_builtin;refine zba _ rfl _ _ 50 rfl base 97 i0 _ 4 56 underlying50 hi ar ay av rfl (by decide) (by decide) r l.length _ (by rfl) (aa _) wc.heap.size (epL ⟨0,X,O,sNone⟩) (by rfl) (by exact heap_alloc_new wc _) rfl (by intro u hu;simp[epL] at hu;rcases hu with rfl|rfl|rfl|rfl<;>rfl) (by omega) (by rw[zg];omega) ?_);intro r' w6 hr hg ag;obtain⟨R6,m6⟩:=(h.o.alloc _).grow (x:=⟨0,X,O,sNone⟩) (F.alloc _).m (by rw[zg];have:=F.t.size;omega) hg hr (by rw[zg];exact ag);replace F:=Fm.of2 ((h.o.alloc _).bx (F.x0.alloc _) hg) ((h.o.alloc _).bx (F.x1.alloc _) hg) m6 ((h.o.alloc _).sb (F.t.alloc _) hg) (by omega) (by omega) (by omega);clear h hr hg ag aa aj m6;have h:=zc R6;clear R6;cases hc:(decide (z5<0)&&isT C I.pos 4 zbD) with
     |true=>
      have A:=F.x0.boxC;go_wp2_with fail;refine (zk C E z base D I z5 d 4 zbD _ F.m.tok M (by decide)).mono ?_;rintro e w7 ⟨rfl,K⟩;rw[hc];replace h:=zc (h.o.below K);replace F:=F.below K;clear A;rw[Bool.and_eq_true,decide_eq_true_eq] at hc;obtain⟨ae,ah⟩:=hc;have aw:I.pos<C.ts.length:=za7 ah (by decide);obtain⟨E5,P5⟩:=zrs (l:=l) H.o Z.o ae ah;have HE:=zc E5;obtain rfl:z5= -1:=(zaG Z.o.fst ae).2;have ax:Hid ((l++[(⟨0,X,O,sNone⟩:Ep)]).length<=I.pos+1∨l++[(⟨0,X,O,sNone⟩:Ep)]=[]):=.inl (by simp only[List.length_append,List.length_singleton];exact aq.o.elim (fun g=>by omega) (fun g=>by rw[g];simp));clear E5;have A:=F.x0.boxC;go_wp2;go_roundg (gk-1)
      case rel=>exact⟨.ok (adv I),D,adv I,-1,r',l++[⟨0,X,O,sNone⟩],zaa _,by rw[<-ad.o];exact HE.o.symm,fun _=>by rw[zz];omega,ax.o,by simp,by rw[zkM],((F.adv aw).set0_1 _).m,(F.t.set (by omega) 1 _),(F.x0.at1 _),(F.x1.set_other (by omega) 1 _),(h.o.set F.x0 1 _)⟩
      case measure=>omega
     |false=>
      have A:=F.x0.boxC;go_wp2_with fail;refine (zk C E z base D I z5 d 4 zbD _ F.m.tok M (by decide)).mono ?_;rintro e w7 ⟨rfl,K⟩;rw[hc];replace h:=zc (h.o.below K);replace F:=F.below K;clear A;have A:=F.x0.boxC;go_wp2_with fail;refine (zah C E z base _ D I z5 d zb0 _ Z.o.fst F.m).mono ?_;rintro e w8 ⟨S8,q8,z8,rfl,az,m8,s8⟩;replace h:=zc (h.o.stp s8);replace F:=F.stp m8 s8;clear A;have bb:=F.x1.boxC;unfold pv;go_wp2;refine bodyPost_ret (zkN rfl _ _ (w.heap.size+1) 121 _ (0,0) _ rfl ((F.x1.put ..)).heap underlying121 rfl (by kernel_rfl)) rfl ?_;exact⟨S8,q8,z8,r',l++[⟨0,X,O,sNone⟩],by simp[pv,zkM],by rw[<-ad.o,zA,zfX];exact zrr H.o Z.o hc az.o,(F.put1 ..).m,(F.put1 ..).t.done,(h.o.put F.x1 ..),by simp;omega⟩
  ·skip
   have A:=F.x0.boxC;go_wp2_with fail;refine (zah C E z base _ S2 q2 z2 d zb0 _ ac.o F.m).mono ?_;rintro e w3 ⟨V,N,Y,rfl,H,m3,s3⟩;replace h:=zc (h.o.stp s3);replace F:=F.stp m3 s3;clear A;have bb:=F.x1.boxC;unfold pv;go_wp2;refine bodyPost_ret (zkN rfl _ _ (w.heap.size+1) 121 _ (0,0) _ rfl ((F.x1.put ..)).heap underlying121 rfl (by kernel_rfl)) rfl ?_;exact⟨V,N,Y,r,l,rfl,by rw[<-ad.o];exact zrt ac.o (by omega) H.o,(F.put1 ..).m,(F.put1 ..).t.done,(h.o.put F.x1 ..),by omega⟩
def SumOK (C:Cx) (gt cap base m:Nat):Prop:=∀(x:PR) (S:Sv) (q:PS) (z:Int) (d:Nat) (w:World),Is x q z->Mem C gt cap base S q w->(z<0->C.ts.length-q.pos<m)->d<=20->
 Calls prog 119 #[pv C gt cap S q z d] w (Out C gt cap base (bd x (pE C .sum d)) d S w)
theorem zgE {C:Cx} {o:Bool} {q A:PS} {z:Int} {w:BA} (h:Is2 (bd (.ok q) (zm C o)) A z w) (D:zG C q.pos o=true):A=adv q/\z= -1/\w=(ze C q.pos).text:=by
 rw[zA,zm,if_pos D] at h;exact h
theorem zgF {C:Cx} {o:Bool} {q D:PS} {w:Int} {A:BA} (h:Is2 (bd (.ok q) (zm C o)) D w A) (z:zG C q.pos o=false):w=(zs C q.pos:Int):=by
 rw[zA,zm,z] at h;exact h
theorem zkQ {C:Cx} {n:BA} {y:Except Nat (PS×BA)} {q:PS} {z:Int} {f:BA} (h:Is2 y q z f) (w:(decide (z<0)&&isT C q.pos 4 zo)=true):bd (bd (bd (zaR y) (zd C 4 zo)) (zd C 4 za6)) (zQ C ⟨5,0,n,f,0,0⟩)=bd y fun a=>zbR C n a.2 a.1:=by
 rw[Bool.and_eq_true,decide_eq_true_eq] at w;cases y with
 |ok a=>
  obtain⟨rfl,_,rfl⟩:=h;show _=zbR C n a.2 a.1;rw[zbR,if_pos w.2];rfl
 |error e=>rfl
theorem zkR {C:Cx} {n:BA} {y:Except Nat (PS×BA)} {q:PS} {z:Int} {f:BA} (h:Is2 y q z f) (w:(decide (z<0)&&isT C q.pos 4 zo)=false):bd (zaR y) (zQ C ⟨4,0,n,f,0,0⟩)=bd y fun a=>zbR C n a.2 a.1:=by
 cases y with
 |ok a=>
  obtain⟨rfl,rfl,rfl⟩:=h;rw[Bool.and_eq_false_iff] at w;show _=zbR C n a.2 a.1;rw[zbR,w.resolve_left (by decide)];rfl
 |error e=>rfl
theorem zkS {C:Cx} {o:Bool} {x:PR} {q:PS} {z:Int} {n:BA} (h:Is2 (bd x (zm C o)) q z n):z<0->1<=q.pos:=by
 intro D;cases w:bd x (zm C o) with
 |error e=>rw[w] at h;have:z=(e:Int):=h;omega
 |ok a=>
  rw[w] at h;obtain⟨rfl,_,_⟩:=h;obtain⟨b,_,A⟩:=zn w;obtain⟨rfl,_⟩:=zb1 A;simp[adv]
theorem zrw (C:Cx) (D h base:Nat) (S:Sv) (q:PS) (d:Nat) (w:World) (E:Mem C D h base S q w) (J:((ze C q.pos).kind==2)=true):
  Calls prog 181 #[pv C D h S q (-1) d] w (Out C D h base (pE C .part d q) d S w):=by
 have X:=zc E;have z:=E.tok;have U:C.ts.length<=4000:=E.few;have L:=(zat E.tok).1;clear E;have M:q.pos<C.ts.length:=zfR J (by decide);have O:Hid (pE C .part d q=bd (.ok (adv q)) (zQ C ⟨1,(ze C q.pos).num,sNone,sNone,0,0⟩)):=by show pE C .part d q=_;rw[zbL,if_pos J];rfl
 obtain⟨V,_,N,_⟩:=z.cells M (d:=⟨0,sNone,0,C.fin⟩);change _=some (Value.int .i64 (ze C q.pos).kind) at V;change _=some (Value.int .i64 (ze C q.pos).num) at N;have A:Hid (Mem C D h base S (adv q) w):=X.o.adv M;generalize (ze C q.pos).kind=kd at V J;have Y:Hid (∀n,n=(ze C q.pos).num->pE C .part d q=bd (.ok (adv q)) (zQ C ⟨1,n,sNone,sNone,0,0⟩)):=fun n e=>by rw[e];exact O.o
 generalize H:(ze C q.pos).num=nm at N;have K:Hid (nm=(ze C q.pos).num):=H.symm;clear H O z;unfold pv;go_enter func181,ntmps181;go_wp2_with fail;refine (zdd C D h base (.ok (adv q)) S (adv q) (-1) d ⟨1,nm,sNone,sNone,0,0⟩ _ (zaa _) ((A.o.alloc _).alloc _) (fun _=>by simp[adv])).mono ?_;rintro e w1 ⟨S1,q1,z1,rfl,I,m1,Z⟩;have F:=A.o.fm2 m1 Z;have bb:=F.x1.boxC;unfold pv;go_wp2;refine (F.x1.put ..).ret rfl rfl ?_;rw[Y.o nm K.o];exact (F.put1 ..).done rfl I.o
theorem zrx (C:Cx) (D h base:Nat) (S:Sv) (q:PS) (d:Nat) (w:World) (E:Mem C D h base S q w) (K:((ze C q.pos).kind==2)=false) (H:isT C q.pos 4 zo=true) (N:20<=d) (O:d<=20):
  Calls prog 181 #[pv C D h S q (-1) d] w (Out C D h base (pE C .part d q) d S w):=by
 have U:=zc E;have z:=E.tok;have A:C.ts.length<=4000:=E.few;have L:=(zat E.tok).1;clear E;have X:q.pos<C.ts.length:=za7 H (by decide);have Y:Hid (pE C .part d q= .error (zs C q.pos)):=by show pE C .part d q=_;rw[zbL,K,H];simp[N]
 have qd:decide ((20:Int)<=(d:Int))=true:=decide_eq_true (by omega);obtain⟨M,_,_,_⟩:=z.cells X (d:=⟨0,sNone,0,C.fin⟩);change _=some (Value.int .i64 (ze C q.pos).kind) at M;generalize (ze C q.pos).kind=kd at M K;unfold pv;go_enter func181,ntmps181;go_wp2_with fail;refine (zk C D h base S q (-1) d 4 zo _ (zr (zr z _) _) A (by decide)).mono ?_;rintro e Z ⟨rfl,J⟩;rw[H];have F:=U.o.fm J;have V:=F.x0.boxC;go_wp2_with fail;refine (zd0 C D h base S q (-1) d _ F.m.tok A).mono ?_;rintro e w2 ⟨rfl,I⟩;replace F:=F.below I;clear V;have bb:=F.x1.boxC;unfold pv;go_wp2;refine (F.x1.put ..).ret rfl rfl ?_;rw[Y.o];exact (F.put1 ..).done rfl (show Is (.error (zs C q.pos)) q _ from rfl)
theorem zry (C:Cx) (A h base:Nat) (S:Sv) (q:PS) (d:Nat) (w:World) (E:Mem C A h base S q w) (O:((ze C q.pos).kind==2)=false) (K:isT C q.pos 4 zo=true) (Z:d<20) (X:SumOK C A h base (C.ts.length-q.pos)):
  Calls prog 181 #[pv C A h S q (-1) d] w (Out C A h base (pE C .part d q) d S w):=by
 have HM:=zc E;have z:=E.tok;have H:C.ts.length<=4000:=E.few;have U:=(zat E.tok).1;clear E;have V:q.pos<C.ts.length:=za7 K (by decide);have HV:Hid (pE C .part d q=bd (bd (.ok (adv q)) (pE C .sum (d+1))) (zd C 4 za6)):=by show pE C .part d q=_;rw[zbL,O,K,if_neg (by decide),if_pos rfl,if_neg (by omega)];rfl
 have HS:=zc X;clear X;have qd:decide ((20:Int)<=(d:Int))=false:=decide_eq_false (by omega);obtain⟨Y,_,_,_⟩:=z.cells V (d:=⟨0,sNone,0,C.fin⟩);change _=some (Value.int .i64 (ze C q.pos).kind) at Y;generalize (ze C q.pos).kind=kd at Y O;unfold pv;go_enter func181,ntmps181;go_wp2_with fail;refine (zk C A h base S q (-1) d 4 zo _ (zr (zr z _) _) H (by decide)).mono ?_;rintro e w1 ⟨rfl,M⟩;rw[K];have F:=HM.o.fm M;have I:=F.x0.boxC;go_wp2_with fail;refine (HS.o (.ok (adv q)) S (adv q) (-1) (d+1) _ (zaa _) (((F.adv V).set0_1 _).set0_11 _).m (fun _=>by show C.ts.length-(q.pos+1)<_;omega) (by omega)).mono ?_;rintro e w2 ⟨S2,q2,z2,rfl,J,m2,s2⟩;replace F:=((F.set0_1 _).set0_11 _).stp m2 s2;clear I;go_wp2_with fail;refine (zah C A h base _ S2 q2 z2 (d+1) za6 _ J.o F.m).mono ?_;rintro e w3 ⟨S3,q3,z3,rfl,L,m3,s3⟩;replace F:=F.stp m3 s3;have I:=F.x0.boxC;obtain⟨D,N⟩: ∃D:Nat,D=d+1:=⟨_,rfl⟩;rw[<-N];have ac:(D:Int)-1=d:=by omega
 have aa:D<=20:=by omega
 clear N Z qd;unfold pv;go_upto_region 11 with fail;refine (F.put0 ..).cut ?_;clear I;intro w4 F;have I:=F.x0.boxC;have bb:=F.x1.boxC;go_wp2;refine bodyPost_ret (results_cell_row rfl _ _ (w.heap.size+1) 121 _ (0,0) _ rfl (((F.x1.set_other (by omega) 11 _).put ..)).heap underlying121 rfl (by kernel_rfl)) rfl ?_;rw[HV.o];exact zkL rfl L.o ((F.set0_11 _).put1 ..).m ((F.set0_11 _).put1 ..).t
theorem zrz (z:List Tk) (h:Nat) (E A base:Nat) (S:Sv) (q:PS) (d:Nat) (w:World) (I:Mem (Cx.mk z h true) E A base S q w) (J: ¬q.pos<(Cx.mk z h true).ts.length):
  Calls prog 181 #[pv (Cx.mk z h true) E A S q (-1) d] w (Out (Cx.mk z h true) E A base (pE (Cx.mk z h true) .part d q) d S w):=by
 have HM:=zc I;have H:=I.tok;have D:(Cx.mk z h true).ts.length<=4000:=I.few;have O:=(zat I.tok).1;clear I;have hk:((ze (Cx.mk z h true) q.pos).kind==2)=false:=by rw[zdR (by omega)];rfl
 have U:isT (Cx.mk z h true) q.pos 4 zo=false:=zfq J (by decide);have V:isT (Cx.mk z h true) q.pos 1 zaD=false:=zfq J (by decide);have X:zG (Cx.mk z h true) q.pos false=false:=zhu J;have HV:Hid (pE (Cx.mk z h true) .part d q= .error (zs (Cx.mk z h true) q.pos)):=by show pE (Cx.mk z h true) .part d q=_;rw[zbL,hk,U,V,zm,X];rfl
 have aa: ¬q.pos<z.length:=J;unfold pv;go_enter func181,ntmps181;go_wp2_with fail;refine (zk (Cx.mk z h true) E A base S q (-1) d 4 zo _ (zr (zr H _) _) D (by decide)).mono ?_;rintro e w1 ⟨rfl,N⟩;rw[U];have F:=HM.o.fm N;have K:=F.x0.boxC;go_wp2_with fail;refine (zk (Cx.mk z h true) E A base S q (-1) d 1 zaD _ F.m.tok D (by decide)).mono ?_;rintro e w2 ⟨rfl,L⟩;rw[V];replace F:=F.below L;clear K;have K:=F.x0.boxC;go_wp2_with fail;refine (zbn (Cx.mk z h true) E A base (.ok q) S q (-1) d false _ (zaa q) F.m).mono ?_;rintro e w3 ⟨S3,q3,z3,n3,rfl,M,Z,s3⟩;replace F:=F.stp Z s3;clear K;obtain rfl:=zgF M.o X;have dz:decide ((0:Int)<=(zs (Cx.mk z h true) q.pos:Int))=true:=decide_eq_true (by omega);have Y:w.heap.size+1<w3.heap.size:=F.x1.lt;unfold pv;go_upto_region 17 with fail;refine (F.new2 _).cut ?_;intro w4 F;have bb:=F.x1.boxC;have cb:=F.x2.boxC;go_wp2;refine (F.x1.put ..).ret rfl rfl ?_;rw[HV.o];exact (F.put1 ..).done rfl (show Is (.error (zs (Cx.mk z h true) q.pos)) q3 _ from rfl)
theorem zr0 (z:List Tk) (h:Nat) (H A base:Nat) (S:Sv) (q:PS) (d:Nat) (w:World) (I:Mem (Cx.mk z h true) H A base S q w) (O:((ze (Cx.mk z h true) q.pos).kind==2)=false) (X:isT (Cx.mk z h true) q.pos 4 zo=false) (V:q.pos<(Cx.mk z h true).ts.length) (Y:isT (Cx.mk z h true) q.pos 1 zaD=false) (Z:zG (Cx.mk z h true) q.pos false=false):
  Calls prog 181 #[pv (Cx.mk z h true) H A S q (-1) d] w (Out (Cx.mk z h true) H A base (pE (Cx.mk z h true) .part d q) d S w):=by
 have HM:=zc I;have D:=I.tok;have E:(Cx.mk z h true).ts.length<=4000:=I.few;have U:=(zat I.tok).1;clear I;have HV:Hid (pE (Cx.mk z h true) .part d q= .error (zs (Cx.mk z h true) q.pos)):=by show pE (Cx.mk z h true) .part d q=_;rw[zbL,O,X,Y,zm,Z];rfl
 have ac:q.pos<z.length:=V;obtain⟨N,_,_,_⟩:=D.cells V (d:=⟨0,sNone,0,(Cx.mk z h true).fin⟩);change _=some (Value.int .i64 (ze (Cx.mk z h true) q.pos).kind) at N;generalize (ze (Cx.mk z h true) q.pos).kind=kd at N O;unfold pv;go_enter func181,ntmps181;go_wp2_with fail;refine (zk (Cx.mk z h true) H A base S q (-1) d 4 zo _ (zr (zr D _) _) E (by decide)).mono ?_;rintro e w1 ⟨rfl,M⟩;rw[X];have F:=HM.o.fm M;have J:=F.x0.boxC;go_wp2_with fail;refine (zk (Cx.mk z h true) H A base S q (-1) d 1 zaD _ F.m.tok E (by decide)).mono ?_;rintro e w2 ⟨rfl,K⟩;rw[Y];replace F:=F.below K;clear J;have J:=F.x0.boxC;go_wp2_with fail;refine (zbn (Cx.mk z h true) H A base (.ok q) S q (-1) d false _ (zaa q) F.m).mono ?_;rintro e w3 ⟨S3,q3,z3,n3,rfl,L,m3,s3⟩;replace F:=F.stp m3 s3;clear J;obtain rfl:=zgF L.o Z;have dz:decide ((0:Int)<=(zs (Cx.mk z h true) q.pos:Int))=true:=decide_eq_true (by omega);have aa:w.heap.size+1<w3.heap.size:=F.x1.lt;unfold pv;go_upto_region 17 with fail;refine (F.new2 _).cut ?_;intro w4 F;have bb:=F.x1.boxC;obtain⟨N,c1,c2,c3,c4,c5,c6,c7,c8,c9,ae,ad,cf⟩:=F.x2.box;go_wp2;refine (F.x1.put ..).ret rfl rfl ?_;rw[HV.o];exact (F.put1 ..).done rfl (show Is (.error (zs (Cx.mk z h true) q.pos)) q3 _ from rfl)
theorem zkT (A:List Tk) (h:Nat) (E z base:Nat) (S:Sv) (q:PS) (d:Nat) (w:World) (I:Mem (Cx.mk A h true) E z base S q w) (e0:Nat):
  Calls prog 181 #[pv (Cx.mk A h true) E z S q (e0:Int) d] w (Out (Cx.mk A h true) E z base (.error e0) d S w):=by
 have Y:=zc I;have H:=I.tok;have D:(Cx.mk A h true).ts.length<=4000:=I.few;have N:=(zat I.tok).1;clear I;have hz: ¬(e0:Int)<0:=by omega
 have O: ∀k s,(decide ((e0:Int)<0)&&isT (Cx.mk A h true) q.pos k s)=false:=fun k s=>by rw[decide_eq_false hz];rfl
 unfold pv;go_enter func181,ntmps181;go_wp2_with fail;refine (zk (Cx.mk A h true) E z base S q (e0:Int) d 4 zo _ (zr (zr H _) _) D (by decide)).mono ?_;rintro e w1 ⟨rfl,M⟩;rw[O];have F:=Y.o.fm M;have J:=F.x0.boxC;go_wp2_with fail;refine (zk (Cx.mk A h true) E z base S q (e0:Int) d 1 zaD _ F.m.tok D (by decide)).mono ?_;rintro e w2 ⟨rfl,K⟩;rw[O];replace F:=F.below K;clear J;have J:=F.x0.boxC;go_wp2_with fail;refine (zbn (Cx.mk A h true) E z base (.error e0) S q (e0:Int) d false _ (show Is (.error e0) q _ from rfl) F.m).mono ?_;rintro e X ⟨S3,Z,z3,n3,rfl,L,V,s3⟩;replace F:=F.stp V s3;clear J;obtain rfl:z3=(e0:Int):=L.o;have dz:decide ((0:Int)<=(e0:Int))=true:=decide_eq_true (by omega);have U:w.heap.size+1<X.heap.size:=F.x1.lt;unfold pv;go_upto_region 17 with fail;refine (F.new2 _).cut ?_;intro w4 F;have bb:=F.x1.boxC;have cb:=F.x2.boxC;go_wp2;refine (F.x1.put ..).ret rfl rfl ?_;exact (F.put1 ..).done rfl (show Is (.error e0) Z _ from rfl)
theorem zr1 (z:List Tk) (h:Nat) (H A base:Nat) (S:Sv) (q:PS) (d:Nat) (w:World) (I:Mem (Cx.mk z h true) H A base S q w) (O:((ze (Cx.mk z h true) q.pos).kind==2)=false) (V:isT (Cx.mk z h true) q.pos 4 zo=false) (K:q.pos<(Cx.mk z h true).ts.length) (X:isT (Cx.mk z h true) q.pos 1 zaD=true):
  Calls prog 181 #[pv (Cx.mk z h true) H A S q (-1) d] w (Out (Cx.mk z h true) H A base (pE (Cx.mk z h true) .part d q) d S w):=by
 have HM:=zc I;have D:=I.tok;have E:(Cx.mk z h true).ts.length<=4000:=I.few;have U:=(zat I.tok).1;clear I;have HV:Hid (pE (Cx.mk z h true) .part d q=zbE (Cx.mk z h true) zaD (adv q)):=by show pE (Cx.mk z h true) .part d q=_;rw[zbL,O,V,X];rfl
 have aa:q.pos<z.length:=K;obtain⟨Y,_,_,_⟩:=D.cells K (d:=⟨0,sNone,0,(Cx.mk z h true).fin⟩);change _=some (Value.int .i64 (ze (Cx.mk z h true) q.pos).kind) at Y;generalize (ze (Cx.mk z h true) q.pos).kind=kd at Y O;unfold pv;go_enter func181,ntmps181;go_wp2_with fail;refine (zk (Cx.mk z h true) H A base S q (-1) d 4 zo _ (zr (zr D _) _) E (by decide)).mono ?_;rintro e w1 ⟨rfl,N⟩;rw[V];have F:=HM.o.fm N;have J:=F.x0.boxC;go_wp2_with fail;refine (zk (Cx.mk z h true) H A base S q (-1) d 1 zaD _ F.m.tok E (by decide)).mono ?_;rintro e w2 ⟨rfl,L⟩;rw[X];replace F:=F.below L;clear J;have J:=F.x0.boxC;go_wp2_with fail;refine (zhT (Cx.mk z h true) H A base S (adv q) d zaD _ ((F.adv K).set0_1 _).m (by simp[adv])).mono ?_;rintro e w3 ⟨S3,q3,z3,rfl,M,Z,s3⟩;replace F:=(F.set0_1 _).stp Z s3;clear J;have bb:=F.x1.boxC;unfold pv;go_wp2;refine (F.x1.put ..).ret rfl rfl ?_;rw[HV.o];exact (F.put1 ..).done rfl M.o
theorem zr2 (z:List Tk) (h:Nat) (H A base:Nat) (S:Sv) (q:PS) (d:Nat) (w:World) (J:Mem (Cx.mk z h true) H A base S q w) (hk:((ze (Cx.mk z h true) q.pos).kind==2)=false) (ho:isT (Cx.mk z h true) q.pos 4 zo=false) (hp:q.pos<(Cx.mk z h true).ts.length) (hu:isT (Cx.mk z h true) q.pos 1 zaD=false) (hn:zG (Cx.mk z h true) q.pos false=true) (hd:isT (Cx.mk z h true) (q.pos+1) 4 cPoint=false):
  Calls prog 181 #[pv (Cx.mk z h true) H A S q (-1) d] w (Out (Cx.mk z h true) H A base (pE (Cx.mk z h true) .part d q) d S w):=by
 have HM:=zc J;have E:=J.tok;have D:(Cx.mk z h true).ts.length<=4000:=J.few;have af:=(zat J.tok).1;clear J;have HV:Hid (pE (Cx.mk z h true) .part d q=zbE (Cx.mk z h true) (ze (Cx.mk z h true) q.pos).text (adv q)):=by show pE (Cx.mk z h true) .part d q=_;rw[zbL,hk,ho,hu,zm,hn];show (if isT (Cx.mk z h true) (adv q).pos 4 cPoint then _ else _)=_;rw[zz,hd];rfl
 have ah:q.pos<z.length:=hp;obtain⟨N,_,_,_⟩:=E.cells hp (d:=⟨0,sNone,0,(Cx.mk z h true).fin⟩);change _=some (Value.int .i64 (ze (Cx.mk z h true) q.pos).kind) at N;generalize (ze (Cx.mk z h true) q.pos).kind=kd at N hk;unfold pv;go_enter func181,ntmps181;go_wp2_with fail;refine (zk (Cx.mk z h true) H A base S q (-1) d 4 zo _ (zr (zr E _) _) D (by decide)).mono ?_;rintro e w1 ⟨rfl,ae⟩;rw[ho];have F:=HM.o.fm ae;have X:=F.x0.boxC;go_wp2_with fail;refine (zk (Cx.mk z h true) H A base S q (-1) d 1 zaD _ F.m.tok D (by decide)).mono ?_;rintro e w2 ⟨rfl,aa⟩;rw[hu];replace F:=F.below aa;clear X;have X:=F.x0.boxC;go_wp2_with fail;refine (zbn (Cx.mk z h true) H A base (.ok q) S q (-1) d false _ (zaa q) F.m).mono ?_;rintro e w3 ⟨S3,M,z3,n3,rfl,K,m3,s3⟩;replace F:=F.stp m3 s3;clear X;obtain⟨O,rfl,L⟩:=zgE K.o hn;have HQ:=zc O;have Y:=zc L;have I:M.pos=q.pos+1:=by rw[O];rfl
 have ad:isT (Cx.mk z h true) M.pos 4 cPoint=false:=by rw[I];exact hd
 clear O L K;have ag:w.heap.size+1<w3.heap.size:=F.x1.lt;unfold pv;clear I;go_wp2_with fail;refine (zk (Cx.mk z h true) H A base S3 M (-1) d 4 cPoint _ (F.alloc _).m.tok D (by decide)).mono ?_;rintro e w4 ⟨rfl,ac⟩;rw[ad];replace F:=(F.new2 _).below ac;obtain⟨N,c1,c2,c3,c4,c5,c6,c7,c8,c9,Z,V,cf⟩:=F.x2.box;go_wp2_with fail;refine (zhT (Cx.mk z h true) H A base S3 M d n3 _ F.m (by rw[HQ.o];simp[adv])).mono ?_;rintro e w5 ⟨S5,q5,z5,rfl,U,m5,s5⟩;replace F:=F.stp m5 s5;clear N c1 c2 c3 c4 c5 c6 c7 c8 c9 Z V cf;have bb:=F.x1.boxC;unfold pv;go_wp2;refine (F.x1.put ..).ret rfl rfl ?_;rw[HV.o,<-HQ.o,<-Y.o];exact (F.put1 ..).done rfl U.o
theorem zr3 (z:List Tk) (h:Nat) (E A base:Nat) (S:Sv) (q:PS) (d:Nat) (w:World) (V:Mem (Cx.mk z h true) E A base S q w) (hk:((ze (Cx.mk z h true) q.pos).kind==2)=false) (ho:isT (Cx.mk z h true) q.pos 4 zo=false) (hp:q.pos<(Cx.mk z h true).ts.length) (hu:isT (Cx.mk z h true) q.pos 1 zaD=false) (hn:zG (Cx.mk z h true) q.pos false=true) (hd:isT (Cx.mk z h true) (q.pos+1) 4 cPoint=true):
  Calls prog 181 #[pv (Cx.mk z h true) E A S q (-1) d] w (Out (Cx.mk z h true) E A base (pE (Cx.mk z h true) .part d q) d S w):=by
 have HM:=zc V;have I:=V.tok;have D:(Cx.mk z h true).ts.length<=4000:=V.few;have am:=(zat V.tok).1;clear V;have HV:Hid (pE (Cx.mk z h true) .part d q=bd (bd (.ok (adv (adv q))) (zm (Cx.mk z h true) true)) fun y=>zbR (Cx.mk z h true) (ze (Cx.mk z h true) q.pos).text y.2 y.1):=by show pE (Cx.mk z h true) .part d q=_;rw[zbL,hk,ho,hu,zm,hn];show (if isT (Cx.mk z h true) (adv q).pos 4 cPoint then _ else _)=_;rw[zz,hd];rfl
 have ao:q.pos<z.length:=hp;obtain⟨c0,_,_,_⟩:=I.cells hp (d:=⟨0,sNone,0,(Cx.mk z h true).fin⟩);change _=some (Value.int .i64 (ze (Cx.mk z h true) q.pos).kind) at c0;generalize (ze (Cx.mk z h true) q.pos).kind=kd at c0 hk;unfold pv;go_enter func181,ntmps181;go_wp2_with fail;refine (zk (Cx.mk z h true) E A base S q (-1) d 4 zo _ (zr (zr I _) _) D (by decide)).mono ?_;rintro e w1 ⟨rfl,aj⟩;rw[ho];have F:=HM.o.fm aj;have ab:=F.x0.boxC;go_wp2_with fail;refine (zk (Cx.mk z h true) E A base S q (-1) d 1 zaD _ F.m.tok D (by decide)).mono ?_;rintro e w2 ⟨rfl,af⟩;rw[hu];replace F:=F.below af;clear ab;have ab:=F.x0.boxC;go_wp2_with fail;refine (zbn (Cx.mk z h true) E A base (.ok q) S q (-1) d false _ (zaa q) F.m).mono ?_;rintro e w3 ⟨S3,J,z3,n3,rfl,aa,m3,s3⟩;replace F:=F.stp m3 s3;clear ab;obtain⟨hq,rfl,N⟩:=zgE aa.o hn;have HQ:=zc hq;have U:=zc N;have ac:J.pos=q.pos+1:=by rw[hq];rfl
 have M:isT (Cx.mk z h true) J.pos 4 cPoint=true:=by rw[ac];exact hd
 clear hq N aa;have an:w.heap.size+1<w3.heap.size:=F.x1.lt;unfold pv;clear ac;go_wp2_with fail;refine (zk (Cx.mk z h true) E A base S3 J (-1) d 4 cPoint _ (F.alloc _).m.tok D (by decide)).mono ?_;rintro e w4 ⟨rfl,ai⟩;rw[M];replace F:=(F.new2 _).below ai;obtain⟨c0,c1,c2,c3,c4,c5,c6,c7,c8,c9,ae,ah,cf⟩:=F.x2.box;have Y:J.pos<(Cx.mk z h true).ts.length:=za7 M (by decide);have ak:J.pos<z.length:=Y;go_wp2_with fail;refine (zbn (Cx.mk z h true) E A base (.ok (adv J)) S3 (adv J) (-1) d true _ (zaa _) ((F.adv Y).set2_1 _).m).mono ?_;rintro e w5 ⟨S5,X,O,n5,rfl,H,m5,s5⟩;replace F:=(F.set2_1 _).stp m5 s5;clear c0 c1 c2 c3 c4 c5 c6 c7 c8 c9 ae ah cf;have al:w.heap.size+1<w5.heap.size:=F.x1.lt;have ad:w3.heap.size<w5.heap.size:=F.x2.lt;cases hc:(decide (O<0)&&isT (Cx.mk z h true) X.pos 4 zo) with
 |true=>
  unfold pv;go_wp2_with fail;refine (zk (Cx.mk z h true) E A base S5 X O d 4 zo _ (F.alloc _).m.tok D (by decide)).mono ?_;rintro e w6 ⟨rfl,L⟩;rw[hc];replace F:=(F.new3 _).below L;have db:=F.x3.boxC;go_wp2_with fail;refine (zah (Cx.mk z h true) E A base _ S5 X O d zo _ H.o.fst F.m).mono ?_;rintro e w7 ⟨S7,q7,z7,rfl,K,m7,s7⟩;replace F:=F.stp m7 s7;clear db;go_wp2_with fail;refine (zah (Cx.mk z h true) E A base _ S7 q7 z7 d za6 _ K.o F.m).mono ?_;rintro e w8 ⟨S8,q8,z8,rfl,Z,m8,s8⟩;replace F:=F.stp m8 s8;have db:=F.x3.boxC;unfold pv;go_wp2_with fail;refine (zdd (Cx.mk z h true) E A base _ S8 q8 z8 d ⟨5,0,n3,n5,0,0⟩ _ Z.o (F.put3 ..).m (zbx Z.o)).mono ?_;rintro e w9 ⟨S9,q9,z9,rfl,ag,m9,s9⟩;replace F:=(F.put3 ..).stp m9 s9;clear db;have bb:=F.x1.boxC;unfold pv;go_wp2;refine (F.x1.put ..).ret rfl rfl ?_;rw[HV.o,<-HQ.o,<-U.o,<-zkQ H.o hc];exact (F.put1 ..).done rfl ag.o
 |false=>
  unfold pv;go_wp2_with fail;refine (zk (Cx.mk z h true) E A base S5 X O d 4 zo _ (F.alloc _).m.tok D (by decide)).mono ?_;rintro e w6 ⟨rfl,L⟩;rw[hc];replace F:=(F.new3 _).below L;have db:=F.x3.boxC;go_wp2_with fail;refine (zdd (Cx.mk z h true) E A base _ S5 X O d ⟨4,0,n3,n5,0,0⟩ _ H.o.fst F.m (zkS H.o)).mono ?_;rintro e w7 ⟨S7,q7,z7,rfl,K,m7,s7⟩;replace F:=F.stp m7 s7;clear db;have bb:=F.x1.boxC;unfold pv;go_wp2;refine (F.x1.put ..).ret rfl rfl ?_;rw[HV.o,<-HQ.o,<-U.o,<-zkR H.o hc];exact (F.put1 ..).done rfl K.o
theorem zr4 (z:List Tk) (h:Nat) (E A base:Nat) (S:Sv) (q:PS) (d:Nat) (w:World) (H:Mem (Cx.mk z h false) E A base S q w) (J: ¬q.pos<(Cx.mk z h false).ts.length):
  Calls prog 181 #[pv (Cx.mk z h false) E A S q (-1) d] w (Out (Cx.mk z h false) E A base (pE (Cx.mk z h false) .part d q) d S w):=by
 have X:=zc H;have D:=H.tok;have I:(Cx.mk z h false).ts.length<=4000:=H.few;have M:=(zat H.tok).1;clear H;have Y:((ze (Cx.mk z h false) q.pos).kind==2)=false:=by rw[zdR (by omega)];rfl
 have N:isT (Cx.mk z h false) q.pos 4 zo=false:=zfq J (by decide);have hu:isT (Cx.mk z h false) q.pos 1 zaD=false:=zfq J (by decide);have O:zG (Cx.mk z h false) q.pos false=false:=zhu J;have HV:Hid (pE (Cx.mk z h false) .part d q= .error (zs (Cx.mk z h false) q.pos)):=by show pE (Cx.mk z h false) .part d q=_;rw[zbL,Y,N,zm,O];rfl
 have Z: ¬q.pos<z.length:=J;unfold pv;go_enter func181,ntmps181;go_wp2_with fail;refine (zk (Cx.mk z h false) E A base S q (-1) d 4 zo _ (zr (zr D _) _) I (by decide)).mono ?_;rintro e w1 ⟨rfl,L⟩;rw[N];have F:=X.o.fm L;have ab:=F.x0.boxC;go_wp2_with fail;refine (zbn (Cx.mk z h false) E A base (.ok q) S q (-1) d false _ (zaa q) F.m).mono ?_;rintro e w2 ⟨S2,q2,z2,n2,rfl,K,V,s2⟩;replace F:=F.stp V s2;clear ab;obtain rfl:=zgF K.o O;have dz:decide ((0:Int)<=(zs (Cx.mk z h false) q.pos:Int))=true:=decide_eq_true (by omega);have U:w.heap.size+1<w2.heap.size:=F.x1.lt;unfold pv;go_upto_region 17 with fail;refine (F.new2 _).cut ?_;intro w3 F;have bb:=F.x1.boxC;have cb:=F.x2.boxC;go_wp2;refine (F.x1.put ..).ret rfl rfl ?_;rw[HV.o];exact (F.put1 ..).done rfl (show Is (.error (zs (Cx.mk z h false) q.pos)) q2 _ from rfl)
theorem zr5 (z:List Tk) (h:Nat) (E A base:Nat) (S:Sv) (q:PS) (d:Nat) (w:World) (H:Mem (Cx.mk z h false) E A base S q w) (M:((ze (Cx.mk z h false) q.pos).kind==2)=false) (U:isT (Cx.mk z h false) q.pos 4 zo=false) (O:q.pos<(Cx.mk z h false).ts.length) (V:zG (Cx.mk z h false) q.pos false=false):
  Calls prog 181 #[pv (Cx.mk z h false) E A S q (-1) d] w (Out (Cx.mk z h false) E A base (pE (Cx.mk z h false) .part d q) d S w):=by
 have Z:=zc H;have D:=H.tok;have I:(Cx.mk z h false).ts.length<=4000:=H.few;have N:=(zat H.tok).1;clear H;have HV:Hid (pE (Cx.mk z h false) .part d q= .error (zs (Cx.mk z h false) q.pos)):=by show pE (Cx.mk z h false) .part d q=_;rw[zbL,M,U,zm,V];rfl
 have aa:q.pos<z.length:=O;obtain⟨L,_,_,_⟩:=D.cells O (d:=⟨0,sNone,0,(Cx.mk z h false).fin⟩);change _=some (Value.int .i64 (ze (Cx.mk z h false) q.pos).kind) at L;generalize (ze (Cx.mk z h false) q.pos).kind=kd at L M;unfold pv;go_enter func181,ntmps181;go_wp2_with fail;refine (zk (Cx.mk z h false) E A base S q (-1) d 4 zo _ (zr (zr D _) _) I (by decide)).mono ?_;rintro e w1 ⟨rfl,K⟩;rw[U];have F:=Z.o.fm K;have ab:=F.x0.boxC;go_wp2_with fail;refine (zbn (Cx.mk z h false) E A base (.ok q) S q (-1) d false _ (zaa q) F.m).mono ?_;rintro e w2 ⟨S2,q2,z2,n2,rfl,J,Y,s2⟩;replace F:=F.stp Y s2;clear ab;obtain rfl:=zgF J.o V;have dz:decide ((0:Int)<=(zs (Cx.mk z h false) q.pos:Int))=true:=decide_eq_true (by omega);have X:w.heap.size+1<w2.heap.size:=F.x1.lt;unfold pv;go_upto_region 17 with fail;refine (F.new2 _).cut ?_;intro w3 F;have bb:=F.x1.boxC;obtain⟨L,c1,c2,c3,c4,c5,c6,c7,c8,c9,ad,ac,cf⟩:=F.x2.box;go_wp2;refine (F.x1.put ..).ret rfl rfl ?_;rw[HV.o];exact (F.put1 ..).done rfl (show Is (.error (zs (Cx.mk z h false) q.pos)) q2 _ from rfl)
theorem zkU (A:List Tk) (h:Nat) (E z base:Nat) (S:Sv) (q:PS) (d:Nat) (w:World) (H:Mem (Cx.mk A h false) E z base S q w) (e0:Nat):
  Calls prog 181 #[pv (Cx.mk A h false) E z S q (e0:Int) d] w (Out (Cx.mk A h false) E z base (.error e0) d S w):=by
 have O:=zc H;have D:=H.tok;have I:(Cx.mk A h false).ts.length<=4000:=H.few;have L:=(zat H.tok).1;clear H;have Y: ¬(e0:Int)<0:=by omega
 have Z: ∀k s,(decide ((e0:Int)<0)&&isT (Cx.mk A h false) q.pos k s)=false:=fun k s=>by rw[decide_eq_false Y];rfl
 unfold pv;go_enter func181,ntmps181;go_wp2_with fail;refine (zk (Cx.mk A h false) E z base S q (e0:Int) d 4 zo _ (zr (zr D _) _) I (by decide)).mono ?_;rintro e w1 ⟨rfl,K⟩;rw[Z];have F:=O.o.fm K;have X:=F.x0.boxC;go_wp2_with fail;refine (zbn (Cx.mk A h false) E z base (.error e0) S q (e0:Int) d false _ (show Is (.error e0) q _ from rfl) F.m).mono ?_;rintro e w2 ⟨S2,q2,U,n2,rfl,J,N,V⟩;replace F:=F.stp N V;clear X;obtain rfl:U=(e0:Int):=J.o;have dz:decide ((0:Int)<=(e0:Int))=true:=decide_eq_true (by omega);have M:w.heap.size+1<w2.heap.size:=F.x1.lt;unfold pv;go_upto_region 17 with fail;refine (F.new2 _).cut ?_;intro w3 F;have bb:=F.x1.boxC;have cb:=F.x2.boxC;go_wp2;refine (F.x1.put ..).ret rfl rfl ?_;exact (F.put1 ..).done rfl (show Is (.error e0) q2 _ from rfl)
theorem zr6 (z:List Tk) (h:Nat) (H A base:Nat) (S:Sv) (q:PS) (d:Nat) (w:World) (K:Mem (Cx.mk z h false) H A base S q w) (hk:((ze (Cx.mk z h false) q.pos).kind==2)=false) (ho:isT (Cx.mk z h false) q.pos 4 zo=false) (hp:q.pos<(Cx.mk z h false).ts.length) (hn:zG (Cx.mk z h false) q.pos false=true) (hd:isT (Cx.mk z h false) (q.pos+1) 4 cPoint=false):
  Calls prog 181 #[pv (Cx.mk z h false) H A S q (-1) d] w (Out (Cx.mk z h false) H A base (pE (Cx.mk z h false) .part d q) d S w):=by
 have HM:=zc K;have D:=K.tok;have E:(Cx.mk z h false).ts.length<=4000:=K.few;have ad:=(zat K.tok).1;clear K;have HV:Hid (pE (Cx.mk z h false) .part d q=zbE (Cx.mk z h false) (ze (Cx.mk z h false) q.pos).text (adv q)):=by show pE (Cx.mk z h false) .part d q=_;rw[zbL,hk,ho,zm,hn];show (if isT (Cx.mk z h false) (adv q).pos 4 cPoint then _ else _)=_;rw[zz,hd];rfl
 have af:q.pos<z.length:=hp;obtain⟨M,_,_,_⟩:=D.cells hp (d:=⟨0,sNone,0,(Cx.mk z h false).fin⟩);change _=some (Value.int .i64 (ze (Cx.mk z h false) q.pos).kind) at M;generalize (ze (Cx.mk z h false) q.pos).kind=kd at M hk;unfold pv;go_enter func181,ntmps181;go_wp2_with fail;refine (zk (Cx.mk z h false) H A base S q (-1) d 4 zo _ (zr (zr D _) _) E (by decide)).mono ?_;rintro e w1 ⟨rfl,aa⟩;rw[ho];have F:=HM.o.fm aa;have ab:=F.x0.boxC;go_wp2_with fail;refine (zbn (Cx.mk z h false) H A base (.ok q) S q (-1) d false _ (zaa q) F.m).mono ?_;rintro e w2 ⟨S2,N,z2,n2,rfl,J,m2,s2⟩;replace F:=F.stp m2 s2;clear ab;obtain⟨O,rfl,L⟩:=zgE J.o hn;have HQ:=zc O;have X:=zc L;have I:N.pos=q.pos+1:=by rw[O];rfl
 have Z:isT (Cx.mk z h false) N.pos 4 cPoint=false:=by rw[I];exact hd
 clear O L J;have ae:w.heap.size+1<w2.heap.size:=F.x1.lt;unfold pv;clear I;go_wp2_with fail;refine (zk (Cx.mk z h false) H A base S2 N (-1) d 4 cPoint _ (F.alloc _).m.tok E (by decide)).mono ?_;rintro e w3 ⟨rfl,ac⟩;rw[Z];replace F:=(F.new2 _).below ac;obtain⟨M,c1,c2,c3,c4,c5,c6,c7,c8,c9,Y,U,cf⟩:=F.x2.box;go_wp2_with fail;refine (zhT (Cx.mk z h false) H A base S2 N d n2 _ F.m (by rw[HQ.o];simp[adv])).mono ?_;rintro e w4 ⟨S4,q4,z4,rfl,V,m4,s4⟩;replace F:=F.stp m4 s4;clear M c1 c2 c3 c4 c5 c6 c7 c8 c9 Y U cf;have bb:=F.x1.boxC;unfold pv;go_wp2;refine (F.x1.put ..).ret rfl rfl ?_;rw[HV.o,<-HQ.o,<-X.o];exact (F.put1 ..).done rfl V.o
theorem zr7 (z:List Tk) (h:Nat) (E A base:Nat) (S:Sv) (q:PS) (d:Nat) (w:World) (Y:Mem (Cx.mk z h false) E A base S q w) (hk:((ze (Cx.mk z h false) q.pos).kind==2)=false) (ho:isT (Cx.mk z h false) q.pos 4 zo=false) (hp:q.pos<(Cx.mk z h false).ts.length) (hn:zG (Cx.mk z h false) q.pos false=true) (hd:isT (Cx.mk z h false) (q.pos+1) 4 cPoint=true):
  Calls prog 181 #[pv (Cx.mk z h false) E A S q (-1) d] w (Out (Cx.mk z h false) E A base (pE (Cx.mk z h false) .part d q) d S w):=by
 have HM:=zc Y;have I:=Y.tok;have D:(Cx.mk z h false).ts.length<=4000:=Y.few;have ak:=(zat Y.tok).1;clear Y;have HV:Hid (pE (Cx.mk z h false) .part d q=bd (bd (.ok (adv (adv q))) (zm (Cx.mk z h false) true)) fun y=>zbR (Cx.mk z h false) (ze (Cx.mk z h false) q.pos).text y.2 y.1):=by show pE (Cx.mk z h false) .part d q=_;rw[zbL,hk,ho,zm,hn];show (if isT (Cx.mk z h false) (adv q).pos 4 cPoint then _ else _)=_;rw[zz,hd];rfl
 have am:q.pos<z.length:=hp;obtain⟨c0,_,_,_⟩:=I.cells hp (d:=⟨0,sNone,0,(Cx.mk z h false).fin⟩);change _=some (Value.int .i64 (ze (Cx.mk z h false) q.pos).kind) at c0;generalize (ze (Cx.mk z h false) q.pos).kind=kd at c0 hk;unfold pv;go_enter func181,ntmps181;go_wp2_with fail;refine (zk (Cx.mk z h false) E A base S q (-1) d 4 zo _ (zr (zr I _) _) D (by decide)).mono ?_;rintro e w1 ⟨rfl,ah⟩;rw[ho];have F:=HM.o.fm ah;have ab:=F.x0.boxC;go_wp2_with fail;refine (zbn (Cx.mk z h false) E A base (.ok q) S q (-1) d false _ (zaa q) F.m).mono ?_;rintro e w2 ⟨S2,K,z2,n2,rfl,N,m2,s2⟩;replace F:=F.stp m2 s2;clear ab;obtain⟨hq,rfl,U⟩:=zgE N.o hn;have HQ:=zc hq;have X:=zc U;have aa:K.pos=q.pos+1:=by rw[hq];rfl
 have O:isT (Cx.mk z h false) K.pos 4 cPoint=true:=by rw[aa];exact hd
 clear hq U N;have al:w.heap.size+1<w2.heap.size:=F.x1.lt;unfold pv;clear aa;go_wp2_with fail;refine (zk (Cx.mk z h false) E A base S2 K (-1) d 4 cPoint _ (F.alloc _).m.tok D (by decide)).mono ?_;rintro e w3 ⟨rfl,ae⟩;rw[O];replace F:=(F.new2 _).below ae;obtain⟨c0,c1,c2,c3,c4,c5,c6,c7,c8,c9,ad,af,cf⟩:=F.x2.box;have Z:K.pos<(Cx.mk z h false).ts.length:=za7 O (by decide);have ai:K.pos<z.length:=Z;go_wp2_with fail;refine (zbn (Cx.mk z h false) E A base (.ok (adv K)) S2 (adv K) (-1) d true _ (zaa _) ((F.adv Z).set2_1 _).m).mono ?_;rintro e w4 ⟨S4,q4,M,n4,rfl,H,m4,s4⟩;replace F:=(F.set2_1 _).stp m4 s4;clear c0 c1 c2 c3 c4 c5 c6 c7 c8 c9 ad af cf;have aj:w.heap.size+1<w4.heap.size:=F.x1.lt;have ac:w2.heap.size<w4.heap.size:=F.x2.lt;cases hc:(decide (M<0)&&isT (Cx.mk z h false) q4.pos 4 zo) with
 |true=>
  unfold pv;go_wp2_with fail;refine (zk (Cx.mk z h false) E A base S4 q4 M d 4 zo _ (F.alloc _).m.tok D (by decide)).mono ?_;rintro e w5 ⟨rfl,L⟩;rw[hc];replace F:=(F.new3 _).below L;have db:=F.x3.boxC;go_wp2_with fail;refine (zah (Cx.mk z h false) E A base _ S4 q4 M d zo _ H.o.fst F.m).mono ?_;rintro e w6 ⟨S6,q6,z6,rfl,J,m6,s6⟩;replace F:=F.stp m6 s6;clear db;go_wp2_with fail;refine (zah (Cx.mk z h false) E A base _ S6 q6 z6 d za6 _ J.o F.m).mono ?_;rintro e w7 ⟨S7,q7,z7,rfl,V,m7,s7⟩;replace F:=F.stp m7 s7;have db:=F.x3.boxC;unfold pv;go_wp2_with fail;refine (zdd (Cx.mk z h false) E A base _ S7 q7 z7 d ⟨5,0,n2,n4,0,0⟩ _ V.o (F.put3 ..).m (zbx V.o)).mono ?_;rintro e w8 ⟨S8,q8,z8,rfl,ag,m8,s8⟩;replace F:=(F.put3 ..).stp m8 s8;clear db;have bb:=F.x1.boxC;unfold pv;go_wp2;refine (F.x1.put ..).ret rfl rfl ?_;rw[HV.o,<-HQ.o,<-X.o,<-zkQ H.o hc];exact (F.put1 ..).done rfl ag.o
 |false=>
  unfold pv;go_wp2_with fail;refine (zk (Cx.mk z h false) E A base S4 q4 M d 4 zo _ (F.alloc _).m.tok D (by decide)).mono ?_;rintro e w5 ⟨rfl,L⟩;rw[hc];replace F:=(F.new3 _).below L;have db:=F.x3.boxC;go_wp2_with fail;refine (zdd (Cx.mk z h false) E A base _ S4 q4 M d ⟨4,0,n2,n4,0,0⟩ _ H.o.fst F.m (zkS H.o)).mono ?_;rintro e w6 ⟨S6,q6,z6,rfl,J,m6,s6⟩;replace F:=F.stp m6 s6;clear db;have bb:=F.x1.boxC;unfold pv;go_wp2;refine (F.x1.put ..).ret rfl rfl ?_;rw[HV.o,<-HQ.o,<-X.o,<-zkR H.o hc];exact (F.put1 ..).done rfl J.o
def zhU (C:Cx) (gt cap base m:Nat):Prop:=∀(x:PR) (S:Sv) (q:PS) (z:Int) (d:Nat) (w:World),Is x q z->Mem C gt cap base S q w->(z<0->C.ts.length-q.pos<m)->d<=20->
 Calls prog 181 #[pv C gt cap S q z d] w (Out C gt cap base (bd x (pE C .part d)) d S w)
def zkV (C:Cx) (gt cap base m:Nat):Prop:=∀(x:PR) (S:Sv) (q:PS) (z:Int) (d:Nat) (w:World),Is x q z->Mem C gt cap base S q w->(z<0->C.ts.length-q.pos<m)->d<=20->
 Calls prog 158 #[pv C gt cap S q z d] w (Out C gt cap base (bd x (pE C .prod d)) d S w)
theorem SumOK.mono {C:Cx} {D A base m k:Nat} (h:SumOK C D A base m) (E:k<=m):SumOK C D A base k:=fun x S q z d w J H K I=>h x S q z d w J H (fun g=>Nat.lt_of_lt_of_le (K g) E) I
theorem zr8 {C:Cx} {E h base m:Nat} (hS:SumOK C E h base m):zhU C E h base (m+1):=by
 intro x S q z d w Y H Z L;by_cases X:z<0
 ·obtain⟨rfl,rfl⟩:=zaG Y X;rw[zA];have V:SumOK C E h base (C.ts.length-q.pos):=hS.mono (by have:=Z X;omega);cases J:((ze C q.pos).kind==2) with
  |true=>exact zrw C E h base S q d w H J
  |false=>
   cases K:isT C q.pos 4 zo with
   |true=>
    by_cases U:20<=d
    ·exact zrx C E h base S q d w H J K U L
    ·exact zry C E h base S q d w H J K (by omega) V
   |false=>
    obtain⟨D,A,M⟩:=C;cases M with
    |true=>
     by_cases I:q.pos<D.length
     ·cases O:isT (Cx.mk D A true) q.pos 1 zaD with
      |true=>exact zr1 D A E h base S q d w H J K I O
      |false=>
       cases N:zG (Cx.mk D A true) q.pos false with
       |false=>exact zr0 D A E h base S q d w H J K I O N
       |true=>
        cases L:isT (Cx.mk D A true) (q.pos+1) 4 cPoint with
        |false=>exact zr2 D A E h base S q d w H J K I O N L
        |true=>exact zr3 D A E h base S q d w H J K I O N L
     ·exact zrz D A E h base S q d w H I
    |false=>
     by_cases I:q.pos<D.length
     ·cases N:zG (Cx.mk D A false) q.pos false with
      |false=>exact zr5 D A E h base S q d w H J K I N
      |true=>
       cases L:isT (Cx.mk D A false) (q.pos+1) 4 cPoint with
       |false=>exact zr6 D A E h base S q d w H J K I N L
       |true=>exact zr7 D A E h base S q d w H J K I N L
     ·exact zr4 D A E h base S q d w H I
 ·obtain⟨e,rfl,rfl⟩:=zd2 Y X;rw[ze2];obtain⟨D,A,M⟩:=C;cases M with
  |true=>exact zkT D A E h base S q d w H e
  |false=>exact zkU D A E h base S q d w H e
theorem zhV {C:Cx} {x:PR} {q:PS} {z:Int} (h:Is x q z) (F:PS->Ex):bd x (zQ C (F q))=bd x fun q'=>zQ C (F q') q':=by
 cases x with
 |ok a=>obtain⟨rfl,_⟩:=h;rfl
 |error e=>rfl
theorem zkW {C:Cx} {y:PS->Ex} {x:PR} {q:PS} {n:Nat} (A: ∀a,x= .ok a->n<=a.pos) (h:(bd x fun q'=>zQ C (y q') q')= .ok q):n<=q.pos:=by
 obtain⟨a,w,z⟩:=zn h;obtain⟨rfl,_⟩:=zb2 z;exact A a w
theorem zr9 {C:Cx} {d m:Nat} {x:PR} {q w:PS} {z h:Int} (I:Is x q z) (E:Is (bd x (pE C .part d)) w h) (D:z<0->C.ts.length-q.pos<m) (J:h<0):C.ts.length-w.pos<m:=by
 obtain⟨e,_⟩:=zaG E J;obtain⟨a,A,H⟩:=zn e;subst A;obtain⟨rfl,rfl⟩:=I;have:=zbf H;have:=D (by decide);omega
theorem zrA {C:Cx} {d m:Nat} {x:PR} {q w:PS} {z h:Int} (I:Is x q z) (E:Is (bd x (pE C .prod d)) w h) (D:z<0->C.ts.length-q.pos<m) (J:h<0):C.ts.length-w.pos<m:=by
 obtain⟨e,_⟩:=zaG E J;obtain⟨a,A,H⟩:=zn e;subst A;obtain⟨rfl,rfl⟩:=I;have:=zbf H;have:=D (by decide);omega
theorem zrB {C:Cx} {d:Nat} {w q:PS} {z:Int} (h:Is (bd (.ok (adv w)) (pE C .part d)) q z) (A:z<0):1<=q.pos:=by
 obtain⟨e,_⟩:=zaG h A;have:=zbf (show pE C .part d (adv w)= .ok q from e);rw[zz] at this;omega
theorem zkX {C:Cx} {d:Nat} {w q:PS} {z:Int} (h:Is (bd (.ok (adv w)) (pE C .prod d)) q z) (A:z<0):1<=q.pos:=by
 obtain⟨e,_⟩:=zaG h A;have:=zbf (show pE C .prod d (adv w)= .ok q from e);rw[zz] at this;omega
theorem zrC {C:Cx} {d:Nat} {F:PS->Ex} {w q:PS} {z:Int} (h:Is (bd (bd (.ok (adv w)) (pE C .part d)) fun q'=>zQ C (F q') q') q z) (D:z<0):w.pos+1<=q.pos:=by
 obtain⟨e,_⟩:=zaG h D;exact zkW (fun a A=>by have:=zbf (show pE C .part d (adv w)= .ok a from A);rw[zz] at this;exact this) e
theorem zkY {C:Cx} {d:Nat} {F:PS->Ex} {w q:PS} {z:Int} (h:Is (bd (bd (.ok (adv w)) (pE C .prod d)) fun q'=>zQ C (F q') q') q z) (D:z<0):w.pos+1<=q.pos:=by
 obtain⟨e,_⟩:=zaG h D;exact zkW (fun a A=>by have:=zbf (show pE C .prod d (adv w)= .ok a from A);rw[zz] at this;exact this) e
theorem zrD {C:Cx} {d:Nat} {q:PS} (h:isT C q.pos 4 zx=true) (_:q.pos<C.ts.length):
  bd (.ok q) (pE C .prodT d)=bd (bd (bd (.ok (adv q)) (pE C .part d)) fun q'=>zQ C ⟨8,0,sNone,sNone,(q.ex.length:Int)-1,(q'.ex.length:Int)-1⟩ q') (pE C .prodT d):=by
 show pE C .prodT d q=_;rw[zfS,if_pos h];rfl
theorem zkZ {C:Cx} {d:Nat} {q:PS} {k:Int} (h:(isT C q.pos 4 zcv||isT C q.pos 4 zbm)=true) (w:zdv C q.pos=k) (_:q.pos<C.ts.length):
  bd (.ok q) (pE C .sumT d)=bd (bd (bd (.ok (adv q)) (pE C .prod d)) fun q'=>zQ C ⟨k,0,sNone,sNone,(q.ex.length:Int)-1,(q'.ex.length:Int)-1⟩ q') (pE C .sumT d):=by
 show pE C .sumT d q=_;rw[zfi,if_pos h,w];rfl
theorem zrE {C:Cx} {d:Nat} {x:PR} {q:PS} {z:Int} (w:Is x q z) (h:(decide (z<0)&&isT C q.pos 4 zx)=false):Is (bd x (pE C .prodT d)) q z:=by
 cases x with
 |ok a=>
  obtain⟨rfl,rfl⟩:=w;rw[Bool.and_eq_false_iff] at h;rw[zA,zfS,h.resolve_left (by decide)];exact⟨rfl,rfl⟩
 |error e=>exact w
theorem zrF {C:Cx} {d:Nat} {x:PR} {q:PS} {z:Int} (A:Is x q z) (w:(decide (z<0)&&isT C q.pos 4 zcv)=false) (h:(decide (z<0)&&isT C q.pos 4 zbm)=false):Is (bd x (pE C .sumT d)) q z:=by
 cases x with
 |ok a=>
  obtain⟨rfl,rfl⟩:=A;rw[Bool.and_eq_false_iff] at w h;rw[zA,zfi,w.resolve_left (by decide),h.resolve_left (by decide)];exact⟨rfl,rfl⟩
 |error e=>exact A
theorem zrG {C:Cx} {i:Nat} (h:isT C i 4 zcv=true):isT C i 4 zbm=false:=by
 simp only[isT,Bool.and_eq_true,beq_iff_eq] at h;simp only[isT,h.2];rw[Bool.and_eq_false_iff];exact .inr (by simp)
theorem zla {C:Cx} {J E base m:Nat} (hP:zhU C J E base m):zkV C J E base m:=by
 intro x S q z d w hx hm hl K;have HP:=zc hP;have HM:=zc hm;have HX:=zc hx;have HL:=zc hl;have M:=hm.few;clear hP hm hx hl;unfold pv;go_enter func158,ntmps158;go_wp2_with fail;refine (HP.o x S q z d _ HX.o ((HM.o.alloc _).alloc _) HL.o K).mono ?_;rintro e w1 ⟨S1,q1,z1,rfl,Y,m1,s1⟩;have F:=HM.o.fm2 m1 s1;have H:=F.x0.boxC;unfold pv;go_wp2;go_loopg [] (C.ts.length+1) (fun k wr=>∃(x':PR) (D:Sv) (A:PS) (z':Int),Is x' A z'/\bd x' (pE C .prodT d)=bd x (pE C .prod d)/\(z'<0->C.ts.length-A.pos<k)/\(z'<0->C.ts.length-A.pos<m)/\Mem C J E base D A wr/\SB w.heap.size S w D wr/\Bx J D wr w.heap.size #[.slice (some ⟨J,0,none⟩) C.ts.length E,.int .i64 A.pos,.int .i64 C.fin,.bool C.scr,.slice D.rq.a A.rq.length D.rq.cap,.slice D.im.a A.im.length D.im.cap,.slice D.ep.a A.ep.length D.ep.cap,.slice D.st.a A.st.length D.st.cap,.slice D.ex.a A.ex.length D.ex.cap,.slice D.la.a A.la.length D.la.cap,.int .i64 z',.int .i64 d]/\Bx J D wr (w.heap.size+1) #[.slice none 0 0,.int .i64 0,.int .i64 0,.bool false,.slice none 0 0,.slice none 0 0,.slice none 0 0,.slice none 0 0,.slice none 0 0,.slice none 0 0,.int .i64 0,.int .i64 0])
 case atStart=>exact⟨_,S1,q1,z1,Y.o,by rw[zO];exact zaf fun a _=>(ziT C d a).symm,fun _=>by omega,fun V=>zr9 HX.o Y.o HL.o V,(F.put0 ..).m,(F.put0 ..).t,(F.put0 ..).x0,(F.put0 ..).x1⟩
 case round=>
  obtain⟨x2,S2,I,z2,i2,e2,l2,b2,m2,t2,X0,X1⟩:=hrel;have F:=Fm.of2 X0 X1 m2 t2 (by omega) (by omega) (by omega);have U:=zc i2;have Z:=zc e2;have ad:=zc l2;have ac:=zc b2;have ai:=m2.inv.ex;clear X0 X1 i2 m2 t2 e2 l2 b2;cases X:(decide (z2<0)&&isT C I.pos 4 zx) with
  |true=>
   have H:=F.x0.boxC;go_wp2_with fail;refine (zk C J E base S2 I z2 d 4 zx _ F.m.tok M (by decide)).mono ?_;rintro e w3 ⟨rfl,O⟩;rw[X];replace F:=F.below O;clear H;rw[Bool.and_eq_true,decide_eq_true_eq] at X;obtain⟨V,hs⟩:=X;have hp:I.pos<C.ts.length:=za7 hs (by decide);obtain⟨rfl,rfl⟩:=zaG U.o V;have af:=ad.o V;have aj:=ac.o V
   skip
   have H:=F.x0.boxC;go_wp2_with fail;refine (HP.o (.ok (adv I)) S2 (adv I) (-1) d _ (zaa _) ((F.adv hp).set0_1 _).m (fun _=>by rw[zz];omega) K).mono ?_;rintro e w4 ⟨S4,q4,z4,rfl,N,m4,s4⟩;replace F:=(F.set0_1 _).stp m4 s4;clear H;have H:=F.x0.boxC;unfold pv;go_upto_region 6 with fail;refine (F.put0 ..).cut ?_;clear H;intro w5 F;have H:=F.x0.boxC;have ae:=F.m.inv.ex;go_wp2_with fail;refine (zdd C J E base _ S4 q4 z4 d ⟨8,0,sNone,sNone,(I.ex.length:Int)-1,(q4.ex.length:Int)-1⟩ _ N.o F.m (fun h=>zrB N.o h)).mono ?_;rintro e w6 ⟨S6,q6,z6,rfl,aa,m6,s6⟩;replace F:=F.stp m6 s6;clear H;have HI:Hid (Is (bd (bd (.ok (adv I)) (pE C .part d)) fun A=>zQ C ⟨8,0,sNone,sNone,(I.ex.length:Int)-1,(A.ex.length:Int)-1⟩ A) q6 z6):=by rw[<-zhV N.o (fun A=>⟨8,0,sNone,sNone,(I.ex.length:Int)-1,(A.ex.length:Int)-1⟩)];exact aa.o
   have L:Hid (z6<0->I.pos+1<=q6.pos):=fun h=>zrC HI.o h;have H:=F.x0.boxC;unfold pv;go_wp2;go_roundg (gk-1)
   case rel=>exact⟨_,S6,q6,z6,HI.o,by rw[<-Z.o];exact (zrD (d:=d) hs hp).symm,fun h=>by have:=L.o h;omega,fun h=>by have:=L.o h;omega,(F.put0 ..).m,(F.put0 ..).t,(F.put0 ..).x0,(F.put0 ..).x1⟩
   case measure=>omega
  |false=>
   have H:=F.x0.boxC;go_wp2_with fail;refine (zk C J E base S2 I z2 d 4 zx _ F.m.tok M (by decide)).mono ?_;rintro e w3 ⟨rfl,O⟩;rw[X];replace F:=F.below O;clear H;have H:=F.x0.boxC;obtain⟨b0,b1,b2,b3,b4,b5,b6,b7,b8,b9,ah,ag,bf⟩:=F.x1.box;go_wp2;refine (F.x1.put ..).ret rfl rfl ?_;exact (F.put1 ..).done rfl (show Is (bd x (pE C .prod d)) I z2 from by rw[<-Z.o];exact zrE U.o X)
theorem zlb {C:Cx} {M E base m:Nat} (hP:zkV C M E base m):SumOK C M E base m:=by
 intro x S q z d w hx hm hl N;have HP:=zc hP;have HM:=zc hm;have HX:=zc hx;have HL:=zc hl;have I:=hm.few;clear hP hm hx hl;unfold pv;go_enter func119,ntmps119;go_wp2_with fail;refine (HP.o x S q z d _ HX.o ((HM.o.alloc _).alloc _) HL.o N).mono ?_;rintro e w1 ⟨S1,q1,z1,rfl,ae,m1,s1⟩;have F:=HM.o.fm2 m1 s1;have D:=F.x0.boxC;unfold pv;go_wp2;go_loopg [] (C.ts.length+1) (fun k wr=>∃(x':PR) (L:Sv) (H:PS) (z':Int),Is x' H z'/\bd x' (pE C .sumT d)=bd x (pE C .sum d)/\(z'<0->C.ts.length-H.pos<k)/\(z'<0->C.ts.length-H.pos<m)/\Mem C M E base L H wr/\SB w.heap.size S w L wr/\Bx M L wr w.heap.size #[.slice (some ⟨M,0,none⟩) C.ts.length E,.int .i64 H.pos,.int .i64 C.fin,.bool C.scr,.slice L.rq.a H.rq.length L.rq.cap,.slice L.im.a H.im.length L.im.cap,.slice L.ep.a H.ep.length L.ep.cap,.slice L.st.a H.st.length L.st.cap,.slice L.ex.a H.ex.length L.ex.cap,.slice L.la.a H.la.length L.la.cap,.int .i64 z',.int .i64 d]/\Bx M L wr (w.heap.size+1) #[.slice none 0 0,.int .i64 0,.int .i64 0,.bool false,.slice none 0 0,.slice none 0 0,.slice none 0 0,.slice none 0 0,.slice none 0 0,.slice none 0 0,.int .i64 0,.int .i64 0])
 case atStart=>exact⟨_,S1,q1,z1,ae.o,by rw[zO];exact zaf fun a _=>(ziS C d a).symm,fun _=>by omega,fun V=>zrA HX.o ae.o HL.o V,(F.put0 ..).m,(F.put0 ..).t,(F.put0 ..).x0,(F.put0 ..).x1⟩
 case round=>
  obtain⟨x2,X,A,U,i2,e2,l2,b2,m2,t2,X0,X1⟩:=hrel;have F:=Fm.of2 X0 X1 m2 t2 (by omega) (by omega) (by omega);have Y:=zc i2;have ad:=zc e2;have ag:=zc l2;have af:=zc b2;have aq:=m2.inv.ex;clear X0 X1 i2 m2 t2 e2 l2 b2;cases hc:(decide (U<0)&&isT C A.pos 4 zcv) with
  |true=>
   have D:=F.x0.boxC;go_wp2_with fail;refine (zk C M E base X A U d 4 zcv _ F.m.tok I (by decide)).mono ?_;rintro e w3 ⟨rfl,aa⟩;rw[hc];replace F:=F.below aa;clear D;rw[Bool.and_eq_true,decide_eq_true_eq] at hc;obtain⟨V,hs⟩:=hc;have ah:isT C A.pos 4 zbm=false:=zrG hs;have J:(decide (U<0)&&isT C A.pos 4 zbm)=false:=by rw[ah,Bool.and_false]
   have D:=F.x0.boxC;go_wp2_with fail;refine (zk C M E base X A U d 4 zbm _ F.m.tok I (by decide)).mono ?_;rintro e w4 ⟨rfl,O⟩;rw[J];replace F:=F.below O;clear D;clear J;have hp:A.pos<C.ts.length:=za7 hs (by decide);obtain⟨rfl,rfl⟩:=zaG Y.o V;have aj:=ag.o V;have an:=af.o V
   skip
   have D:=F.x0.boxC;go_wp2_with fail;refine (HP.o (.ok (adv A)) X (adv A) (-1) d _ (zaa _) ((F.adv hp).set0_1 _).m (fun _=>by rw[zz];omega) N).mono ?_;rintro e w5 ⟨S5,q5,z5,rfl,ac,m5,s5⟩;replace F:=(F.set0_1 _).stp m5 s5;clear D;have D:=F.x0.boxC;unfold pv;go_upto_region 9 with fail;refine (F.put0 ..).cut ?_;clear D;intro w6 F;have D:=F.x0.boxC;have ai:=F.m.inv.ex;go_wp2_with fail;refine (zdd C M E base _ S5 q5 z5 d ⟨6,0,sNone,sNone,(A.ex.length:Int)-1,(q5.ex.length:Int)-1⟩ _ ac.o F.m (fun h=>zkX ac.o h)).mono ?_;rintro e w7 ⟨S7,q7,z7,rfl,ak,m7,s7⟩;replace F:=F.stp m7 s7;clear D;have HI:Hid (Is (bd (bd (.ok (adv A)) (pE C .prod d)) fun H=>zQ C ⟨6,0,sNone,sNone,(A.ex.length:Int)-1,(H.ex.length:Int)-1⟩ H) q7 z7):=by rw[<-zhV ac.o (fun H=>⟨6,0,sNone,sNone,(A.ex.length:Int)-1,(H.ex.length:Int)-1⟩)];exact ak.o
   have K:Hid (z7<0->A.pos+1<=q7.pos):=fun h=>zkY HI.o h;have D:=F.x0.boxC;unfold pv;go_wp2;go_roundg (gk-1)
   case rel=>exact⟨_,S7,q7,z7,HI.o,by rw[<-ad.o];exact (zkZ (d:=d) (by rw[hs];rfl) (show zdv C A.pos=6 by rw[zdv,ah];rfl) hp).symm,fun h=>by have:=K.o h;omega,fun h=>by have:=K.o h;omega,(F.put0 ..).m,(F.put0 ..).t,(F.put0 ..).x0,(F.put0 ..).x1⟩
   case measure=>omega
  |false=>
   have D:=F.x0.boxC;go_wp2_with fail;refine (zk C M E base X A U d 4 zcv _ F.m.tok I (by decide)).mono ?_;rintro e w3 ⟨rfl,aa⟩;rw[hc];replace F:=F.below aa;clear D;cases J:(decide (U<0)&&isT C A.pos 4 zbm) with
   |true=>
    have D:=F.x0.boxC;go_wp2_with fail;refine (zk C M E base X A U d 4 zbm _ F.m.tok I (by decide)).mono ?_;rintro e w4 ⟨rfl,O⟩;rw[J];replace F:=F.below O;clear D;have D:=F.x0.boxC;go_wp2_with fail;refine (zk C M E base X A U d 4 zbm _ F.m.tok I (by decide)).mono ?_;rintro e w5 ⟨rfl,al⟩;rw[J];replace F:=F.below al;clear D;rw[Bool.and_eq_true,decide_eq_true_eq] at J;obtain⟨V,hs⟩:=J;have hp:A.pos<C.ts.length:=za7 hs (by decide);obtain⟨rfl,rfl⟩:=zaG Y.o V;have aj:=ag.o V;have an:=af.o V
    skip
    have D:=F.x0.boxC;go_wp2_with fail;refine (HP.o (.ok (adv A)) X (adv A) (-1) d _ (zaa _) ((F.adv hp).set0_1 _).m (fun _=>by rw[zz];omega) N).mono ?_;rintro e w6 ⟨S6,q6,z6,rfl,Z,m6,s6⟩;replace F:=(F.set0_1 _).stp m6 s6;clear D;have D:=F.x0.boxC;unfold pv;go_upto_region 9 with fail;refine (F.put0 ..).cut ?_;clear D;intro w7 F;have D:=F.x0.boxC;have ai:=F.m.inv.ex;go_wp2_with fail;refine (zdd C M E base _ S6 q6 z6 d ⟨7,0,sNone,sNone,(A.ex.length:Int)-1,(q6.ex.length:Int)-1⟩ _ Z.o F.m (fun h=>zkX Z.o h)).mono ?_;rintro e w8 ⟨S8,q8,z8,rfl,am,m8,s8⟩;replace F:=F.stp m8 s8;clear D;have HI:Hid (Is (bd (bd (.ok (adv A)) (pE C .prod d)) fun H=>zQ C ⟨7,0,sNone,sNone,(A.ex.length:Int)-1,(H.ex.length:Int)-1⟩ H) q8 z8):=by rw[<-zhV Z.o (fun H=>⟨7,0,sNone,sNone,(A.ex.length:Int)-1,(H.ex.length:Int)-1⟩)];exact am.o
    have K:Hid (z8<0->A.pos+1<=q8.pos):=fun h=>zkY HI.o h;have D:=F.x0.boxC;unfold pv;go_wp2;go_roundg (gk-1)
    case rel=>exact⟨_,S8,q8,z8,HI.o,by rw[<-ad.o];exact (zkZ (d:=d) (by rw[hs,Bool.or_true]) (show zdv C A.pos=7 by rw[zdv,hs];rfl) hp).symm,fun h=>by have:=K.o h;omega,fun h=>by have:=K.o h;omega,(F.put0 ..).m,(F.put0 ..).t,(F.put0 ..).x0,(F.put0 ..).x1⟩
    case measure=>omega
   |false=>
    have D:=F.x0.boxC;go_wp2_with fail;refine (zk C M E base X A U d 4 zbm _ F.m.tok I (by decide)).mono ?_;rintro e w4 ⟨rfl,O⟩;rw[J];replace F:=F.below O;clear D;have D:=F.x0.boxC;obtain⟨b0,b1,b2,b3,b4,b5,b6,b7,b8,b9,ap,ao,bf⟩:=F.x1.box;go_wp2;refine (F.x1.put ..).ret rfl rfl ?_;exact (F.put1 ..).done rfl (show Is (bd x (pE C .sum d)) A U from by rw[<-ad.o];exact zrF Y.o hc J)
theorem zrH (C:Cx) (E h base:Nat):zhU C E h base 0:=by
 intro x S q z d w L H K M;by_cases J:z<0
 ·have:=K J;omega
 ·obtain⟨e,rfl,rfl⟩:=zd2 L J;rw[ze2];obtain⟨I,A,D⟩:=C;cases D with
  |true=>exact zkT I A E h base S q d w H e
  |false=>exact zkU I A E h base S q d w H e
theorem zrI (C:Cx) (q h base:Nat) (m:Nat):SumOK C q h base m:=by
 induction m with
 |zero=>exact zlb (zla (zrH C q h base))
 |succ m w=>exact zlb (zla (zr8 w))
theorem zdp (C:Cx) (A h base:Nat) (x:PR) (S:Sv) (q:PS) (z:Int) (w:World) (E:Is x q z) (D:Mem C A h base S q w):
  Calls prog 119 #[pv C A h S q z 0] w (Out C A h base (bd x (pE C .sum 0)) 0 S w):=
 zrI C A h base (C.ts.length+1) x S q z 0 w E D (fun _=>by omega) (by omega)
theorem Is2.withN {y:PRN} {q q':PS} {z z':Int} {n:BA} {F:PR->BA->PR} (h:Is2 y q z n) (D: ∀e n,F (.error e) n= .error e) (w:Is (F (zaR y) n) q' z'):Is2 (withN y F) q' z' n:=by
 cases y with
 |ok a=>
  obtain⟨_,_,rfl⟩:=h;have e:zaR (.ok a)= .ok a.1:=rfl;rw[e] at w;show Is2 (bd (F (.ok a.1) a.2) fun q=>.ok (q,a.2)) q' z' a.2;cases A:F (.ok a.1) a.2 with
  |ok b=>rw[A] at w;exact⟨w.1,w.2,rfl⟩
  |error e=>rw[A] at w;exact w
 |error e=>
  have E:zaR (.error e)= .error e:=rfl;rw[E,D] at w;exact w
theorem zlc {C:Cx} {D h base:Nat} {y:PRN} {d:Nat} {S q:Sv} {w A:World} {q':PS} {z':Int} {z:BA} {v:Value} (H:v=pv C D h q q' z' d) (J:Is2 y q' z' z) (E:Mem C D h base q q' A) (I:SB w.heap.size S w q A):zdB C D h base y d S w (.returned (.tuple #[v,.string z])) A:=
 ⟨q,q',z',z,by rw[H],J,E,I.done⟩
theorem zhW (C:Cx) (z h base:Nat) (S:Sv) (q:PS) (w:World) (N:Mem C z h base S q w):
  Calls prog 116 #[pv C z h S q (-1) 0] w (zdB C z h base (zcJ C q) 0 S w):=by
 have L:=zc N;clear N;unfold pv;go_enter func116,ntmps116;go_wp2_with fail;refine (zaM C z h base (.ok q) S q (-1) 0 zF _ (zaa q) ((L.o.alloc _).alloc _)).mono ?_;rintro e w1 ⟨S1,q1,z1,rfl,E,m1,s1⟩;have F:=L.o.fm2 m1 s1;go_wp2_with fail;refine (zbn C z h base _ S1 q1 z1 0 false _ E.o F.m).mono ?_;rintro e w2 ⟨S2,q2,z2,n2,rfl,D,U,s2⟩;replace F:=F.stp U s2;have M:w.heap.size+1<w2.heap.size:=F.x1.lt;unfold pv;go_wp2_with fail;refine (zah C z h base _ S2 q2 z2 0 cEq _ D.o.fst (F.alloc _).m).mono ?_;rintro e w3 ⟨S3,q3,z3,rfl,K,V,s3⟩;replace F:=(F.new2 _).stp V s3;go_wp2_with fail;refine (zdp C z h base _ S3 q3 z3 _ K.o F.m).mono ?_;rintro e w4 ⟨S4,q4,z4,rfl,I,m4,O⟩;replace F:=F.stp m4 O;go_wp2_with fail;refine (zah C z h base _ S4 q4 z4 0 cSemi _ I.o F.m).mono ?_;rintro e w5 ⟨Y,q5,X,rfl,A,m5,s5⟩;replace F:=F.stp m5 s5;have J:=F.x2.boxC;unfold pv;go_upto_region 3 with fail;refine (F.put2 ..).cut ?_;clear J;intro w6 F;have J:=F.x2.boxC;go_wp2_with fail;refine (zde C z h base _ Y q5 X 0 1 n2 _ A.o F.m (zbx A.o)).mono ?_;rintro e w7 ⟨S7,q7,z7,rfl,H,m7,Z⟩;replace F:=F.stp m7 Z;clear J;have bb:=F.x1.boxC;unfold pv;go_wp2;refine bodyPost_ret (za8 rfl _ _ (w.heap.size+1) 121 _ (0,0) _ rfl ((F.x1.put ..)).heap underlying121 rfl (by kernel_rfl)) rfl ?_;exact zlc rfl (D.o.withN (F:=fun x n=>_) (fun _ _=>rfl) H.o) (F.put1 ..).m (F.put1 ..).t
theorem zhX (C:Cx) (z h base:Nat) (S:Sv) (q:PS) (w:World) (hm:Mem C z h base S q w):
  Calls prog 117 #[pv C z h S q (-1) 0] w (zdB C z h base (fnP C q) 0 S w):=by
 have HM:=zc hm;clear hm;unfold pv;go_enter func117,ntmps117;go_wp2_with fail;refine (zaM C z h base (.ok q) S q (-1) 0 zU _ (zaa q) ((HM.o.alloc _).alloc _)).mono ?_;rintro e w1 ⟨S1,q1,z1,rfl,N,m1,s1⟩;have F:=HM.o.fm2 m1 s1;go_wp2_with fail;refine (zbn C z h base _ S1 q1 z1 0 false _ N.o F.m).mono ?_;rintro e w2 ⟨S2,q2,z2,n2,rfl,E,m2,s2⟩;replace F:=F.stp m2 s2;have ah:w.heap.size+1<w2.heap.size:=F.x1.lt;unfold pv;go_wp2_with fail;refine (zah C z h base _ S2 q2 z2 0 zo _ E.o.fst (F.alloc _).m).mono ?_;rintro e w3 ⟨S3,q3,z3,rfl,ae,m3,s3⟩;replace F:=(F.new2 _).stp m3 s3;go_wp2_with fail;refine (zah C z h base _ S3 q3 z3 0 za6 _ ae.o F.m).mono ?_;rintro e w4 ⟨S4,q4,z4,rfl,U,m4,s4⟩;replace F:=F.stp m4 s4;go_wp2_with fail;refine (zah C z h base _ S4 q4 z4 0 zM _ U.o F.m).mono ?_;rintro e w5 ⟨S5,q5,z5,rfl,aa,m5,s5⟩;replace F:=F.stp m5 s5;have A:=F.x2.boxC;unfold pv;go_upto_region 3 with fail;refine (F.put2 ..).cut ?_;clear A;intro w6 F;have A:=F.x2.boxC;go_wp2_with fail;refine (zaM C z h base _ S5 q5 z5 0 ze1 _ aa.o F.m).mono ?_;rintro e w7 ⟨S7,q7,z7,rfl,O,m7,s7⟩;replace F:=F.stp m7 s7;clear A;go_wp2_with fail;refine (zdp C z h base _ S7 q7 z7 _ O.o F.m).mono ?_;rintro e w8 ⟨S8,q8,z8,rfl,ad,m8,s8⟩;replace F:=F.stp m8 s8;have A:=F.x2.boxC;unfold pv;go_upto_region 4 with fail;refine (F.put2 ..).cut ?_;clear A;intro w9 F;have A:=F.x2.boxC;go_wp2_with fail;refine (zah C z h base _ S8 q8 z8 0 cSemi _ ad.o F.m).mono ?_;rintro e an ⟨Z,ag,J,rfl,I,ab,K⟩;replace F:=F.stp ab K;clear A;go_wp2_with fail;refine (zah C z h base _ Z ag J 0 zb0 _ I.o F.m).mono ?_;rintro e aj ⟨V,ac,af,rfl,D,L,M⟩;replace F:=F.stp L M;have A:=F.x2.boxC;unfold pv;go_upto_region 5 with fail;refine (F.put2 ..).cut ?_;clear A;intro ao F;have A:=F.x2.boxC;go_wp2_with fail;refine (zde C z h base _ V ac af 0 2 n2 _ D.o F.m (zbx D.o)).mono ?_;rintro e am ⟨al,ak,ai,rfl,H,Y,X⟩;replace F:=F.stp Y X;clear A;have bb:=F.x1.boxC;unfold pv;go_wp2;refine bodyPost_ret (za8 rfl _ _ (w.heap.size+1) 121 _ (0,0) _ rfl ((F.x1.put ..)).heap underlying121 rfl (by kernel_rfl)) rfl ?_;exact zlc rfl (E.o.withN (F:=fun x n=>_) (fun _ _=>rfl) H.o) (F.put1 ..).m (F.put1 ..).t
end Go.Proofs.YtgcbmogmniahjaaGreat
