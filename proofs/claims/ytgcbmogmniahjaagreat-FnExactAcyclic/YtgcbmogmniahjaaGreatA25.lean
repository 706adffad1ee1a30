/- Facts and walks that the theorem stands on. -/
import Derived.Test.YtgcbmogmniahjaaGreatA24
import Derived.Deep.DeepCutAuto
namespace Go.Proofs.YtgcbmogmniahjaaGreat
open Go.Proofs.Tryz
set_option maxRecDepth 100000
set_option maxHeartbeats 6400000
open Go.RowKit Go.PlainAid
abbrev set12 (w:World) (b:Nat) (x0 x1 x2 x3 x4 x5 x6 x7 x8 x9 x10 x11:Value):World:=
 ((((((((((((w.setCell ⟨b,0,none⟩ x0).setCell ⟨b,1,none⟩ x1).setCell ⟨b,2,none⟩ x2).setCell ⟨b,3,none⟩ x3).setCell ⟨b,4,none⟩ x4).setCell ⟨b,5,none⟩ x5).setCell ⟨b,6,none⟩ x6).setCell ⟨b,7,none⟩ x7).setCell ⟨b,8,none⟩ x8).setCell ⟨b,9,none⟩ x9).setCell ⟨b,10,none⟩ x10).setCell ⟨b,11,none⟩ x11)
theorem zii (w:World) (a:Addr) (u:Value):(w.setCell a u).heap.size=w.heap.size:=by show (w.heap.modify _ _).size=_;simp
theorem zrD (w:World) (b:Nat) (z J N K A O I M H L h q:Value):(set12 w b z J N K A O I M H L h q).heap.size=w.heap.size:=by
 unfold set12;simp only[zii]
theorem zfL {w:World} {b k:Nat} (h:k≠b) (A K O L H U J N I M q z:Value):(set12 w b A K O L H U J N I M q z).heap[k]? =w.heap[k]?:=by
 unfold set12;rw[zv h,zv h,zv h,zv h,zv h,zv h,zv h,zv h,zv h,zv h,zv h,zv h]
structure Bx (gt:Nat) (S:Sv) (w:World) (b:Nat) (cs:Array Value):Prop where
 heap:w.heap[b]? =some (.cells cs 121 (0,0))
 free: ¬S.has b
 ne:b≠gt
theorem Bx.lt {gt b:Nat} {S:Sv} {w:World} {cs:Array Value} (h:Bx gt S w b cs):b<w.heap.size:=(aLt h.heap)
theorem Bx.stp {gt b:Nat} {S q:Sv} {w w':World} {cs:Array Value} (h:Bx gt S w b cs) (k:Stp S w q w'):Bx gt q w' b cs:=
 ⟨(k.block b h.lt h.free).trans h.heap,fun g=>(k.sub b g).elim h.free fun z=>by have:=h.lt;omega,h.ne⟩
theorem Bx.below {gt b:Nat} {S:Sv} {w w':World} {cs:Array Value} (h:Bx gt S w b cs) (k:Below w.heap.size w w'):Bx gt S w' b cs:=⟨(k.block b h.lt).trans h.heap,h.free,h.ne⟩
theorem Bx.alloc {gt b:Nat} {S:Sv} {w:World} {cs:Array Value} (h:Bx gt S w b cs) (o:Obj):Bx gt S (w.alloc o) b cs:=h.below ((Below.refl _ _).alloc (Nat.le_refl _) _)
theorem Bx.new {C:Cx} {gt cap base:Nat} {S:Sv} {q:PS} {w:World} (h:Mem C gt cap base S q w) (cs:Array Value):Bx gt S (w.alloc (.cells cs 121 (0,0))) w.heap.size cs:=
 ⟨heap_alloc_new w _,fun g=>by have:=(h.own.has g).2;omega,by have:=(zau h.tok).1;omega⟩
theorem Bx.set {gt b:Nat} {S:Sv} {w:World} {cs:Array Value} (h:Bx gt S w b cs) (i:Nat) (u:Value):Bx gt S (w.setCell ⟨b,i,none⟩ u) b (cs.setIfInBounds i u):=⟨zc2 h.heap,h.free,h.ne⟩
theorem Bx.set_other {gt b c:Nat} {S:Sv} {w:World} {cs:Array Value} (h:Bx gt S w b cs) (q:b≠c) (i:Nat) (u:Value):Bx gt S (w.setCell ⟨c,i,none⟩ u) b cs:=⟨(zv q).trans h.heap,h.free,h.ne⟩
theorem Bx.put {gt b:Nat} {S:Sv} {w:World} {v0 v1 v2 v3 v4 v5 v6 v7 v8 v9 v10 v11:Value} (h:Bx gt S w b #[v0,v1,v2,v3,v4,v5,v6,v7,v8,v9,v10,v11]) (A K O L H U J N I M q z:Value):
  Bx gt S (set12 w b A K O L H U J N I M q z) b #[A,K,O,L,H,U,J,N,I,M,q,z]:=⟨zbd h.heap,h.free,h.ne⟩
theorem Bx.other {gt b c:Nat} {S:Sv} {w:World} {cs:Array Value} (h:Bx gt S w b cs) (M:b≠c) (A K U L H V J O I N q z:Value):Bx gt S (set12 w c A K U L H V J O I N q z) b cs:=⟨(zfL M ..).trans h.heap,h.free,h.ne⟩
theorem Bx.at1 {gt b:Nat} {S:Sv} {w:World} {v0 v1 v2 v3 v4 v5 v6 v7 v8 v9 v10 v11:Value} (h:Bx gt S w b #[v0,v1,v2,v3,v4,v5,v6,v7,v8,v9,v10,v11]) (u:Value):Bx gt S (w.setCell ⟨b,1,none⟩ u) b #[v0,u,v2,v3,v4,v5,v6,v7,v8,v9,v10,v11]:=by simpa using h.set 1 u
theorem Bx.at11 {gt b:Nat} {S:Sv} {w:World} {v0 v1 v2 v3 v4 v5 v6 v7 v8 v9 v10 v11:Value} (h:Bx gt S w b #[v0,v1,v2,v3,v4,v5,v6,v7,v8,v9,v10,v11]) (u:Value):Bx gt S (w.setCell ⟨b,11,none⟩ u) b #[v0,v1,v2,v3,v4,v5,v6,v7,v8,v9,v10,u]:=by simpa using h.set 11 u
theorem Bx.box {gt b:Nat} {S:Sv} {w:World} {v0 v1 v2 v3 v4 v5 v6 v7 v8 v9 v10 v11:Value} (h:Bx gt S w b #[v0,v1,v2,v3,v4,v5,v6,v7,v8,v9,v10,v11]):Box w b v0 v1 v2 v3 v4 v5 v6 v7 v8 v9 v10 v11:=zap h.heap
theorem Mem.set {C:Cx} {gt cap base b:Nat} {S:Sv} {q:PS} {w:World} (h:Mem C gt cap base S q w) {cs:Array Value} (z:Bx gt S w b cs) (i:Nat) (u:Value):Mem C gt cap base S q (w.setCell ⟨b,i,none⟩ u):=
 ⟨h.own.keep fun k g=>zv (b:=k) fun e=>z.free (by rw[<-e];exact g),h.inv,zbI h.tok (zv z.ne.symm),h.few,by rw[zii];exact h.base⟩
theorem Mem.put {C:Cx} {gt cap base b:Nat} {S:Sv} {q:PS} {w:World} (h:Mem C gt cap base S q w) {cs:Array Value} (H:Bx gt S w b cs) (I M V N J X L U K O z A:Value):Mem C gt cap base S q (set12 w b I M V N J X L U K O z A):=
 ⟨h.own.keep fun k g=>zfL (k:=k) (fun e=>H.free (by rw[<-e];exact g)) _ _ _ _ _ _ _ _ _ _ _ _,h.inv,zbI h.tok (zfL H.ne.symm ..),h.few,by rw[zrD];exact h.base⟩
structure SB (B:Nat) (S:Sv) (w:World) (S':Sv) (w':World):Prop where
 os:w'.os=w.os
 tape:w'.tape=w.tape
 output:w'.output=w.output
 size:w.heap.size<=w'.heap.size
 low:B<=w.heap.size
 block: ∀k,k<B->¬S.has k->w'.heap[k]? =w.heap[k]?
 sub: ∀k,S'.has k->S.has k∨B<=k
theorem SB.start {S:Sv} {w w':World} (h:Below w.heap.size w w'):SB w.heap.size S w S w':=⟨h.os,h.tape,h.output,h.size,Nat.le_refl _,fun k q _=>h.block k q,fun _ g=>.inl g⟩
theorem SB.step {B:Nat} {S S1 z:Sv} {w w1 A:World} (h:SB B S w S1 w1) (k:Stp S1 w1 z A):SB B S w z A:=
 ⟨k.os.trans h.os,k.tape.trans h.tape,k.output.trans h.output,Nat.le_trans h.size k.size,h.low,
  fun i q H=>(k.block i (by have:=h.size;have:=h.low;omega) fun g=>(h.sub i g).elim H fun I=>by omega).trans (h.block i q H),
  fun i q=>(k.sub i q).elim (h.sub i) fun g=>.inr (by have:=h.size;have:=h.low;omega)⟩
theorem SB.below {B:Nat} {S S1:Sv} {w w1 q:World} (h:SB B S w S1 w1) (k:Below w1.heap.size w1 q):SB B S w S1 q:=h.step (Stp.below k)
theorem SB.alloc {B:Nat} {S S1:Sv} {w w1:World} (h:SB B S w S1 w1) (o:Obj):SB B S w S1 (w1.alloc o):=h.below ((Below.refl _ _).alloc (Nat.le_refl _) _)
theorem SB.set {B:Nat} {S S1:Sv} {w w1:World} (h:SB B S w S1 w1) {b:Nat} (A:B<=b) (i:Nat) (u:Value):SB B S w S1 (w1.setCell ⟨b,i,none⟩ u):=
 ⟨h.os,h.tape,h.output,by rw[zii];exact h.size,h.low,fun k q z=>(zv (by omega)).trans (h.block k q z),h.sub⟩
theorem SB.put {B:Nat} {S S1:Sv} {w w1:World} (h:SB B S w S1 w1) {b:Nat} (q:B<=b) (H L U M I V K O J N z A:Value):SB B S w S1 (set12 w1 b H L U M I V K O J N z A):=
 (((((((((((h.set q 0 H).set q 1 L).set q 2 U).set q 3 M).set q 4 I).set q 5 V).set q 6 K).set q 7 O).set q 8 J).set q 9 N).set q 10 z).set q 11 A
theorem SB.done {S S1:Sv} {w w1:World} (h:SB w.heap.size S w S1 w1):Stp S w S1 w1:=⟨h.os,h.tape,h.output,h.size,h.block,h.sub⟩
theorem Mem.two {C:Cx} {gt cap base:Nat} {S:Sv} {q:PS} {w w1:World} {A z:Array Value} (h:Mem C gt cap base S q w) (H:Below ((w.alloc (.cells A 121 (0,0))).alloc (.cells z 121 (0,0))).heap.size ((w.alloc (.cells A 121 (0,0))).alloc (.cells z 121 (0,0))) w1):
  Bx gt S w1 w.heap.size A/\Bx gt S w1 (w.heap.size+1) z/\Mem C gt cap base S q w1/\SB w.heap.size S w S w1:=
 ⟨((Bx.new h _).alloc _).below H,by have:=(Bx.new (h.alloc (.cells A 121 (0,0))) z).below H;rw[zg] at this;exact this,h.later (zbj H),SB.start (zbj H)⟩
theorem Mem.two2 {C:Cx} {gt cap base:Nat} {S S1:Sv} {q:PS} {w w1:World} {A z:Array Value} (h:Mem C gt cap base S q w) (s:Stp S ((w.alloc (.cells A 121 (0,0))).alloc (.cells z 121 (0,0))) S1 w1):
  Bx gt S1 w1 w.heap.size A/\Bx gt S1 w1 (w.heap.size+1) z/\SB w.heap.size S w S1 w1:=
 ⟨((Bx.new h _).alloc _).stp s,by have:=(Bx.new (h.alloc (.cells A 121 (0,0))) z).stp s;rw[zg] at this;exact this,(SB.start (zbe w _ _)).step s⟩
theorem Bx.boxC {gt b:Nat} {S:Sv} {w:World} {v0 v1 v2 v3 v4 v5 v6 v7 v8 v9 v10 v11:Value} (h:Bx gt S w b #[v0,v1,v2,v3,v4,v5,v6,v7,v8,v9,v10,v11]):w.cell? ⟨b,0,none⟩=some v0/\w.cell? ⟨b,1,none⟩=some v1/\w.cell? ⟨b,2,none⟩=some v2/\w.cell? ⟨b,3,none⟩=some v3/\w.cell? ⟨b,4,none⟩=some v4/\w.cell? ⟨b,5,none⟩=some v5/\w.cell? ⟨b,6,none⟩=some v6/\w.cell? ⟨b,7,none⟩=some v7/\w.cell? ⟨b,8,none⟩=some v8/\w.cell? ⟨b,9,none⟩=some v9/\w.cell? ⟨b,10,none⟩=some v10/\w.cell? ⟨b,11,none⟩=some v11/\∀i,w.frozen? ⟨b,i,none⟩=false:=
 have k:=h.box
 ⟨k.c0,k.c1,k.c2,k.c3,k.c4,k.c5,k.c6,k.c7,k.c8,k.c9,k.c10,k.c11,k.fz⟩
theorem Bx.ret {gt b:Nat} {S:Sv} {w:World} {v0 v1 v2 v3 v4 v5 v6 v7 v8 v9 v10 v11:Value} (h:Bx gt S w b #[v0,v1,v2,v3,v4,v5,v6,v7,v8,v9,v10,v11]) {q:Func} {p:Tmp} {tmps:Array Value} {R:Ending->World->Prop} (H:q.results= #[.cell p 121]) (z:tmps.getD p undef= .pointer (some ⟨b,0,none⟩)) (A:R (.returned (.agg #[v0,v1,v2,v3,v4,v5,v6,v7,v8,v9,v10,v11])) w):bodyPost prog q R .ret {tmps:=tmps,defers:=[]} w:=
 bodyPost_ret (results_cell_row H _ _ b 121 _ (0,0) _ z h.heap underlying121 rfl (by kernel_rfl)) rfl A
structure Fm (C:Cx) (gt cap base:Nat) (S0:Sv) (w0:World) (S:Sv) (q:PS) (bs:List (Nat×Array Value)) (w:World):Prop where
 x: ∀b∈bs,Bx gt S w b.1 b.2
 d:bs.Pairwise fun a b=>a.1≠b.1
 g: ∀b∈bs,w0.heap.size<=b.1
 m:Mem C gt cap base S q w
 t:SB w0.heap.size S0 w0 S w
section
variable {C:Cx} {gt cap base b b0 b1 b2 b3:Nat} {S0 S S1:Sv} {w0 w w1:World} {q q1:PS} {bs l1:List (Nat×Array Value)} {cs c0 c1 c2 c3:Array Value} {v0 v1 v2 v3 v4 v5 v6 v7 v8 v9 v10 v11:Value}
theorem Fm.x0 (F:Fm C gt cap base S0 w0 S q ((b0,c0)::bs) w):Bx gt S w b0 c0:=F.x _ (List.mem_cons_self ..)
theorem Fm.x1 (F:Fm C gt cap base S0 w0 S q ((b0,c0)::(b1,c1)::bs) w):Bx gt S w b1 c1:=F.x (b1,c1) (by simp)
theorem Fm.x2 (F:Fm C gt cap base S0 w0 S q ((b0,c0)::(b1,c1)::(b2,c2)::bs) w):Bx gt S w b2 c2:=F.x (b2,c2) (by simp)
theorem Fm.x3 (F:Fm C gt cap base S0 w0 S q ((b0,c0)::(b1,c1)::(b2,c2)::(b3,c3)::bs) w):Bx gt S w b3 c3:=F.x (b3,c3) (by simp)
theorem Fm.below (F:Fm C gt cap base S0 w0 S q bs w) (k:Below w.heap.size w w1):Fm C gt cap base S0 w0 S q bs w1:=⟨fun b h=>(F.x b h).below k,F.d,F.g,F.m.later k,F.t.below k⟩
theorem Fm.stp (F:Fm C gt cap base S0 w0 S q bs w) (m:Mem C gt cap base S1 q1 w1) (k:Stp S w S1 w1):Fm C gt cap base S0 w0 S1 q1 bs w1:=⟨fun b h=>(F.x b h).stp k,F.d,F.g,m,F.t.step k⟩
theorem Fm.alloc (F:Fm C gt cap base S0 w0 S q bs w) (o:Obj):Fm C gt cap base S0 w0 S q bs (w.alloc o):=F.below ((Below.refl _ _).alloc (Nat.le_refl _) _)
theorem Fm.adv (F:Fm C gt cap base S0 w0 S q bs w) (h:q.pos<C.ts.length):Fm C gt cap base S0 w0 S (adv q) bs w:=⟨F.x,F.d,F.g,F.m.adv h,F.t⟩
theorem Fm.new (F:Fm C gt cap base S0 w0 S q bs w) (cs:Array Value):Fm C gt cap base S0 w0 S q (bs++[(w.heap.size,cs)]) (w.alloc (.cells cs 121 (0,0))):=by
 refine⟨fun b h=>?_,?_,fun b h=>?_,F.m.alloc _,F.t.alloc _⟩
 ·rcases List.mem_append.1 h with h|h
  ·exact (F.x b h).alloc _
  ·rw[List.mem_singleton.1 h];exact Bx.new F.m cs
 ·refine List.pairwise_append.2 ⟨F.d,List.pairwise_singleton _ _,fun a z b A=>?_⟩;rw[List.mem_singleton.1 A];exact Nat.ne_of_lt (F.x a z).lt
 ·rcases List.mem_append.1 h with h|h
  ·exact F.g b h
  ·rw[List.mem_singleton.1 h];exact F.t.size
theorem Fm.new2 (F:Fm C gt cap base S0 w0 S q [(b0,c0),(b1,c1)] w) (cs:Array Value):Fm C gt cap base S0 w0 S q [(b0,c0),(b1,c1),(w.heap.size,cs)] (w.alloc (.cells cs 121 (0,0))):=F.new cs
theorem Fm.new3 (F:Fm C gt cap base S0 w0 S q [(b0,c0),(b1,c1),(b2,c2)] w) (cs:Array Value):Fm C gt cap base S0 w0 S q [(b0,c0),(b1,c1),(b2,c2),(w.heap.size,cs)] (w.alloc (.cells cs 121 (0,0))):=F.new cs
theorem Fm.turn (F:Fm C gt cap base S0 w0 S q (l1++(b,cs)::bs) w) (O:Bx gt S w1 b c0) (H: ∀k,k≠b->∀c,Bx gt S w k c->Bx gt S w1 k c) (J:Mem C gt cap base S q w1) (N:SB w0.heap.size S0 w0 S w1):Fm C gt cap base S0 w0 S q (l1++(b,c0)::bs) w1:=by
 obtain⟨L,K,z⟩:=List.pairwise_append.1 F.d;obtain⟨A,M⟩:=List.pairwise_cons.1 K;refine⟨fun a h=>?_,List.pairwise_append.2 ⟨L,List.pairwise_cons.2 ⟨A,M⟩,fun a I c U=>?_⟩,fun a h=>?_,J,N⟩
 ·rcases List.mem_append.1 h with h|h
  ·exact H _ (z a h _ (List.mem_cons_self ..)) _ (F.x a (List.mem_append_left _ h))
  ·rcases List.mem_cons.1 h with h|h
   ·rw[h];exact O
   ·exact H _ (A a h).symm _ (F.x a (List.mem_append_right _ (List.mem_cons_of_mem _ h)))
 ·rcases List.mem_cons.1 U with h|h
  ·rw[h];exact z a I (b,cs) (List.mem_cons_self ..)
  ·exact z a I c (List.mem_cons_of_mem _ h)
 ·rcases List.mem_append.1 h with h|h
  ·exact F.g a (List.mem_append_left _ h)
  ·rcases List.mem_cons.1 h with h|h
   ·rw[h];exact F.g (b,cs) (List.mem_append_right _ (List.mem_cons_self ..))
   ·exact F.g a (List.mem_append_right _ (List.mem_cons_of_mem _ h))
theorem Fm.put (F:Fm C gt cap base S0 w0 S q (l1++(b,#[v0,v1,v2,v3,v4,v5,v6,v7,v8,v9,v10,v11])::bs) w) (H L U M I V K O J N z A:Value):Fm C gt cap base S0 w0 S q (l1++(b,#[H,L,U,M,I,V,K,O,J,N,z,A])::bs) (set12 w b H L U M I V K O J N z A):=
 have h:Bx gt S w b #[v0,v1,v2,v3,v4,v5,v6,v7,v8,v9,v10,v11]:=F.x (b,_) (List.mem_append_right _ (List.mem_cons_self ..))
 F.turn (h.put ..) (fun _ X _ Y=>Y.other X ..) (F.m.put h ..) (F.t.put (F.g (b,_) (List.mem_append_right _ (List.mem_cons_self ..))) ..)
theorem Fm.put0 (F:Fm C gt cap base S0 w0 S q ((b,#[v0,v1,v2,v3,v4,v5,v6,v7,v8,v9,v10,v11])::bs) w) (A K O L H U J N I M h z:Value):Fm C gt cap base S0 w0 S q ((b,#[A,K,O,L,H,U,J,N,I,M,h,z])::bs) (set12 w b A K O L H U J N I M h z):=Fm.put (l1:=[]) F ..
theorem Fm.put1 (F:Fm C gt cap base S0 w0 S q ((b0,c0)::(b,#[v0,v1,v2,v3,v4,v5,v6,v7,v8,v9,v10,v11])::bs) w) (A K O L H U J N I M h z:Value):Fm C gt cap base S0 w0 S q ((b0,c0)::(b,#[A,K,O,L,H,U,J,N,I,M,h,z])::bs) (set12 w b A K O L H U J N I M h z):=Fm.put (l1:=[(b0,c0)]) F ..
theorem Fm.put2 (F:Fm C gt cap base S0 w0 S q ((b0,c0)::(b1,c1)::(b,#[v0,v1,v2,v3,v4,v5,v6,v7,v8,v9,v10,v11])::bs) w) (A K O L H U J N I M h z:Value):Fm C gt cap base S0 w0 S q ((b0,c0)::(b1,c1)::(b,#[A,K,O,L,H,U,J,N,I,M,h,z])::bs) (set12 w b A K O L H U J N I M h z):=Fm.put (l1:=[(b0,c0),(b1,c1)]) F ..
theorem Fm.put3 (F:Fm C gt cap base S0 w0 S q ((b0,c0)::(b1,c1)::(b2,c2)::(b,#[v0,v1,v2,v3,v4,v5,v6,v7,v8,v9,v10,v11])::bs) w) (A K O L H U J N I M h z:Value):Fm C gt cap base S0 w0 S q ((b0,c0)::(b1,c1)::(b2,c2)::(b,#[A,K,O,L,H,U,J,N,I,M,h,z])::bs) (set12 w b A K O L H U J N I M h z):=Fm.put (l1:=[(b0,c0),(b1,c1),(b2,c2)]) F ..
theorem Fm.set0_1 (F:Fm C gt cap base S0 w0 S q ((b,#[v0,v1,v2,v3,v4,v5,v6,v7,v8,v9,v10,v11])::bs) w) (u:Value):Fm C gt cap base S0 w0 S q ((b,#[v0,u,v2,v3,v4,v5,v6,v7,v8,v9,v10,v11])::bs) (w.setCell ⟨b,1,none⟩ u):=
 have h:Bx gt S w b #[v0,v1,v2,v3,v4,v5,v6,v7,v8,v9,v10,v11]:=F.x (b,_) (by simp)
 Fm.turn (l1:=[]) F (h.at1 u) (fun _ A _ z=>z.set_other A 1 u) (F.m.set h 1 u) (F.t.set (F.g (b,#[v0,v1,v2,v3,v4,v5,v6,v7,v8,v9,v10,v11]) (by simp)) 1 u)
theorem Fm.set0_11 (F:Fm C gt cap base S0 w0 S q ((b,#[v0,v1,v2,v3,v4,v5,v6,v7,v8,v9,v10,v11])::bs) w) (u:Value):Fm C gt cap base S0 w0 S q ((b,#[v0,v1,v2,v3,v4,v5,v6,v7,v8,v9,v10,u])::bs) (w.setCell ⟨b,11,none⟩ u):=
 have h:Bx gt S w b #[v0,v1,v2,v3,v4,v5,v6,v7,v8,v9,v10,v11]:=F.x (b,_) (by simp)
 Fm.turn (l1:=[]) F (h.at11 u) (fun _ A _ z=>z.set_other A 11 u) (F.m.set h 11 u) (F.t.set (F.g (b,#[v0,v1,v2,v3,v4,v5,v6,v7,v8,v9,v10,v11]) (by simp)) 11 u)
theorem Fm.set2_1 (F:Fm C gt cap base S0 w0 S q ((b0,c0)::(b1,c1)::(b,#[v0,v1,v2,v3,v4,v5,v6,v7,v8,v9,v10,v11])::bs) w) (u:Value):Fm C gt cap base S0 w0 S q ((b0,c0)::(b1,c1)::(b,#[v0,u,v2,v3,v4,v5,v6,v7,v8,v9,v10,v11])::bs) (w.setCell ⟨b,1,none⟩ u):=
 have h:Bx gt S w b #[v0,v1,v2,v3,v4,v5,v6,v7,v8,v9,v10,v11]:=F.x (b,_) (by simp)
 Fm.turn (l1:=[(b0,c0),(b1,c1)]) F (h.at1 u) (fun _ A _ z=>z.set_other A 1 u) (F.m.set h 1 u) (F.t.set (F.g (b,#[v0,v1,v2,v3,v4,v5,v6,v7,v8,v9,v10,v11]) (by simp)) 1 u)
theorem Fm.of2 (A:Bx gt S w b0 c0) (J:Bx gt S w b1 c1) (m:Mem C gt cap base S q w) (t:SB w0.heap.size S0 w0 S w) (h:b0≠b1) (I:w0.heap.size<=b0) (H:w0.heap.size<=b1):Fm C gt cap base S0 w0 S q [(b0,c0),(b1,c1)] w:=by
 refine⟨fun b z=>?_,by simp[h],fun b z=>?_,m,t⟩
 ·simp at z;rcases z with rfl|rfl
  ·exact A
  ·exact J
 ·simp at z;rcases z with rfl|rfl
  ·exact I
  ·exact H
theorem Fm.cut {P:Program} {z:Code} {Q:Exit->Act->World->Prop} {a:Act} (F:Fm C gt cap base S0 w0 S q bs w) (h: ∀W,Fm C gt cap base S0 w0 S q bs W->Code.wp P z Q a W):Code.wp P z Q a w:=h w F
theorem Fm.cutR {P:Program} {z:Code} {Q:Exit->Act->World->Prop} {a:Act} {RW:World->Prop} (F:Fm C gt cap base S0 w0 S q bs w) (r:RW w) (h: ∀W,Fm C gt cap base S0 w0 S q bs W->RW W->Code.wp P z Q a W):Code.wp P z Q a w:=h w F r
theorem Mem.fm {A z:Array Value} (h:Mem C gt cap base S q w) (H:Below ((w.alloc (.cells A 121 (0,0))).alloc (.cells z 121 (0,0))).heap.size ((w.alloc (.cells A 121 (0,0))).alloc (.cells z 121 (0,0))) w1):Fm C gt cap base S w S q [(w.heap.size,A),(w.heap.size+1,z)] w1:=
 have⟨h1,h2,h3,h4⟩:=h.two H
 Fm.of2 h1 h2 h3 h4 (by omega) (by omega) (by omega)
theorem Mem.fm2 {A z:Array Value} (h:Mem C gt cap base S q w) (m:Mem C gt cap base S1 q1 w1) (s:Stp S ((w.alloc (.cells A 121 (0,0))).alloc (.cells z 121 (0,0))) S1 w1):Fm C gt cap base S w S1 q1 [(w.heap.size,A),(w.heap.size+1,z)] w1:=
 have⟨h1,h2,h3⟩:=h.two2 s
 Fm.of2 h1 h2 m h3 (by omega) (by omega) (by omega)
end
theorem zlb {C:Cx} {gt cap base:Nat} {y:PR} {d:Nat} {S h:Sv} {w w':World} {q':PS} {z':Int} {v:Value} (z:v=pv C gt cap h q' z' d) (H:Is y q' z') (q:Mem C gt cap base h q' w') (A:SB w.heap.size S w h w'):Out C gt cap base y d S w (.returned v) w':=
 ⟨h,q',z',by rw[z],H,q,A.done⟩
theorem Fm.done {C:Cx} {gt cap base:Nat} {y:PR} {d:Nat} {S h:Sv} {w w':World} {q':PS} {z':Int} {v:Value} {bs:List (Nat×Array Value)} (F:Fm C gt cap base S w h q' bs w') (q:v=pv C gt cap h q' z' d) (z:Is y q' z'):Out C gt cap base y d S w (.returned v) w':=zlb q z F.m F.t
structure Row (S:Sv) (w:World) (base B:Nat) (r:Rw) (l:List Ep):Prop where
 own:OwnR w base 97 4 r l.length (l.flatMap epL)
 free: ∀k,r.blk=some k->¬S.has k
 new: ∀k,r.blk=some k->B<=k
 addr: ∃g,r.a=some ⟨g,0,none⟩
theorem Row.ne {q b:Nat} {S:Sv} {w:World} {base B:Nat} {r:Rw} {l:List Ep} {H:Array Value} (h:Row S w base B r l) (A:Bx q S w b H): ∀k,r.blk=some k->k≠b:=by
 rintro k z rfl;obtain⟨_,_,c,g⟩:=h.own.typed z;rw[A.heap] at g;simp only[Option.some.injEq,Obj.cells.injEq] at g;exact absurd g.2.1 (by decide)
theorem Row.stp {S z:Sv} {w w':World} {base B:Nat} {r:Rw} {l:List Ep} (h:Row S w base B r l) (s:Stp S w z w'):Row z w' base B r l:=
 ⟨h.own.keep fun k q=>s.block k (h.own.typed q).2.1 (h.free k q),fun k q g=>(s.sub k g).elim (h.free k q) fun A=>by have:=(h.own.typed q).2.1;omega,h.new,h.addr⟩
theorem Row.below {S:Sv} {w w':World} {base B:Nat} {r:Rw} {l:List Ep} (h:Row S w base B r l) (s:Below w.heap.size w w'):Row S w' base B r l:=h.stp (Stp.below s)
theorem Row.alloc {S:Sv} {w:World} {base B:Nat} {r:Rw} {l:List Ep} (h:Row S w base B r l) (o:Obj):Row S (w.alloc o) base B r l:=h.below ((Below.refl _ _).alloc (Nat.le_refl _) _)
theorem Row.drew {S:Sv} {w:World} {base B:Nat} {r:Rw} {l:List Ep} (h:Row S w base B r l):Row S w.drew base B r l:=⟨h.own,h.free,h.new,h.addr⟩
theorem Row.set {q b:Nat} {S:Sv} {w:World} {base B:Nat} {r:Rw} {l:List Ep} {H:Array Value} (h:Row S w base B r l) (A:Bx q S w b H) (i:Nat) (u:Value):Row S (w.setCell ⟨b,i,none⟩ u) base B r l:=
 ⟨h.own.keep fun k z=>zv (h.ne A k z),h.free,h.new,h.addr⟩
theorem Row.put {V b:Nat} {S:Sv} {w:World} {base B:Nat} {r:Rw} {l:List Ep} {K:Array Value} (h:Row S w base B r l) (U:Bx V S w b K) (H N Y O J Z M X L A q z:Value):Row S (set12 w b H N Y O J Z M X L A q z) base B r l:=
 ⟨h.own.keep fun k I=>zfL (h.ne U k I) _ _ _ _ _ _ _ _ _ _ _ _,h.free,h.new,h.addr⟩
theorem Row.nil {C:Cx} {H z base B:Nat} {S:Sv} {q:PS} {w:World} (h:Mem C H z base S q w) (hB:B<=w.heap.size):Row S (w.alloc (.cells #[] 97 (0,0))) base B ⟨some ⟨w.heap.size,0,none⟩,0⟩ []:=by
 refine⟨World.ownsRow_lit w #[] 0 h.base (by unfold maxLen;omega) rfl,fun k A g=>?_,fun k A=>?_,⟨_,rfl⟩⟩
 ·simp only[Rw.blk,Value.ownBlock,Option.some.injEq] at A;have:=(h.own.has g).2;omega
 ·simp only[Rw.blk,Value.ownBlock,Option.some.injEq] at A;omega
theorem Row.grow {C:Cx} {K H base B:Nat} {S:Sv} {q:PS} {W w':World} {r J:Rw} {l:List Ep} {x:Ep} (h:Row S W base B r l) (A:Mem C K H base S q W) (hB:B<=W.heap.size) (O:W.grownBy w' r.blk) (N:OwnR w' base 97 4 J (l.length+1) (l.flatMap epL++epL x)) (I:J.blk=r.blk∨J.blk=some W.heap.size):
  Row S w' base B J (l++[x])/\Mem C K H base S q w':=by
 refine⟨⟨?_,fun k z g=>?_,fun k z=>?_,N.addr.resolve_left (by omega)⟩,?_⟩
 ·have e:(l++[x]).length=l.length+1:=by simp
  rw[e]
  simpa using N
 ·rcases I with e|e
  ·exact h.free k (by rw[<-e];exact z) g
  ·have U:W.heap.size=k:=Option.some.inj (e.symm.trans z);have:=(A.own.has g).2;omega
 ·rcases I with e|e
  ·exact h.new k (by rw[<-e];exact z)
  ·have U:W.heap.size=k:=Option.some.inj (e.symm.trans z);omega
 ·have w: ∀k,k<W.heap.size->r.blk≠some k->w'.heap[k]? =W.heap[k]?:=fun k z L=>O.block k z fun e=>L e.symm;refine⟨A.own.keep fun k z=>w k (A.own.has z).2 fun e=>h.free k e z,A.inv,zbI A.tok (w K (zau A.tok).1 fun e=>?_),A.few,Nat.le_trans A.base O.size⟩;obtain⟨_,_,c,g⟩:=h.own.typed e;obtain⟨V,M⟩:=zgf A.tok;rw[g] at M;simp only[Option.some.injEq,Obj.cells.injEq] at M;exact absurd M.2.1 (by decide)
theorem Row.bx {w b:Nat} {S:Sv} {W w':World} {base B:Nat} {r:Rw} {l:List Ep} {z:Array Value} (h:Row S W base B r l) (q:Bx w S W b z) (A:W.grownBy w' r.blk):Bx w S w' b z:=
 ⟨(A.block b q.lt fun e=>h.ne q b e.symm rfl).trans q.heap,q.free,q.ne⟩
theorem Row.sb {S S0:Sv} {w W w':World} {base:Nat} {B:Nat} {r:Rw} {l:List Ep} (h:Row S W base B r l) (q:SB B S0 w S W) (z:W.grownBy w' r.blk):SB B S0 w S w':=
 ⟨z.os.trans q.os,z.tape.trans q.tape,z.output.trans q.output,Nat.le_trans q.size z.size,q.low,fun k A H=>(z.block k (by have:=q.size;have:=q.low;omega) fun e=>by have:=h.new k e.symm;omega).trans (q.block k A H),q.sub⟩
theorem Mem.list3 {C:Cx} {K J base:Nat} {S A:Sv} {q:PS} {w z:World} {I H:Array Value} (h:Mem C K J base S q w) (s:Stp S (((w.alloc (.cells I 121 (0,0))).alloc (.cells H 121 (0,0))).alloc (.cells #[] 97 (0,0))) A z):
  Bx K A z w.heap.size I/\Bx K A z (w.heap.size+1) H/\Row A z base w.heap.size ⟨some ⟨w.heap.size+1+1,0,none⟩,0⟩ []/\SB w.heap.size S w A z:=by
 refine⟨(((Bx.new h _).alloc _).alloc _).stp s,?_,?_,(SB.start (zdh w _ _ _)).step s⟩
 ·have:=((Bx.new (h.alloc (.cells I 121 (0,0))) H).alloc (.cells #[] 97 (0,0))).stp s;rw[zg] at this;exact this
 ·have:=(Row.nil (B:=w.heap.size) ((h.alloc (.cells I 121 (0,0))).alloc (.cells H 121 (0,0))) (zbe w _ _).size).stp s;rw[zcS] at this;exact this
def Is3 (y:PRL) (q:PS) (z:Int) (l:List Ep):Prop:=
 match y with
 | .ok a=>q=a.1/\z= -1/\l=a.2
 | .error e=>z=(e:Int)
def zrE (C:Cx) (gt cap base:Nat) (y:PRL) (d:Nat) (S:Sv) (w:World) (e:Ending) (w':World):Prop:=
 ∃S' q' z' r l,e= .returned (.tuple #[pv C gt cap S' q' z' d,.slice r.a l.length r.cap,.bool (zaH l)])/\Is3 y q' z' l/\Mem C gt cap base S' q' w'/\Stp S w S' w'/\Row S' w' base w.heap.size r l/\l.length<=4001
theorem zlc (l:List Ep) (x:Ep):zaH (l++[x])=(zaH l||(x.loc.toList==[100,101,102,97,117,108,116])):=by simp[zaH]
theorem zrF {z:Func} {p u v:Tmp} {A:TypeId} (h:z.results= #[.cell p A,.tmp u,.tmp v]) (tmps:Array Value) (P:Program) (w:World):
  (results z tmps).run P w=((asAddr (tmps.getD p undef)).run P w).andThen fun a w'=>((loadVar A a).run P w').andThen fun x q=>.ok (.tuple #[x,tmps.getD u undef,tmps.getD v undef]) q:=by
 simp only[results,h];simp[Sem.run_bind,Result.andThen]
theorem zld {P:Program} {A:Func} {p u v:Tmp} {z:TypeId} (h:A.results= #[.cell p z,.tmp u,.tmp v]) (tmps:Array Value) (w:World) (g:Nat) (t:TypeId) (q:Array Value) (H:Nat×Nat) (d:TypeDesc)
  (J:tmps.getD p undef= .pointer (some ⟨g,0,none⟩)) (L:w.heap[g]? =some (.cells q t H))
  (K:P.underlying z=some d) (I:(match d with| .struct _| .array _ _=>true|_=>false)=true) (M:(P.info? z).map (·.size)=some q.size):
  (results A tmps).run P w= .ok (.tuple #[.agg q,tmps.getD u undef,tmps.getD v undef]) w:=by
 rw[zrF h,J];simp[asAddr,Result.andThen,run_loadVar_row w g t z q H d L K I M]
theorem zby {C:Cx} {x:PR} {k:Int} {s:BA} {q:PS} {z:Int} (h:Is (bd x (zd C k s)) q z):z<0->1<=q.pos:=by
 intro A;obtain⟨e,_⟩:=zaJ h A;obtain⟨a,_,w⟩:=zn e;obtain⟨rfl,_⟩:=zbV w;simp[adv]
theorem zij (C:Cx) (H h base:Nat) (S:Sv) (q:PS) (d:Nat) (A:BA) (w:World) (O:Mem C H h base S q w) (hp:1<=q.pos):
  Calls prog 205 #[pv C H h S q (-1) d,.string A] w (Out C H h base (zbG C A q) d S w):=by
 have Z:=zc O;have z:=O.tok;have I:=O.few;clear O;cases N:isT C q.pos 4 zp with
 |true=>
  have Y:Hid (zbG C A q=bd (bd (bd (.ok q) (zd C 4 zp)) (zd C 4 za8)) (zR C ⟨3,0,A,sNone,0,0⟩)):=if_pos N;unfold pv;go_enter func205,ntmps205;go_wp2_with fail;refine (zk C H h base S q (-1) d 4 zp _ (zr (zr z _) _) I (by decide)).mono ?_;rintro e w1 ⟨rfl,K⟩;rw[N];have F:=Z.o.fm K;clear z;have L:=F.x0.boxC;go_wp2_with fail;refine (zaj C H h base (.ok q) S q (-1) d zp _ (zab q) F.m).mono ?_;rintro e w2 ⟨S2,q2,z2,rfl,J,U,V⟩;replace F:=F.stp U V;clear L;go_wp2_with fail;refine (zaj C H h base _ S2 q2 z2 d za8 _ J.o F.m).mono ?_;rintro e w3 ⟨S3,q3,z3,rfl,M,m3,s3⟩;replace F:=F.stp m3 s3;have L:=F.x0.boxC;unfold pv;go_wp2_with fail;refine (zdi C H h base _ S3 q3 z3 d ⟨3,0,A,sNone,0,0⟩ _ M.o (F.put0 ..).m (zby M.o)).mono ?_;rintro e w4 ⟨S4,q4,z4,rfl,X,m4,s4⟩;replace F:=(F.put0 ..).stp m4 s4;clear L;have bb:=F.x1.boxC;unfold pv;go_wp2;refine (F.x1.put ..).ret rfl rfl ?_;rw[Y.o];exact (F.put1 ..).done rfl X.o
 |false=>
  have Y:Hid (zbG C A q=bd (.ok q) (zR C ⟨2,0,A,sNone,0,0⟩)):=by show zbG C A q=_;rw[zbG,N];rfl
  unfold pv;go_enter func205,ntmps205;go_wp2_with fail;refine (zk C H h base S q (-1) d 4 zp _ (zr (zr z _) _) I (by decide)).mono ?_;rintro e w1 ⟨rfl,K⟩;rw[N];have F:=Z.o.fm K;clear z;have L:=F.x0.boxC;go_wp2_with fail;refine (zdi C H h base (.ok q) S q (-1) d ⟨2,0,A,sNone,0,0⟩ _ (zab q) F.m (fun _=>hp)).mono ?_;rintro e w2 ⟨S2,q2,z2,rfl,J,U,V⟩;replace F:=F.stp U V;clear L;have bb:=F.x1.boxC;unfold pv;go_wp2;refine (F.x1.put ..).ret rfl rfl ?_;rw[Y.o];exact (F.put1 ..).done rfl J.o
theorem zrG {C:Cx} {q:Bool} {l:List Ep} {Y:PRN} {L A:BA} {O N z:PS} {V J I:Int} (U:Is2 Y O V L) (w:Is2 (bd Y (asP C q)) N J A) (K:(decide (J<0)&&isT C N.pos 4 zbF)=false) (h:Is (bd (zaT (bd Y (asP C q))) (zd C 4 zb1)) z I):
  Is3 (bd Y fun a=>bd (asP C q a) fun b=>if isT C b.1.pos 4 zbF then za4 C q (adv b.1) (l++[⟨0,b.2,a.2,sNone⟩]) else bd (zd C 4 zb1 b.1) fun q'=>.ok (q',l++[⟨0,b.2,a.2,sNone⟩])) z I (l++[⟨0,A,L,sNone⟩]):=by
 cases Y with
 |error e=>exact h
 |ok a=>
  obtain⟨_,_,rfl⟩:=U;rw[zA] at w h ⊢;cases M:asP C q a with
  |error e=>rw[M] at h;exact h
  |ok b=>
   rw[M] at w h;obtain⟨rfl,rfl,rfl⟩:=w;rw[Bool.and_eq_false_iff] at K;rw[zA,K.resolve_left (by decide)];have e:bd (zaT (.ok b)) (zd C 4 zb1)=zd C 4 zb1 b.1:=rfl;rw[e] at h;show Is3 (bd (zd C 4 zb1 b.1) _) _ _ _;cases H:zd C 4 zb1 b.1 with
   |error e=>rw[H] at h;exact h
   |ok c=>rw[H] at h;exact⟨h.1,h.2,rfl⟩
theorem zrH {C:Cx} {w:Bool} {l:List Ep} {z N H:PS} {M L:BA} {U A:Int} (J:Is2 (bd (.ok z) (zm C true)) N U M) (h:Is2 (bd (bd (.ok z) (zm C true)) (asP C w)) H A L) (V:A<0) (O:isT C H.pos 4 zbF=true):
  (bd (.ok z) fun q=>za4 C w q l)=(bd (.ok (adv H)) fun q=>za4 C w q (l++[⟨0,L,M,sNone⟩]))/\z.pos+1<=H.pos:=by
 rw[zA] at J h ⊢;rw[zA,zgg];cases I:zm C true z with
 |error e=>rw[I] at h;have:A=(e:Int):=h;omega
 |ok a=>
  rw[I] at J h;obtain⟨_,_,rfl⟩:=J;rw[zA] at h ⊢;obtain⟨rfl,_⟩:=zb2 I;cases K:asP C w (adv z,(ze C z.pos).text) with
  |error e=>rw[K] at h;have:A=(e:Int):=h;omega
  |ok b=>
   rw[K] at h;obtain⟨rfl,rfl,rfl⟩:=h;have:=zft K;rw[zA,O];exact⟨rfl,this⟩
theorem zrI {C:Cx} {h:Bool} {x:PR} {q w:PS} {z A:Int} {l:List Ep} (I:Is x q z) (J: ¬z<0) (H:Is (bd x (zd C 4 zb1)) w A):Is3 (bd x fun q=>za4 C h q l) w A l:=by
 obtain⟨e,rfl,_⟩:=zd9 I J;exact H
theorem zrJ {C:Cx} {h:Bool} {Y:PRN} {q A:PS} {w z:Int} {L J:BA} (H:Is2 Y q w L) (I:(decide (w<0)&&isT C q.pos 1 sAs)=true) (K:Is2 (bd (.ok (adv q)) (zm C h)) A z J):Is2 (bd Y (asP C h)) A z J:=by
 rw[Bool.and_eq_true,decide_eq_true_eq] at I;cases Y with
 |error e=>have:w=(e:Int):=H;omega
 |ok a=>
  obtain⟨rfl,_,_⟩:=H;rw[zA,asP,if_pos I.2];exact K
theorem zrK {C:Cx} {z:Bool} {Y:PRN} {q:PS} {w:Int} {A:BA} (H:Is2 Y q w A) (I:(decide (w<0)&&isT C q.pos 1 sAs)=false) (J:((A.toList==[100,101,102,97,117,108,116])&& !z)=true):Is2 (bd Y (asP C z)) q (zb7 C q.pos w) A:=by
 cases Y with
 |error e=>
  have h:w=(e:Int):=H;show zb7 C q.pos w=(e:Int);rw[zb7,if_neg (by omega)];exact h
 |ok a=>
  obtain⟨rfl,rfl,rfl⟩:=H;rw[Bool.and_eq_false_iff] at I;rw[zA,asP,I.resolve_left (by decide),J];rfl
theorem zle {C:Cx} {h:Bool} {Y:PRN} {q:PS} {w:Int} {z:BA} (A:Is2 Y q w z) (H:(decide (w<0)&&isT C q.pos 1 sAs)=false) (I:((z.toList==[100,101,102,97,117,108,116])&& !h)=false):Is2 (bd Y (asP C h)) q w z:=by
 cases Y with
 |error e=>exact A
 |ok a=>
  obtain⟨rfl,rfl,rfl⟩:=A;rw[Bool.and_eq_false_iff] at H;rw[zA,asP,H.resolve_left (by decide),I];exact⟨rfl,rfl,rfl⟩
theorem zlf (C:Cx) (I z base:Nat) (S:Sv) (q:PS) (d:Nat) (N:Bool) (w:World) (hm:Mem C I z base S q w):
  Calls prog 152 #[pv C I z S q (-1) d,.bool N] w (zrE C I z base (zde C N q) d S w):=by
 obtain⟨i0,hi,au,az,aw⟩:=info_parts Tryz.infoExp;have HM:=zc hm;have O:=hm.few;clear hm;unfold pv;go_enter func152,ntmps152;go_wp2_with fail;refine (zaj C I z base (.ok q) S q (-1) d zN _ (zab q) (((HM.o.alloc _).alloc _).alloc _)).mono ?_;rintro e w1 ⟨S1,q1,z1,rfl,ap,m1,s1⟩;obtain⟨X0,X1,R0,t1⟩:=HM.o.list3 s1;have F:=Fm.of2 X0 X1 m1 t1 (by omega) (by omega) (by omega);have h:=zc R0;clear m1 s1 X0 X1 R0 t1;have A:=F.x0.boxC;unfold pv;go_wp2;go_loopg [7,8] (C.ts.length+1) (fun k o an wr=>∃(x':PR) (L:Sv) (X:PS) (z':Int) (r:Rw) (l:List Ep),Is x' X z'/\bd x' (fun q=>za4 C N q l)=zde C N q/\(z'<0->C.ts.length-X.pos<k)/\(l.length<=X.pos∨l=[])/\o= .slice r.a l.length r.cap/\an= .bool (zaH l)/\Mem C I z base L X wr/\SB w.heap.size S w L wr/\Bx I L wr w.heap.size #[.slice (some ⟨I,0,none⟩) C.ts.length z,.int .i64 X.pos,.int .i64 C.fin,.bool C.scr,.slice L.rq.a X.rq.length L.rq.cap,.slice L.im.a X.im.length L.im.cap,.slice L.ep.a X.ep.length L.ep.cap,.slice L.st.a X.st.length L.st.cap,.slice L.ex.a X.ex.length L.ex.cap,.slice L.la.a X.la.length L.la.cap,.int .i64 z',.int .i64 d]/\Bx I L wr (w.heap.size+1) #[.slice none 0 0,.int .i64 0,.int .i64 0,.bool false,.slice none 0 0,.slice none 0 0,.slice none 0 0,.slice none 0 0,.slice none 0 0,.slice none 0 0,.int .i64 0,.int .i64 0]/\Row L wr base w.heap.size r l)
 case atStart=>exact⟨_,S1,q1,z1,_,[],ap.o,rfl,fun _=>by omega,.inr rfl,rfl,rfl,(F.put0 ..).m,(F.put0 ..).t,(F.put0 ..).x0,(F.put0 ..).x1,(h.o.put F.x0 ..)⟩
 case round=>
  obtain⟨x2,S2,q2,z2,r,l,i2,e2,l2,n2,rfl,rfl,m2,t2,X0,X1,R0⟩:=hrel;have F:=Fm.of2 X0 X1 m2 t2 (by omega) (by omega) (by omega);have ad:=zc i2;have ae:=zc e2;have av:=zc l2;have h:=zc R0;have aD:l.length<=4000:=n2.elim (fun g=>by have:=m2.inv.pos;omega) (fun g=>by rw[g];simp);have ar:=zc n2;clear X0 X1 i2 m2 t2 e2 l2 R0 n2;by_cases hz:z2<0
  ·skip
   obtain⟨rfl,rfl⟩:=zaJ ad.o hz;have aE:=av.o hz;have A:=F.x0.boxC;go_wp2_with fail;refine (zbq C I z base (.ok q2) S2 q2 (-1) d true _ (zab q2) F.m).mono ?_;rintro e w3 ⟨Y,U,z3,V,rfl,J,m3,s3⟩;replace h:=zc (h.o.stp s3);replace F:=F.stp m3 s3;clear A;have aC:w.heap.size+1<w3.heap.size:=F.x1.lt;unfold pv;go_upto_region 6 with fail;refine (F.new2 _).cutR (RW:=fun W=>Row Y W base w.heap.size r l) (h.o.alloc _) ?_;clear h;intro w4 F R0;have h:=zc R0;clear R0;have A:=F.x0.boxC;have cb:=F.x2.boxC;go_upto_region 7 with fail;refine (F.put0 ..).cutR (RW:=fun W=>Row Y W base w.heap.size r l) (h.o.put F.x0 ..) ?_;clear A cb;clear h;intro w5 F R0;have h:=zc R0;clear R0
   skip
   have A:=F.x0.boxC
   skip
   go_wp2_with fail;refine (zk C I z base Y U z3 d 1 sAs _ F.m.tok O (by decide)).mono ?_;rintro e w6 ⟨rfl,ag⟩;replace h:=zc (h.o.below ag);replace F:=F.below ag;clear A;go_upto_if 28 with fail
   go_cut [11] (fun ao wx=>∃(H:Sv) (K:PS) (z5:Int) (Z:BA),ao= .string Z/\Is2 (bd (bd (.ok q2) (zm C true)) (asP C N)) K z5 Z/\Mem C I z base H K wx/\SB w.heap.size S w H wx/\Bx I H wx w.heap.size #[.slice (some ⟨I,0,none⟩) C.ts.length z,.int .i64 K.pos,.int .i64 C.fin,.bool C.scr,.slice H.rq.a K.rq.length H.rq.cap,.slice H.im.a K.im.length H.im.cap,.slice H.ep.a K.ep.length H.ep.cap,.slice H.st.a K.st.length H.st.cap,.slice H.ex.a K.ex.length H.ex.cap,.slice H.la.a K.la.length H.la.cap,.int .i64 z5,.int .i64 d]/\Bx I H wx (w.heap.size+1) #[.slice none 0 0,.int .i64 0,.int .i64 0,.bool false,.slice none 0 0,.slice none 0 0,.slice none 0 0,.slice none 0 0,.slice none 0 0,.slice none 0 0,.int .i64 0,.int .i64 0]/\Row H wx base w.heap.size r l)
   case first=>
    cases hb:(decide (z3<0)&&isT C U.pos 1 sAs) with
    |true=>
     have al:U.pos<C.ts.length:=by rw[Bool.and_eq_true] at hb;exact za9 hb.2 (by decide)
     have A:=F.x0.boxC;have am:z3= -1:=by rw[Bool.and_eq_true,decide_eq_true_eq] at hb;exact (zaJ J.o.fst hb.1).2
     subst am;go_wp2_with fail;refine (zbq C I z base (.ok (adv U)) Y (adv U) (-1) d N _ (zab _) ((F.adv al).set0_1 _).m).mono ?_;rintro e w7 ⟨S7,q7,z7,n7,rfl,aq,m7,s7⟩;replace h:=zc ((h.o.set F.x0 1 _).stp s7);replace F:=(F.set0_1 _).stp m7 s7;clear A;have aB:w.heap.size+1<w7.heap.size:=F.x1.lt;have aj:w3.heap.size<w7.heap.size:=F.x2.lt;unfold pv;go_upto_region 11 with fail;refine (F.new3 _).cutR (RW:=fun W=>Row S7 W base w.heap.size r l) (h.o.alloc _) ?_;clear h;intro w8 F R0;have h:=zc R0;clear R0;have A:=F.x0.boxC;have db:=F.x3.boxC;go_wp2;go_meet
     case rel=>exact⟨S7,q7,z7,n7,rfl,zrJ J.o hb aq.o,(F.put0 ..).m,(F.put0 ..).t,(F.put0 ..).x0,(F.put0 ..).x1,(h.o.put F.x0 ..)⟩
    |false=>
     cases e3:(V.toList==[100,101,102,97,117,108,116]) with
     |true=>
      cases N with
      |false=>
       have A:=F.x0.boxC;go_wp2_with fail;refine (zd7 C I z base Y U z3 d _ F.m.tok O).mono ?_;rintro e w7 ⟨rfl,M⟩;replace h:=zc (h.o.below M);replace F:=F.below M;clear A;have A:=F.x0.boxC;unfold pv;go_wp2;go_meet
       case rel=>exact⟨Y,U,(zb7 C U.pos z3),V,rfl,zrK J.o hb (by rw[e3];rfl),(F.put0 ..).m,(F.put0 ..).t,(F.put0 ..).x0,(F.put0 ..).x1,(h.o.put F.x0 ..)⟩
      |true=>
       have A:=F.x0.boxC;go_wp2;go_meet
       case rel=>exact⟨Y,U,z3,V,rfl,zle J.o hb (by rw[e3];rfl),F.m,F.t,F.x0,F.x1,h.o⟩
     |false=>
      have A:=F.x0.boxC;go_wp2;go_meet
      case rel=>exact⟨Y,U,z3,V,rfl,zle J.o hb (by rw[e3];rfl),F.m,F.t,F.x0,F.x1,h.o⟩
   case rest=>
    obtain⟨H,K,z5,Z,rfl,i5,m5,t5,X0,X1,R0⟩:=hcut;clear h;have F:=Fm.of2 X0 X1 m5 t5 (by omega) (by omega) (by omega);have aa:=zc i5;have h:=zc R0;clear X0 X1 i5 m5 t5 R0;go_upto_region 15 with fail;go_cut [8] (fun s8 wx=>s8= .bool (zaH l||(V.toList==[100,101,102,97,117,108,116]))/\wx=wc)
    case first=>
     cases ha:zaH l with
     |true=>
      go_wp2;go_meet
      case rel=>exact⟨by rw[ha];rfl,rfl⟩
     |false=>
      cases e3:(V.toList==[100,101,102,97,117,108,116]) with
      |true=>
       go_wp2;go_meet
       case rel=>exact⟨by rw[ha,e3];rfl,rfl⟩
      |false=>
       go_wp2;go_meet
       case rel=>exact⟨by rw[ha,e3];rfl,rfl⟩
    case rest=>
     obtain⟨rfl,rfl⟩:=hcut;have ac:=fun o=>h.o.own.alloc o;have ak:=F.m.base;go_wp2_with (at_builtin;refine zbb _ rfl _ _ 50 rfl base 97 i0 _ 4 56 underlying50 hi au az aw rfl (by decide) (by decide) r l.length _ (by rfl) (ac _) wc.heap.size (epL ⟨0,Z,V,sNone⟩) (by rfl) (by exact heap_alloc_new wc _) rfl (by intro u hu;simp[epL] at hu;rcases hu with rfl|rfl|rfl|rfl<;>rfl) (by omega) (by rw[zg];omega) ?_);intro r' w6 hr hg ah;obtain⟨R6,m6⟩:=(h.o.alloc _).grow (x:=⟨0,Z,V,sNone⟩) (F.alloc _).m (by rw[zg];have:=F.t.size;omega) hg hr (by rw[zg];exact ah);replace F:=Fm.of2 ((h.o.alloc _).bx (F.x0.alloc _) hg) ((h.o.alloc _).bx (F.x1.alloc _) hg) m6 ((h.o.alloc _).sb (F.t.alloc _) hg) (by omega) (by omega) (by omega);clear h hr hg ah ac ak m6;have h:=zc R6;clear R6;cases hc:(decide (z5<0)&&isT C K.pos 4 zbF) with
     |true=>
      have A:=F.x0.boxC;go_wp2_with fail;refine (zk C I z base H K z5 d 4 zbF _ F.m.tok O (by decide)).mono ?_;rintro e w7 ⟨rfl,M⟩;rw[hc];replace h:=zc (h.o.below M);replace F:=F.below M;clear A;rw[Bool.and_eq_true,decide_eq_true_eq] at hc;obtain⟨af,ai⟩:=hc;have ax:K.pos<C.ts.length:=za9 ai (by decide);obtain⟨E5,P5⟩:=zrH (l:=l) J.o aa.o af ai;have HE:=zc E5;obtain rfl:z5= -1:=(zaJ aa.o.fst af).2;have ay:Hid ((l++[(⟨0,Z,V,sNone⟩:Ep)]).length<=K.pos+1∨l++[(⟨0,Z,V,sNone⟩:Ep)]=[]):=.inl (by simp only[List.length_append,List.length_singleton];exact ar.o.elim (fun g=>by omega) (fun g=>by rw[g];simp));clear E5;have A:=F.x0.boxC;go_wp2;go_roundg (gk-1)
      case rel=>exact⟨.ok (adv K),H,adv K,-1,r',l++[⟨0,Z,V,sNone⟩],zab _,by rw[<-ae.o];exact HE.o.symm,fun _=>by rw[zz];omega,ay.o,by simp,by rw[zlc],((F.adv ax).set0_1 _).m,(F.t.set (by omega) 1 _),(F.x0.at1 _),(F.x1.set_other (by omega) 1 _),(h.o.set F.x0 1 _)⟩
      case measure=>omega
     |false=>
      have A:=F.x0.boxC;go_wp2_with fail;refine (zk C I z base H K z5 d 4 zbF _ F.m.tok O (by decide)).mono ?_;rintro e w7 ⟨rfl,M⟩;rw[hc];replace h:=zc (h.o.below M);replace F:=F.below M;clear A;have A:=F.x0.boxC;go_wp2_with fail;refine (zaj C I z base _ H K z5 d zb1 _ aa.o.fst F.m).mono ?_;rintro e w8 ⟨S8,q8,z8,rfl,aA,m8,s8⟩;replace h:=zc (h.o.stp s8);replace F:=F.stp m8 s8;clear A;have bb:=F.x1.boxC;unfold pv;go_wp2;refine bodyPost_ret (zld rfl _ _ (w.heap.size+1) 121 _ (0,0) _ rfl ((F.x1.put ..)).heap underlying121 rfl (by kernel_rfl)) rfl ?_;exact⟨S8,q8,z8,r',l++[⟨0,Z,V,sNone⟩],by simp[pv,zlc],by rw[<-ae.o,zA,zgg];exact zrG J.o aa.o hc aA.o,(F.put1 ..).m,(F.put1 ..).t.done,(h.o.put F.x1 ..),by simp;omega⟩
  ·skip
   have A:=F.x0.boxC;go_wp2_with fail;refine (zaj C I z base _ S2 q2 z2 d zb1 _ ad.o F.m).mono ?_;rintro e w3 ⟨Y,U,z3,rfl,J,m3,s3⟩;replace h:=zc (h.o.stp s3);replace F:=F.stp m3 s3;clear A;have bb:=F.x1.boxC;unfold pv;go_wp2;refine bodyPost_ret (zld rfl _ _ (w.heap.size+1) 121 _ (0,0) _ rfl ((F.x1.put ..)).heap underlying121 rfl (by kernel_rfl)) rfl ?_;exact⟨Y,U,z3,r,l,rfl,by rw[<-ae.o];exact zrI ad.o (by omega) J.o,(F.put1 ..).m,(F.put1 ..).t.done,(h.o.put F.x1 ..),by omega⟩
def SumOK (C:Cx) (gt cap base m:Nat):Prop:=∀(x:PR) (S:Sv) (q:PS) (z:Int) (d:Nat) (w:World),Is x q z->Mem C gt cap base S q w->(z<0->C.ts.length-q.pos<m)->d<=20->
 Calls prog 119 #[pv C gt cap S q z d] w (Out C gt cap base (bd x (pE C .sum d)) d S w)
theorem zgO {C:Cx} {o:Bool} {q A:PS} {z:Int} {w:BA} (h:Is2 (bd (.ok q) (zm C o)) A z w) (H:zH C q.pos o=true):A=adv q/\z= -1/\w=(ze C q.pos).text:=by
 rw[zA,zm,if_pos H] at h;exact h
theorem zgP {C:Cx} {o:Bool} {q H:PS} {w:Int} {A:BA} (h:Is2 (bd (.ok q) (zm C o)) H w A) (z:zH C q.pos o=false):w=(zs C q.pos:Int):=by
 rw[zA,zm,z] at h;exact h
theorem zlg {C:Cx} {n:BA} {y:Except Nat (PS×BA)} {q:PS} {z:Int} {f:BA} (h:Is2 y q z f) (w:(decide (z<0)&&isT C q.pos 4 zp)=true):bd (bd (bd (zaT y) (zd C 4 zp)) (zd C 4 za8)) (zR C ⟨5,0,n,f,0,0⟩)=bd y fun a=>zbU C n a.2 a.1:=by
 rw[Bool.and_eq_true,decide_eq_true_eq] at w;cases y with
 |ok a=>
  obtain⟨rfl,_,rfl⟩:=h;show _=zbU C n a.2 a.1;rw[zbU,if_pos w.2];rfl
 |error e=>rfl
theorem zlh {C:Cx} {n:BA} {y:Except Nat (PS×BA)} {q:PS} {z:Int} {f:BA} (h:Is2 y q z f) (w:(decide (z<0)&&isT C q.pos 4 zp)=false):bd (zaT y) (zR C ⟨4,0,n,f,0,0⟩)=bd y fun a=>zbU C n a.2 a.1:=by
 cases y with
 |ok a=>
  obtain⟨rfl,rfl,rfl⟩:=h;rw[Bool.and_eq_false_iff] at w;show _=zbU C n a.2 a.1;rw[zbU,w.resolve_left (by decide)];rfl
 |error e=>rfl
theorem zli {C:Cx} {o:Bool} {x:PR} {q:PS} {z:Int} {n:BA} (h:Is2 (bd x (zm C o)) q z n):z<0->1<=q.pos:=by
 intro H;cases w:bd x (zm C o) with
 |error e=>rw[w] at h;have:z=(e:Int):=h;omega
 |ok a=>
  rw[w] at h;obtain⟨rfl,_,_⟩:=h;obtain⟨b,_,A⟩:=zn w;obtain⟨rfl,_⟩:=zb2 A;simp[adv]
theorem zrL (C:Cx) (H h base:Nat) (S:Sv) (q:PS) (d:Nat) (w:World) (I:Mem C H h base S q w) (L:((ze C q.pos).kind==2)=true):
  Calls prog 181 #[pv C H h S q (-1) d] w (Out C H h base (pE C .part d q) d S w):=by
 have Z:=zc I;have z:=I.tok;have X:C.ts.length<=4000:=I.few;have N:=(zau I.tok).1;clear I;have O:q.pos<C.ts.length:=zga L (by decide);have V:Hid (pE C .part d q=bd (.ok (adv q)) (zR C ⟨1,(ze C q.pos).num,sNone,sNone,0,0⟩)):=by show pE C .part d q=_;rw[zbO,if_pos L];rfl
 obtain⟨Y,_,U,_⟩:=z.cells O (d:=⟨0,sNone,0,C.fin⟩);change _=some (Value.int .i64 (ze C q.pos).kind) at Y;change _=some (Value.int .i64 (ze C q.pos).num) at U;have A:Hid (Mem C H h base S (adv q) w):=Z.o.adv O;generalize (ze C q.pos).kind=kd at Y L;have HN:Hid (∀n,n=(ze C q.pos).num->pE C .part d q=bd (.ok (adv q)) (zR C ⟨1,n,sNone,sNone,0,0⟩)):=fun n e=>by rw[e];exact V.o
 generalize J:(ze C q.pos).num=nm at U;have M:Hid (nm=(ze C q.pos).num):=J.symm;clear J V z;unfold pv;go_enter func181,ntmps181;go_wp2_with fail;refine (zdi C H h base (.ok (adv q)) S (adv q) (-1) d ⟨1,nm,sNone,sNone,0,0⟩ _ (zab _) ((A.o.alloc _).alloc _) (fun _=>by simp[adv])).mono ?_;rintro e w1 ⟨S1,q1,z1,rfl,K,m1,s1⟩;have F:=A.o.fm2 m1 s1;have bb:=F.x1.boxC;unfold pv;go_wp2;refine (F.x1.put ..).ret rfl rfl ?_;rw[HN.o nm M.o];exact (F.put1 ..).done rfl K.o
theorem zrM (C:Cx) (H h base:Nat) (S:Sv) (q:PS) (d:Nat) (w:World) (I:Mem C H h base S q w) (M:((ze C q.pos).kind==2)=false) (J:isT C q.pos 4 zp=true) (U:20<=d) (V:d<=20):
  Calls prog 181 #[pv C H h S q (-1) d] w (Out C H h base (pE C .part d q) d S w):=by
 have X:=zc I;have z:=I.tok;have A:C.ts.length<=4000:=I.few;have N:=(zau I.tok).1;clear I;have Z:q.pos<C.ts.length:=za9 J (by decide);have HV:Hid (pE C .part d q= .error (zs C q.pos)):=by show pE C .part d q=_;rw[zbO,M,J];simp[U]
 have qd:decide ((20:Int)<=(d:Int))=true:=decide_eq_true (by omega);obtain⟨O,_,_,_⟩:=z.cells Z (d:=⟨0,sNone,0,C.fin⟩);change _=some (Value.int .i64 (ze C q.pos).kind) at O;generalize (ze C q.pos).kind=kd at O M;unfold pv;go_enter func181,ntmps181;go_wp2_with fail;refine (zk C H h base S q (-1) d 4 zp _ (zr (zr z _) _) A (by decide)).mono ?_;rintro e w1 ⟨rfl,L⟩;rw[J];have F:=X.o.fm L;have Y:=F.x0.boxC;go_wp2_with fail;refine (zd7 C H h base S q (-1) d _ F.m.tok A).mono ?_;rintro e w2 ⟨rfl,K⟩;replace F:=F.below K;clear Y;have bb:=F.x1.boxC;unfold pv;go_wp2;refine (F.x1.put ..).ret rfl rfl ?_;rw[HV.o];exact (F.put1 ..).done rfl (show Is (.error (zs C q.pos)) q _ from rfl)
theorem zrN (C:Cx) (A h base:Nat) (S:Sv) (q:PS) (d:Nat) (w:World) (H:Mem C A h base S q w) (U:((ze C q.pos).kind==2)=false) (L:isT C q.pos 4 zp=true) (hd:d<20) (Y:SumOK C A h base (C.ts.length-q.pos)):
  Calls prog 181 #[pv C A h S q (-1) d] w (Out C A h base (pE C .part d q) d S w):=by
 have HM:=zc H;have z:=H.tok;have I:C.ts.length<=4000:=H.few;have V:=(zau H.tok).1;clear H;have X:q.pos<C.ts.length:=za9 L (by decide);have HV:Hid (pE C .part d q=bd (bd (.ok (adv q)) (pE C .sum (d+1))) (zd C 4 za8)):=by show pE C .part d q=_;rw[zbO,U,L,if_neg (by decide),if_pos rfl,if_neg (by omega)];rfl
 have HS:=zc Y;clear Y;have qd:decide ((20:Int)<=(d:Int))=false:=decide_eq_false (by omega);obtain⟨Z,_,_,_⟩:=z.cells X (d:=⟨0,sNone,0,C.fin⟩);change _=some (Value.int .i64 (ze C q.pos).kind) at Z;generalize (ze C q.pos).kind=kd at Z U;unfold pv;go_enter func181,ntmps181;go_wp2_with fail;refine (zk C A h base S q (-1) d 4 zp _ (zr (zr z _) _) I (by decide)).mono ?_;rintro e w1 ⟨rfl,N⟩;rw[L];have F:=HM.o.fm N;have J:=F.x0.boxC;go_wp2_with fail;refine (HS.o (.ok (adv q)) S (adv q) (-1) (d+1) _ (zab _) (((F.adv X).set0_1 _).set0_11 _).m (fun _=>by show C.ts.length-(q.pos+1)<_;omega) (by omega)).mono ?_;rintro e w2 ⟨S2,q2,z2,rfl,K,m2,s2⟩;replace F:=((F.set0_1 _).set0_11 _).stp m2 s2;clear J;go_wp2_with fail;refine (zaj C A h base _ S2 q2 z2 (d+1) za8 _ K.o F.m).mono ?_;rintro e w3 ⟨S3,q3,z3,rfl,M,m3,s3⟩;replace F:=F.stp m3 s3;have J:=F.x0.boxC;obtain⟨D,O⟩: ∃D:Nat,D=d+1:=⟨_,rfl⟩;rw[<-O];have ac:(D:Int)-1=d:=by omega
 have aa:D<=20:=by omega
 clear O hd qd;unfold pv;go_upto_region 11 with fail;refine (F.put0 ..).cut ?_;clear J;intro w4 F;have J:=F.x0.boxC;have bb:=F.x1.boxC;go_wp2;refine bodyPost_ret (results_cell_row rfl _ _ (w.heap.size+1) 121 _ (0,0) _ rfl (((F.x1.set_other (by omega) 11 _).put ..)).heap underlying121 rfl (by kernel_rfl)) rfl ?_;rw[HV.o];exact zlb rfl M.o ((F.set0_11 _).put1 ..).m ((F.set0_11 _).put1 ..).t
theorem zrO (z:List Tk) (h:Nat) (I A base:Nat) (S:Sv) (q:PS) (d:Nat) (w:World) (K:Mem (Cx.mk z h true) I A base S q w) (L: ¬q.pos<(Cx.mk z h true).ts.length):
  Calls prog 181 #[pv (Cx.mk z h true) I A S q (-1) d] w (Out (Cx.mk z h true) I A base (pE (Cx.mk z h true) .part d q) d S w):=by
 have HM:=zc K;have J:=K.tok;have H:(Cx.mk z h true).ts.length<=4000:=K.few;have V:=(zau K.tok).1;clear K;have hk:((ze (Cx.mk z h true) q.pos).kind==2)=false:=by rw[zea (by omega)];rfl
 have X:isT (Cx.mk z h true) q.pos 4 zp=false:=zfy L (by decide);have Y:isT (Cx.mk z h true) q.pos 1 zaG=false:=zfy L (by decide);have Z:zH (Cx.mk z h true) q.pos false=false:=zh8 L;have HV:Hid (pE (Cx.mk z h true) .part d q= .error (zs (Cx.mk z h true) q.pos)):=by show pE (Cx.mk z h true) .part d q=_;rw[zbO,hk,X,Y,zm,Z];rfl
 have ac: ¬q.pos<z.length:=L;unfold pv;go_enter func181,ntmps181;go_wp2_with fail;refine (zk (Cx.mk z h true) I A base S q (-1) d 4 zp _ (zr (zr J _) _) H (by decide)).mono ?_;rintro e w1 ⟨rfl,U⟩;rw[X];have F:=HM.o.fm U;have M:=F.x0.boxC;go_wp2_with fail;refine (zk (Cx.mk z h true) I A base S q (-1) d 1 zaG _ F.m.tok H (by decide)).mono ?_;rintro e w2 ⟨rfl,N⟩;rw[Y];replace F:=F.below N;clear M;have M:=F.x0.boxC;go_wp2_with fail;refine (zbq (Cx.mk z h true) I A base (.ok q) S q (-1) d false _ (zab q) F.m).mono ?_;rintro e w3 ⟨S3,q3,z3,n3,rfl,O,m3,s3⟩;replace F:=F.stp m3 s3;clear M;obtain rfl:=zgP O.o Z;have dz:decide ((0:Int)<=(zs (Cx.mk z h true) q.pos:Int))=true:=decide_eq_true (by omega);have aa:w.heap.size+1<w3.heap.size:=F.x1.lt;unfold pv;go_upto_region 17 with fail;refine (F.new2 _).cut ?_;intro w4 F;have bb:=F.x1.boxC;have cb:=F.x2.boxC;go_wp2;refine (F.x1.put ..).ret rfl rfl ?_;rw[HV.o];exact (F.put1 ..).done rfl (show Is (.error (zs (Cx.mk z h true) q.pos)) q3 _ from rfl)
theorem zrP (z:List Tk) (h:Nat) (J A base:Nat) (S:Sv) (q:PS) (d:Nat) (w:World) (K:Mem (Cx.mk z h true) J A base S q w) (V:((ze (Cx.mk z h true) q.pos).kind==2)=false) (Z:isT (Cx.mk z h true) q.pos 4 zp=false) (Y:q.pos<(Cx.mk z h true).ts.length) (hu:isT (Cx.mk z h true) q.pos 1 zaG=false) (hn:zH (Cx.mk z h true) q.pos false=false):
  Calls prog 181 #[pv (Cx.mk z h true) J A S q (-1) d] w (Out (Cx.mk z h true) J A base (pE (Cx.mk z h true) .part d q) d S w):=by
 have HM:=zc K;have H:=K.tok;have I:(Cx.mk z h true).ts.length<=4000:=K.few;have X:=(zau K.tok).1;clear K;have HV:Hid (pE (Cx.mk z h true) .part d q= .error (zs (Cx.mk z h true) q.pos)):=by show pE (Cx.mk z h true) .part d q=_;rw[zbO,V,Z,hu,zm,hn];rfl
 have ac:q.pos<z.length:=Y;obtain⟨U,_,_,_⟩:=H.cells Y (d:=⟨0,sNone,0,(Cx.mk z h true).fin⟩);change _=some (Value.int .i64 (ze (Cx.mk z h true) q.pos).kind) at U;generalize (ze (Cx.mk z h true) q.pos).kind=kd at U V;unfold pv;go_enter func181,ntmps181;go_wp2_with fail;refine (zk (Cx.mk z h true) J A base S q (-1) d 4 zp _ (zr (zr H _) _) I (by decide)).mono ?_;rintro e w1 ⟨rfl,O⟩;rw[Z];have F:=HM.o.fm O;have L:=F.x0.boxC;go_wp2_with fail;refine (zk (Cx.mk z h true) J A base S q (-1) d 1 zaG _ F.m.tok I (by decide)).mono ?_;rintro e w2 ⟨rfl,M⟩;rw[hu];replace F:=F.below M;clear L;have L:=F.x0.boxC;go_wp2_with fail;refine (zbq (Cx.mk z h true) J A base (.ok q) S q (-1) d false _ (zab q) F.m).mono ?_;rintro e w3 ⟨S3,q3,z3,n3,rfl,N,m3,s3⟩;replace F:=F.stp m3 s3;clear L;obtain rfl:=zgP N.o hn;have dz:decide ((0:Int)<=(zs (Cx.mk z h true) q.pos:Int))=true:=decide_eq_true (by omega);have aa:w.heap.size+1<w3.heap.size:=F.x1.lt;unfold pv;go_upto_region 17 with fail;refine (F.new2 _).cut ?_;intro w4 F;have bb:=F.x1.boxC;obtain⟨U,c1,c2,c3,c4,c5,c6,c7,c8,c9,ae,ad,cf⟩:=F.x2.box;go_wp2;refine (F.x1.put ..).ret rfl rfl ?_;rw[HV.o];exact (F.put1 ..).done rfl (show Is (.error (zs (Cx.mk z h true) q.pos)) q3 _ from rfl)
theorem zlj (A:List Tk) (h:Nat) (I z base:Nat) (S:Sv) (q:PS) (d:Nat) (w:World) (K:Mem (Cx.mk A h true) I z base S q w) (e0:Nat):
  Calls prog 181 #[pv (Cx.mk A h true) I z S q (e0:Int) d] w (Out (Cx.mk A h true) I z base (.error e0) d S w):=by
 have HM:=zc K;have J:=K.tok;have H:(Cx.mk A h true).ts.length<=4000:=K.few;have U:=(zau K.tok).1;clear K;have hz: ¬(e0:Int)<0:=by omega
 have V: ∀k s,(decide ((e0:Int)<0)&&isT (Cx.mk A h true) q.pos k s)=false:=fun k s=>by rw[decide_eq_false hz];rfl
 unfold pv;go_enter func181,ntmps181;go_wp2_with fail;refine (zk (Cx.mk A h true) I z base S q (e0:Int) d 4 zp _ (zr (zr J _) _) H (by decide)).mono ?_;rintro e w1 ⟨rfl,O⟩;rw[V];have F:=HM.o.fm O;have L:=F.x0.boxC;go_wp2_with fail;refine (zk (Cx.mk A h true) I z base S q (e0:Int) d 1 zaG _ F.m.tok H (by decide)).mono ?_;rintro e w2 ⟨rfl,M⟩;rw[V];replace F:=F.below M;clear L;have L:=F.x0.boxC;go_wp2_with fail;refine (zbq (Cx.mk A h true) I z base (.error e0) S q (e0:Int) d false _ (show Is (.error e0) q _ from rfl) F.m).mono ?_;rintro e Z ⟨S3,q3,z3,n3,rfl,N,Y,s3⟩;replace F:=F.stp Y s3;clear L;obtain rfl:z3=(e0:Int):=N.o;have dz:decide ((0:Int)<=(e0:Int))=true:=decide_eq_true (by omega);have X:w.heap.size+1<Z.heap.size:=F.x1.lt;unfold pv;go_upto_region 17 with fail;refine (F.new2 _).cut ?_;intro w4 F;have bb:=F.x1.boxC;have cb:=F.x2.boxC;go_wp2;refine (F.x1.put ..).ret rfl rfl ?_;exact (F.put1 ..).done rfl (show Is (.error e0) q3 _ from rfl)
theorem zrQ (z:List Tk) (h:Nat) (J A base:Nat) (S:Sv) (q:PS) (d:Nat) (w:World) (K:Mem (Cx.mk z h true) J A base S q w) (V:((ze (Cx.mk z h true) q.pos).kind==2)=false) (Y:isT (Cx.mk z h true) q.pos 4 zp=false) (M:q.pos<(Cx.mk z h true).ts.length) (Z:isT (Cx.mk z h true) q.pos 1 zaG=true):
  Calls prog 181 #[pv (Cx.mk z h true) J A S q (-1) d] w (Out (Cx.mk z h true) J A base (pE (Cx.mk z h true) .part d q) d S w):=by
 have HM:=zc K;have H:=K.tok;have I:(Cx.mk z h true).ts.length<=4000:=K.few;have X:=(zau K.tok).1;clear K;have HV:Hid (pE (Cx.mk z h true) .part d q=zbG (Cx.mk z h true) zaG (adv q)):=by show pE (Cx.mk z h true) .part d q=_;rw[zbO,V,Y,Z];rfl
 have aa:q.pos<z.length:=M;obtain⟨c0,_,_,_⟩:=H.cells M (d:=⟨0,sNone,0,(Cx.mk z h true).fin⟩);change _=some (Value.int .i64 (ze (Cx.mk z h true) q.pos).kind) at c0;generalize (ze (Cx.mk z h true) q.pos).kind=kd at c0 V;unfold pv;go_enter func181,ntmps181;go_wp2_with fail;refine (zk (Cx.mk z h true) J A base S q (-1) d 4 zp _ (zr (zr H _) _) I (by decide)).mono ?_;rintro e w1 ⟨rfl,U⟩;rw[Y];have F:=HM.o.fm U;have L:=F.x0.boxC;go_wp2_with fail;refine (zk (Cx.mk z h true) J A base S q (-1) d 1 zaG _ F.m.tok I (by decide)).mono ?_;rintro e w2 ⟨rfl,N⟩;rw[Z];replace F:=F.below N;clear L;have L:=F.x0.boxC;go_wp2_with fail;refine (zij (Cx.mk z h true) J A base S (adv q) d zaG _ ((F.adv M).set0_1 _).m (by simp[adv])).mono ?_;rintro e w3 ⟨S3,q3,z3,rfl,O,m3,s3⟩;replace F:=(F.set0_1 _).stp m3 s3;clear L;have bb:=F.x1.boxC;unfold pv;go_wp2;refine (F.x1.put ..).ret rfl rfl ?_;rw[HV.o];exact (F.put1 ..).done rfl O.o
theorem zrR (z:List Tk) (h:Nat) (J A base:Nat) (S:Sv) (q:PS) (d:Nat) (w:World) (L:Mem (Cx.mk z h true) J A base S q w) (hk:((ze (Cx.mk z h true) q.pos).kind==2)=false) (ho:isT (Cx.mk z h true) q.pos 4 zp=false) (hp:q.pos<(Cx.mk z h true).ts.length) (hu:isT (Cx.mk z h true) q.pos 1 zaG=false) (hn:zH (Cx.mk z h true) q.pos false=true) (hd:isT (Cx.mk z h true) (q.pos+1) 4 cPoint=false):
  Calls prog 181 #[pv (Cx.mk z h true) J A S q (-1) d] w (Out (Cx.mk z h true) J A base (pE (Cx.mk z h true) .part d q) d S w):=by
 have HM:=zc L;have I:=L.tok;have H:(Cx.mk z h true).ts.length<=4000:=L.few;have ah:=(zau L.tok).1;clear L;have HV:Hid (pE (Cx.mk z h true) .part d q=zbG (Cx.mk z h true) (ze (Cx.mk z h true) q.pos).text (adv q)):=by show pE (Cx.mk z h true) .part d q=_;rw[zbO,hk,ho,hu,zm,hn];show (if isT (Cx.mk z h true) (adv q).pos 4 cPoint then _ else _)=_;rw[zz,hd];rfl
 have aj:q.pos<z.length:=hp;obtain⟨U,_,_,_⟩:=I.cells hp (d:=⟨0,sNone,0,(Cx.mk z h true).fin⟩);change _=some (Value.int .i64 (ze (Cx.mk z h true) q.pos).kind) at U;generalize (ze (Cx.mk z h true) q.pos).kind=kd at U hk;unfold pv;go_enter func181,ntmps181;go_wp2_with fail;refine (zk (Cx.mk z h true) J A base S q (-1) d 4 zp _ (zr (zr I _) _) H (by decide)).mono ?_;rintro e w1 ⟨rfl,ag⟩;rw[ho];have F:=HM.o.fm ag;have Z:=F.x0.boxC;go_wp2_with fail;refine (zk (Cx.mk z h true) J A base S q (-1) d 1 zaG _ F.m.tok H (by decide)).mono ?_;rintro e w2 ⟨rfl,ad⟩;rw[hu];replace F:=F.below ad;clear Z;have Z:=F.x0.boxC;go_wp2_with fail;refine (zbq (Cx.mk z h true) J A base (.ok q) S q (-1) d false _ (zab q) F.m).mono ?_;rintro e w3 ⟨S3,O,z3,n3,rfl,M,m3,s3⟩;replace F:=F.stp m3 s3;clear Z;obtain⟨V,rfl,N⟩:=zgO M.o hn;have HQ:=zc V;have aa:=zc N;have K:O.pos=q.pos+1:=by rw[V];rfl
 have af:isT (Cx.mk z h true) O.pos 4 cPoint=false:=by rw[K];exact hd
 clear V N M;have ai:w.heap.size+1<w3.heap.size:=F.x1.lt;unfold pv;clear K;go_wp2_with fail;refine (zk (Cx.mk z h true) J A base S3 O (-1) d 4 cPoint _ (F.alloc _).m.tok H (by decide)).mono ?_;rintro e w4 ⟨rfl,ae⟩;rw[af];replace F:=(F.new2 _).below ae;obtain⟨U,c1,c2,c3,c4,c5,c6,c7,c8,c9,ac,Y,cf⟩:=F.x2.box;go_wp2_with fail;refine (zij (Cx.mk z h true) J A base S3 O d n3 _ F.m (by rw[HQ.o];simp[adv])).mono ?_;rintro e w5 ⟨S5,q5,z5,rfl,X,m5,s5⟩;replace F:=F.stp m5 s5;clear U c1 c2 c3 c4 c5 c6 c7 c8 c9 ac Y cf;have bb:=F.x1.boxC;unfold pv;go_wp2;refine (F.x1.put ..).ret rfl rfl ?_;rw[HV.o,<-HQ.o,<-aa.o];exact (F.put1 ..).done rfl X.o
theorem zrS (z:List Tk) (h:Nat) (I A base:Nat) (S:Sv) (q:PS) (d:Nat) (w:World) (Y:Mem (Cx.mk z h true) I A base S q w) (hk:((ze (Cx.mk z h true) q.pos).kind==2)=false) (ho:isT (Cx.mk z h true) q.pos 4 zp=false) (hp:q.pos<(Cx.mk z h true).ts.length) (hu:isT (Cx.mk z h true) q.pos 1 zaG=false) (hn:zH (Cx.mk z h true) q.pos false=true) (hd:isT (Cx.mk z h true) (q.pos+1) 4 cPoint=true):
  Calls prog 181 #[pv (Cx.mk z h true) I A S q (-1) d] w (Out (Cx.mk z h true) I A base (pE (Cx.mk z h true) .part d q) d S w):=by
 have HM:=zc Y;have K:=Y.tok;have H:(Cx.mk z h true).ts.length<=4000:=Y.few;have ao:=(zau Y.tok).1;clear Y;have HV:Hid (pE (Cx.mk z h true) .part d q=bd (bd (.ok (adv (adv q))) (zm (Cx.mk z h true) true)) fun y=>zbU (Cx.mk z h true) (ze (Cx.mk z h true) q.pos).text y.2 y.1):=by show pE (Cx.mk z h true) .part d q=_;rw[zbO,hk,ho,hu,zm,hn];show (if isT (Cx.mk z h true) (adv q).pos 4 cPoint then _ else _)=_;rw[zz,hd];rfl
 have aq:q.pos<z.length:=hp;obtain⟨c0,_,_,_⟩:=K.cells hp (d:=⟨0,sNone,0,(Cx.mk z h true).fin⟩);change _=some (Value.int .i64 (ze (Cx.mk z h true) q.pos).kind) at c0;generalize (ze (Cx.mk z h true) q.pos).kind=kd at c0 hk;unfold pv;go_enter func181,ntmps181;go_wp2_with fail;refine (zk (Cx.mk z h true) I A base S q (-1) d 4 zp _ (zr (zr K _) _) H (by decide)).mono ?_;rintro e w1 ⟨rfl,al⟩;rw[ho];have F:=HM.o.fm al;have ab:=F.x0.boxC;go_wp2_with fail;refine (zk (Cx.mk z h true) I A base S q (-1) d 1 zaG _ F.m.tok H (by decide)).mono ?_;rintro e w2 ⟨rfl,ah⟩;rw[hu];replace F:=F.below ah;clear ab;have ab:=F.x0.boxC;go_wp2_with fail;refine (zbq (Cx.mk z h true) I A base (.ok q) S q (-1) d false _ (zab q) F.m).mono ?_;rintro e w3 ⟨S3,L,z3,n3,rfl,ad,m3,s3⟩;replace F:=F.stp m3 s3;clear ab;obtain⟨hq,rfl,U⟩:=zgO ad.o hn;have HQ:=zc hq;have X:=zc U;have ae:L.pos=q.pos+1:=by rw[hq];rfl
 have O:isT (Cx.mk z h true) L.pos 4 cPoint=true:=by rw[ae];exact hd
 clear hq U ad;have ap:w.heap.size+1<w3.heap.size:=F.x1.lt;unfold pv;clear ae;go_wp2_with fail;refine (zk (Cx.mk z h true) I A base S3 L (-1) d 4 cPoint _ (F.alloc _).m.tok H (by decide)).mono ?_;rintro e w4 ⟨rfl,ak⟩;rw[O];replace F:=(F.new2 _).below ak;obtain⟨c0,c1,c2,c3,c4,c5,c6,c7,c8,c9,ag,aj,cf⟩:=F.x2.box;have aa:L.pos<(Cx.mk z h true).ts.length:=za9 O (by decide);have am:L.pos<z.length:=aa;go_wp2_with fail;refine (zbq (Cx.mk z h true) I A base (.ok (adv L)) S3 (adv L) (-1) d true _ (zab _) ((F.adv aa).set2_1 _).m).mono ?_;rintro e w5 ⟨S5,Z,V,n5,rfl,J,m5,s5⟩;replace F:=(F.set2_1 _).stp m5 s5;clear c0 c1 c2 c3 c4 c5 c6 c7 c8 c9 ag aj cf;have an:w.heap.size+1<w5.heap.size:=F.x1.lt;have af:w3.heap.size<w5.heap.size:=F.x2.lt;cases hc:(decide (V<0)&&isT (Cx.mk z h true) Z.pos 4 zp) with
 |true=>
  unfold pv;go_wp2_with fail;refine (zk (Cx.mk z h true) I A base S5 Z V d 4 zp _ (F.alloc _).m.tok H (by decide)).mono ?_;rintro e w6 ⟨rfl,N⟩;rw[hc];replace F:=(F.new3 _).below N;have db:=F.x3.boxC;go_wp2_with fail;refine (zaj (Cx.mk z h true) I A base _ S5 Z V d zp _ J.o.fst F.m).mono ?_;rintro e w7 ⟨S7,q7,z7,rfl,M,m7,s7⟩;replace F:=F.stp m7 s7;clear db;go_wp2_with fail;refine (zaj (Cx.mk z h true) I A base _ S7 q7 z7 d za8 _ M.o F.m).mono ?_;rintro e w8 ⟨S8,q8,z8,rfl,ac,m8,s8⟩;replace F:=F.stp m8 s8;have db:=F.x3.boxC;unfold pv;go_wp2_with fail;refine (zdi (Cx.mk z h true) I A base _ S8 q8 z8 d ⟨5,0,n3,n5,0,0⟩ _ ac.o (F.put3 ..).m (zby ac.o)).mono ?_;rintro e w9 ⟨S9,q9,z9,rfl,ai,m9,s9⟩;replace F:=(F.put3 ..).stp m9 s9;clear db;have bb:=F.x1.boxC;unfold pv;go_wp2;refine (F.x1.put ..).ret rfl rfl ?_;rw[HV.o,<-HQ.o,<-X.o,<-zlg J.o hc];exact (F.put1 ..).done rfl ai.o
 |false=>
  unfold pv;go_wp2_with fail;refine (zk (Cx.mk z h true) I A base S5 Z V d 4 zp _ (F.alloc _).m.tok H (by decide)).mono ?_;rintro e w6 ⟨rfl,N⟩;rw[hc];replace F:=(F.new3 _).below N;have db:=F.x3.boxC;go_wp2_with fail;refine (zdi (Cx.mk z h true) I A base _ S5 Z V d ⟨4,0,n3,n5,0,0⟩ _ J.o.fst F.m (zli J.o)).mono ?_;rintro e w7 ⟨S7,q7,z7,rfl,M,m7,s7⟩;replace F:=F.stp m7 s7;clear db;have bb:=F.x1.boxC;unfold pv;go_wp2;refine (F.x1.put ..).ret rfl rfl ?_;rw[HV.o,<-HQ.o,<-X.o,<-zlh J.o hc];exact (F.put1 ..).done rfl M.o
theorem zrT (z:List Tk) (h:Nat) (I A base:Nat) (S:Sv) (q:PS) (d:Nat) (w:World) (J:Mem (Cx.mk z h false) I A base S q w) (L: ¬q.pos<(Cx.mk z h false).ts.length):
  Calls prog 181 #[pv (Cx.mk z h false) I A S q (-1) d] w (Out (Cx.mk z h false) I A base (pE (Cx.mk z h false) .part d q) d S w):=by
 have Z:=zc J;have H:=J.tok;have K:(Cx.mk z h false).ts.length<=4000:=J.few;have O:=(zau J.tok).1;clear J;have hk:((ze (Cx.mk z h false) q.pos).kind==2)=false:=by rw[zea (by omega)];rfl
 have U:isT (Cx.mk z h false) q.pos 4 zp=false:=zfy L (by decide);have hu:isT (Cx.mk z h false) q.pos 1 zaG=false:=zfy L (by decide);have V:zH (Cx.mk z h false) q.pos false=false:=zh8 L;have HV:Hid (pE (Cx.mk z h false) .part d q= .error (zs (Cx.mk z h false) q.pos)):=by show pE (Cx.mk z h false) .part d q=_;rw[zbO,hk,U,zm,V];rfl
 have aa: ¬q.pos<z.length:=L;unfold pv;go_enter func181,ntmps181;go_wp2_with fail;refine (zk (Cx.mk z h false) I A base S q (-1) d 4 zp _ (zr (zr H _) _) K (by decide)).mono ?_;rintro e w1 ⟨rfl,N⟩;rw[U];have F:=Z.o.fm N;have ab:=F.x0.boxC;go_wp2_with fail;refine (zbq (Cx.mk z h false) I A base (.ok q) S q (-1) d false _ (zab q) F.m).mono ?_;rintro e w2 ⟨S2,q2,z2,n2,rfl,M,Y,s2⟩;replace F:=F.stp Y s2;clear ab;obtain rfl:=zgP M.o V;have dz:decide ((0:Int)<=(zs (Cx.mk z h false) q.pos:Int))=true:=decide_eq_true (by omega);have X:w.heap.size+1<w2.heap.size:=F.x1.lt;unfold pv;go_upto_region 17 with fail;refine (F.new2 _).cut ?_;intro w3 F;have bb:=F.x1.boxC;have cb:=F.x2.boxC;go_wp2;refine (F.x1.put ..).ret rfl rfl ?_;rw[HV.o];exact (F.put1 ..).done rfl (show Is (.error (zs (Cx.mk z h false) q.pos)) q2 _ from rfl)
theorem zrU (z:List Tk) (h:Nat) (I A base:Nat) (S:Sv) (q:PS) (d:Nat) (w:World) (J:Mem (Cx.mk z h false) I A base S q w) (O:((ze (Cx.mk z h false) q.pos).kind==2)=false) (X:isT (Cx.mk z h false) q.pos 4 zp=false) (V:q.pos<(Cx.mk z h false).ts.length) (Y:zH (Cx.mk z h false) q.pos false=false):
  Calls prog 181 #[pv (Cx.mk z h false) I A S q (-1) d] w (Out (Cx.mk z h false) I A base (pE (Cx.mk z h false) .part d q) d S w):=by
 have HM:=zc J;have H:=J.tok;have K:(Cx.mk z h false).ts.length<=4000:=J.few;have U:=(zau J.tok).1;clear J;have HV:Hid (pE (Cx.mk z h false) .part d q= .error (zs (Cx.mk z h false) q.pos)):=by show pE (Cx.mk z h false) .part d q=_;rw[zbO,O,X,zm,Y];rfl
 have aa:q.pos<z.length:=V;obtain⟨N,_,_,_⟩:=H.cells V (d:=⟨0,sNone,0,(Cx.mk z h false).fin⟩);change _=some (Value.int .i64 (ze (Cx.mk z h false) q.pos).kind) at N;generalize (ze (Cx.mk z h false) q.pos).kind=kd at N O;unfold pv;go_enter func181,ntmps181;go_wp2_with fail;refine (zk (Cx.mk z h false) I A base S q (-1) d 4 zp _ (zr (zr H _) _) K (by decide)).mono ?_;rintro e w1 ⟨rfl,M⟩;rw[X];have F:=HM.o.fm M;have ab:=F.x0.boxC;go_wp2_with fail;refine (zbq (Cx.mk z h false) I A base (.ok q) S q (-1) d false _ (zab q) F.m).mono ?_;rintro e w2 ⟨S2,q2,z2,n2,rfl,L,m2,s2⟩;replace F:=F.stp m2 s2;clear ab;obtain rfl:=zgP L.o Y;have dz:decide ((0:Int)<=(zs (Cx.mk z h false) q.pos:Int))=true:=decide_eq_true (by omega);have Z:w.heap.size+1<w2.heap.size:=F.x1.lt;unfold pv;go_upto_region 17 with fail;refine (F.new2 _).cut ?_;intro w3 F;have bb:=F.x1.boxC;obtain⟨N,c1,c2,c3,c4,c5,c6,c7,c8,c9,ad,ac,cf⟩:=F.x2.box;go_wp2;refine (F.x1.put ..).ret rfl rfl ?_;rw[HV.o];exact (F.put1 ..).done rfl (show Is (.error (zs (Cx.mk z h false) q.pos)) q2 _ from rfl)
theorem zlk (A:List Tk) (h:Nat) (I z base:Nat) (S:Sv) (q:PS) (d:Nat) (w:World) (J:Mem (Cx.mk A h false) I z base S q w) (e0:Nat):
  Calls prog 181 #[pv (Cx.mk A h false) I z S q (e0:Int) d] w (Out (Cx.mk A h false) I z base (.error e0) d S w):=by
 have V:=zc J;have H:=J.tok;have K:(Cx.mk A h false).ts.length<=4000:=J.few;have N:=(zau J.tok).1;clear J;have hz: ¬(e0:Int)<0:=by omega
 have hs: ∀k s,(decide ((e0:Int)<0)&&isT (Cx.mk A h false) q.pos k s)=false:=fun k s=>by rw[decide_eq_false hz];rfl
 unfold pv;go_enter func181,ntmps181;go_wp2_with fail;refine (zk (Cx.mk A h false) I z base S q (e0:Int) d 4 zp _ (zr (zr H _) _) K (by decide)).mono ?_;rintro e w1 ⟨rfl,M⟩;rw[hs];have F:=V.o.fm M;have Z:=F.x0.boxC;go_wp2_with fail;refine (zbq (Cx.mk A h false) I z base (.error e0) S q (e0:Int) d false _ (show Is (.error e0) q _ from rfl) F.m).mono ?_;rintro e w2 ⟨S2,q2,X,n2,rfl,L,U,Y⟩;replace F:=F.stp U Y;clear Z;obtain rfl:X=(e0:Int):=L.o;have dz:decide ((0:Int)<=(e0:Int))=true:=decide_eq_true (by omega);have O:w.heap.size+1<w2.heap.size:=F.x1.lt;unfold pv;go_upto_region 17 with fail;refine (F.new2 _).cut ?_;intro w3 F;have bb:=F.x1.boxC;have cb:=F.x2.boxC;go_wp2;refine (F.x1.put ..).ret rfl rfl ?_;exact (F.put1 ..).done rfl (show Is (.error e0) q2 _ from rfl)
theorem zrV (z:List Tk) (h:Nat) (J A base:Nat) (S:Sv) (q:PS) (d:Nat) (w:World) (M:Mem (Cx.mk z h false) J A base S q w) (hk:((ze (Cx.mk z h false) q.pos).kind==2)=false) (ho:isT (Cx.mk z h false) q.pos 4 zp=false) (hp:q.pos<(Cx.mk z h false).ts.length) (hn:zH (Cx.mk z h false) q.pos false=true) (hd:isT (Cx.mk z h false) (q.pos+1) 4 cPoint=false):
  Calls prog 181 #[pv (Cx.mk z h false) J A S q (-1) d] w (Out (Cx.mk z h false) J A base (pE (Cx.mk z h false) .part d q) d S w):=by
 have HM:=zc M;have H:=M.tok;have I:(Cx.mk z h false).ts.length<=4000:=M.few;have af:=(zau M.tok).1;clear M;have HV:Hid (pE (Cx.mk z h false) .part d q=zbG (Cx.mk z h false) (ze (Cx.mk z h false) q.pos).text (adv q)):=by show pE (Cx.mk z h false) .part d q=_;rw[zbO,hk,ho,zm,hn];show (if isT (Cx.mk z h false) (adv q).pos 4 cPoint then _ else _)=_;rw[zz,hd];rfl
 have ah:q.pos<z.length:=hp;obtain⟨O,_,_,_⟩:=H.cells hp (d:=⟨0,sNone,0,(Cx.mk z h false).fin⟩);change _=some (Value.int .i64 (ze (Cx.mk z h false) q.pos).kind) at O;generalize (ze (Cx.mk z h false) q.pos).kind=kd at O hk;unfold pv;go_enter func181,ntmps181;go_wp2_with fail;refine (zk (Cx.mk z h false) J A base S q (-1) d 4 zp _ (zr (zr H _) _) I (by decide)).mono ?_;rintro e w1 ⟨rfl,ad⟩;rw[ho];have F:=HM.o.fm ad;have ab:=F.x0.boxC;go_wp2_with fail;refine (zbq (Cx.mk z h false) J A base (.ok q) S q (-1) d false _ (zab q) F.m).mono ?_;rintro e w2 ⟨S2,U,z2,n2,rfl,L,m2,s2⟩;replace F:=F.stp m2 s2;clear ab;obtain⟨V,rfl,N⟩:=zgO L.o hn;have HQ:=zc V;have Z:=zc N;have K:U.pos=q.pos+1:=by rw[V];rfl
 have ac:isT (Cx.mk z h false) U.pos 4 cPoint=false:=by rw[K];exact hd
 clear V N L;have ag:w.heap.size+1<w2.heap.size:=F.x1.lt;unfold pv;clear K;go_wp2_with fail;refine (zk (Cx.mk z h false) J A base S2 U (-1) d 4 cPoint _ (F.alloc _).m.tok I (by decide)).mono ?_;rintro e w3 ⟨rfl,ae⟩;rw[ac];replace F:=(F.new2 _).below ae;obtain⟨O,c1,c2,c3,c4,c5,c6,c7,c8,c9,aa,X,cf⟩:=F.x2.box;go_wp2_with fail;refine (zij (Cx.mk z h false) J A base S2 U d n2 _ F.m (by rw[HQ.o];simp[adv])).mono ?_;rintro e w4 ⟨S4,q4,z4,rfl,Y,m4,s4⟩;replace F:=F.stp m4 s4;clear O c1 c2 c3 c4 c5 c6 c7 c8 c9 aa X cf;have bb:=F.x1.boxC;unfold pv;go_wp2;refine (F.x1.put ..).ret rfl rfl ?_;rw[HV.o,<-HQ.o,<-Z.o];exact (F.put1 ..).done rfl Y.o
theorem zrW (z:List Tk) (h:Nat) (I A base:Nat) (S:Sv) (q:PS) (d:Nat) (w:World) (hm:Mem (Cx.mk z h false) I A base S q w) (hk:((ze (Cx.mk z h false) q.pos).kind==2)=false) (ho:isT (Cx.mk z h false) q.pos 4 zp=false) (hp:q.pos<(Cx.mk z h false).ts.length) (hn:zH (Cx.mk z h false) q.pos false=true) (hd:isT (Cx.mk z h false) (q.pos+1) 4 cPoint=true):
  Calls prog 181 #[pv (Cx.mk z h false) I A S q (-1) d] w (Out (Cx.mk z h false) I A base (pE (Cx.mk z h false) .part d q) d S w):=by
 have HM:=zc hm;have K:=hm.tok;have H:(Cx.mk z h false).ts.length<=4000:=hm.few;have al:=(zau hm.tok).1;clear hm;have HV:Hid (pE (Cx.mk z h false) .part d q=bd (bd (.ok (adv (adv q))) (zm (Cx.mk z h false) true)) fun y=>zbU (Cx.mk z h false) (ze (Cx.mk z h false) q.pos).text y.2 y.1):=by show pE (Cx.mk z h false) .part d q=_;rw[zbO,hk,ho,zm,hn];show (if isT (Cx.mk z h false) (adv q).pos 4 cPoint then _ else _)=_;rw[zz,hd];rfl
 have an:q.pos<z.length:=hp;obtain⟨c0,_,_,_⟩:=K.cells hp (d:=⟨0,sNone,0,(Cx.mk z h false).fin⟩);change _=some (Value.int .i64 (ze (Cx.mk z h false) q.pos).kind) at c0;generalize (ze (Cx.mk z h false) q.pos).kind=kd at c0 hk;unfold pv;go_enter func181,ntmps181;go_wp2_with fail;refine (zk (Cx.mk z h false) I A base S q (-1) d 4 zp _ (zr (zr K _) _) H (by decide)).mono ?_;rintro e w1 ⟨rfl,ai⟩;rw[ho];have F:=HM.o.fm ai;have ab:=F.x0.boxC;go_wp2_with fail;refine (zbq (Cx.mk z h false) I A base (.ok q) S q (-1) d false _ (zab q) F.m).mono ?_;rintro e w2 ⟨S2,M,z2,n2,rfl,U,m2,s2⟩;replace F:=F.stp m2 s2;clear ab;obtain⟨hq,rfl,X⟩:=zgO U.o hn;have HQ:=zc hq;have Z:=zc X;have ac:M.pos=q.pos+1:=by rw[hq];rfl
 have V:isT (Cx.mk z h false) M.pos 4 cPoint=true:=by rw[ac];exact hd
 clear hq X U;have am:w.heap.size+1<w2.heap.size:=F.x1.lt;unfold pv;clear ac;go_wp2_with fail;refine (zk (Cx.mk z h false) I A base S2 M (-1) d 4 cPoint _ (F.alloc _).m.tok H (by decide)).mono ?_;rintro e w3 ⟨rfl,af⟩;rw[V];replace F:=(F.new2 _).below af;obtain⟨c0,c1,c2,c3,c4,c5,c6,c7,c8,c9,ae,ag,cf⟩:=F.x2.box;have aa:M.pos<(Cx.mk z h false).ts.length:=za9 V (by decide);have aj:M.pos<z.length:=aa;go_wp2_with fail;refine (zbq (Cx.mk z h false) I A base (.ok (adv M)) S2 (adv M) (-1) d true _ (zab _) ((F.adv aa).set2_1 _).m).mono ?_;rintro e w4 ⟨S4,q4,O,n4,rfl,J,m4,s4⟩;replace F:=(F.set2_1 _).stp m4 s4;clear c0 c1 c2 c3 c4 c5 c6 c7 c8 c9 ae ag cf;have ak:w.heap.size+1<w4.heap.size:=F.x1.lt;have ad:w2.heap.size<w4.heap.size:=F.x2.lt;cases hc:(decide (O<0)&&isT (Cx.mk z h false) q4.pos 4 zp) with
 |true=>
  unfold pv;go_wp2_with fail;refine (zk (Cx.mk z h false) I A base S4 q4 O d 4 zp _ (F.alloc _).m.tok H (by decide)).mono ?_;rintro e w5 ⟨rfl,N⟩;rw[hc];replace F:=(F.new3 _).below N;have db:=F.x3.boxC;go_wp2_with fail;refine (zaj (Cx.mk z h false) I A base _ S4 q4 O d zp _ J.o.fst F.m).mono ?_;rintro e w6 ⟨S6,q6,z6,rfl,L,m6,s6⟩;replace F:=F.stp m6 s6;clear db;go_wp2_with fail;refine (zaj (Cx.mk z h false) I A base _ S6 q6 z6 d za8 _ L.o F.m).mono ?_;rintro e w7 ⟨S7,q7,z7,rfl,Y,m7,s7⟩;replace F:=F.stp m7 s7;have db:=F.x3.boxC;unfold pv;go_wp2_with fail;refine (zdi (Cx.mk z h false) I A base _ S7 q7 z7 d ⟨5,0,n2,n4,0,0⟩ _ Y.o (F.put3 ..).m (zby Y.o)).mono ?_;rintro e w8 ⟨S8,q8,z8,rfl,ah,m8,s8⟩;replace F:=(F.put3 ..).stp m8 s8;clear db;have bb:=F.x1.boxC;unfold pv;go_wp2;refine (F.x1.put ..).ret rfl rfl ?_;rw[HV.o,<-HQ.o,<-Z.o,<-zlg J.o hc];exact (F.put1 ..).done rfl ah.o
 |false=>
  unfold pv;go_wp2_with fail;refine (zk (Cx.mk z h false) I A base S4 q4 O d 4 zp _ (F.alloc _).m.tok H (by decide)).mono ?_;rintro e w5 ⟨rfl,N⟩;rw[hc];replace F:=(F.new3 _).below N;have db:=F.x3.boxC;go_wp2_with fail;refine (zdi (Cx.mk z h false) I A base _ S4 q4 O d ⟨4,0,n2,n4,0,0⟩ _ J.o.fst F.m (zli J.o)).mono ?_;rintro e w6 ⟨S6,q6,z6,rfl,L,m6,s6⟩;replace F:=F.stp m6 s6;clear db;have bb:=F.x1.boxC;unfold pv;go_wp2;refine (F.x1.put ..).ret rfl rfl ?_;rw[HV.o,<-HQ.o,<-Z.o,<-zlh J.o hc];exact (F.put1 ..).done rfl L.o
def zik (C:Cx) (gt cap base m:Nat):Prop:=∀(x:PR) (S:Sv) (q:PS) (z:Int) (d:Nat) (w:World),Is x q z->Mem C gt cap base S q w->(z<0->C.ts.length-q.pos<m)->d<=20->
 Calls prog 181 #[pv C gt cap S q z d] w (Out C gt cap base (bd x (pE C .part d)) d S w)
def zll (C:Cx) (gt cap base m:Nat):Prop:=∀(x:PR) (S:Sv) (q:PS) (z:Int) (d:Nat) (w:World),Is x q z->Mem C gt cap base S q w->(z<0->C.ts.length-q.pos<m)->d<=20->
 Calls prog 158 #[pv C gt cap S q z d] w (Out C gt cap base (bd x (pE C .prod d)) d S w)
theorem SumOK.mono {C:Cx} {H A base m k:Nat} (h:SumOK C H A base m) (I:k<=m):SumOK C H A base k:=fun x S q z d w L J M K=>h x S q z d w L J (fun g=>Nat.lt_of_lt_of_le (M g) I) K
theorem zrX {C:Cx} {I h base m:Nat} (hS:SumOK C I h base m):zik C I h base (m+1):=by
 intro x S q z d w hx J hl N;by_cases Z:z<0
 ·obtain⟨rfl,rfl⟩:=zaJ hx Z;rw[zA];have Y:SumOK C I h base (C.ts.length-q.pos):=hS.mono (by have:=hl Z;omega);cases L:((ze C q.pos).kind==2) with
  |true=>exact zrL C I h base S q d w J L
  |false=>
   cases M:isT C q.pos 4 zp with
   |true=>
    by_cases X:20<=d
    ·exact zrM C I h base S q d w J L M X N
    ·exact zrN C I h base S q d w J L M (by omega) Y
   |false=>
    obtain⟨H,A,O⟩:=C;cases O with
    |true=>
     by_cases K:q.pos<H.length
     ·cases V:isT (Cx.mk H A true) q.pos 1 zaG with
      |true=>exact zrQ H A I h base S q d w J L M K V
      |false=>
       cases U:zH (Cx.mk H A true) q.pos false with
       |false=>exact zrP H A I h base S q d w J L M K V U
       |true=>
        cases N:isT (Cx.mk H A true) (q.pos+1) 4 cPoint with
        |false=>exact zrR H A I h base S q d w J L M K V U N
        |true=>exact zrS H A I h base S q d w J L M K V U N
     ·exact zrO H A I h base S q d w J K
    |false=>
     by_cases K:q.pos<H.length
     ·cases U:zH (Cx.mk H A false) q.pos false with
      |false=>exact zrU H A I h base S q d w J L M K U
      |true=>
       cases N:isT (Cx.mk H A false) (q.pos+1) 4 cPoint with
       |false=>exact zrV H A I h base S q d w J L M K U N
       |true=>exact zrW H A I h base S q d w J L M K U N
     ·exact zrT H A I h base S q d w J K
 ·obtain⟨e,rfl,rfl⟩:=zd9 hx Z;rw[zeA];obtain⟨H,A,O⟩:=C;cases O with
  |true=>exact zlj H A I h base S q d w J e
  |false=>exact zlk H A I h base S q d w J e
theorem zil {C:Cx} {x:PR} {q:PS} {z:Int} (h:Is x q z) (F:PS->Ex):bd x (zR C (F q))=bd x fun q'=>zR C (F q') q':=by
 cases x with
 |ok a=>obtain⟨rfl,_⟩:=h;rfl
 |error e=>rfl
theorem zlm {C:Cx} {y:PS->Ex} {x:PR} {q:PS} {n:Nat} (A: ∀a,x= .ok a->n<=a.pos) (h:(bd x fun q'=>zR C (y q') q')= .ok q):n<=q.pos:=by
 obtain⟨a,w,z⟩:=zn h;obtain⟨rfl,_⟩:=zb3 z;exact A a w
theorem zrY {C:Cx} {d m:Nat} {x:PR} {q w:PS} {z h:Int} (K:Is x q z) (I:Is (bd x (pE C .part d)) w h) (H:z<0->C.ts.length-q.pos<m) (L:h<0):C.ts.length-w.pos<m:=by
 obtain⟨e,_⟩:=zaJ I L;obtain⟨a,A,J⟩:=zn e;subst A;obtain⟨rfl,rfl⟩:=K;have:=zbh J;have:=H (by decide);omega
theorem zrZ {C:Cx} {d m:Nat} {x:PR} {q w:PS} {z h:Int} (K:Is x q z) (I:Is (bd x (pE C .prod d)) w h) (H:z<0->C.ts.length-q.pos<m) (L:h<0):C.ts.length-w.pos<m:=by
 obtain⟨e,_⟩:=zaJ I L;obtain⟨a,A,J⟩:=zn e;subst A;obtain⟨rfl,rfl⟩:=K;have:=zbh J;have:=H (by decide);omega
theorem zsa {C:Cx} {d:Nat} {w q:PS} {z:Int} (h:Is (bd (.ok (adv w)) (pE C .part d)) q z) (A:z<0):1<=q.pos:=by
 obtain⟨e,_⟩:=zaJ h A;have:=zbh (show pE C .part d (adv w)= .ok q from e);rw[zz] at this;omega
theorem zln {C:Cx} {d:Nat} {w q:PS} {z:Int} (h:Is (bd (.ok (adv w)) (pE C .prod d)) q z) (A:z<0):1<=q.pos:=by
 obtain⟨e,_⟩:=zaJ h A;have:=zbh (show pE C .prod d (adv w)= .ok q from e);rw[zz] at this;omega
theorem zsb {C:Cx} {d:Nat} {F:PS->Ex} {w q:PS} {z:Int} (h:Is (bd (bd (.ok (adv w)) (pE C .part d)) fun q'=>zR C (F q') q') q z) (H:z<0):w.pos+1<=q.pos:=by
 obtain⟨e,_⟩:=zaJ h H;exact zlm (fun a A=>by have:=zbh (show pE C .part d (adv w)= .ok a from A);rw[zz] at this;exact this) e
theorem zlo {C:Cx} {d:Nat} {F:PS->Ex} {w q:PS} {z:Int} (h:Is (bd (bd (.ok (adv w)) (pE C .prod d)) fun q'=>zR C (F q') q') q z) (H:z<0):w.pos+1<=q.pos:=by
 obtain⟨e,_⟩:=zaJ h H;exact zlm (fun a A=>by have:=zbh (show pE C .prod d (adv w)= .ok a from A);rw[zz] at this;exact this) e
theorem zsc {C:Cx} {d:Nat} {q:PS} (h:isT C q.pos 4 zy=true) (_:q.pos<C.ts.length):
  bd (.ok q) (pE C .prodT d)=bd (bd (bd (.ok (adv q)) (pE C .part d)) fun q'=>zR C ⟨8,0,sNone,sNone,(q.ex.length:Int)-1,(q'.ex.length:Int)-1⟩ q') (pE C .prodT d):=by
 show pE C .prodT d q=_;rw[zgb,if_pos h];rfl
theorem zlp {C:Cx} {d:Nat} {q:PS} {k:Int} (h:(isT C q.pos 4 zc0||isT C q.pos 4 zbp)=true) (w:zd2 C q.pos=k) (_:q.pos<C.ts.length):
  bd (.ok q) (pE C .sumT d)=bd (bd (bd (.ok (adv q)) (pE C .prod d)) fun q'=>zR C ⟨k,0,sNone,sNone,(q.ex.length:Int)-1,(q'.ex.length:Int)-1⟩ q') (pE C .sumT d):=by
 show pE C .sumT d q=_;rw[zfq,if_pos h,w];rfl
theorem zsd {C:Cx} {d:Nat} {x:PR} {q:PS} {z:Int} (w:Is x q z) (h:(decide (z<0)&&isT C q.pos 4 zy)=false):Is (bd x (pE C .prodT d)) q z:=by
 cases x with
 |ok a=>
  obtain⟨rfl,rfl⟩:=w;rw[Bool.and_eq_false_iff] at h;rw[zA,zgb,h.resolve_left (by decide)];exact⟨rfl,rfl⟩
 |error e=>exact w
theorem zse {C:Cx} {d:Nat} {x:PR} {q:PS} {z:Int} (A:Is x q z) (w:(decide (z<0)&&isT C q.pos 4 zc0)=false) (h:(decide (z<0)&&isT C q.pos 4 zbp)=false):Is (bd x (pE C .sumT d)) q z:=by
 cases x with
 |ok a=>
  obtain⟨rfl,rfl⟩:=A;rw[Bool.and_eq_false_iff] at w h;rw[zA,zfq,w.resolve_left (by decide),h.resolve_left (by decide)];exact⟨rfl,rfl⟩
 |error e=>exact A
theorem zsf {C:Cx} {i:Nat} (h:isT C i 4 zc0=true):isT C i 4 zbp=false:=by
 simp only[isT,Bool.and_eq_true,beq_iff_eq] at h;simp only[isT,h.2];rw[Bool.and_eq_false_iff];exact .inr (by simp)
theorem zlq {C:Cx} {L I base m:Nat} (hP:zik C L I base m):zll C L I base m:=by
 intro x S q z d w hx hm hl M;have HP:=zc hP;have HM:=zc hm;have HX:=zc hx;have HL:=zc hl;have O:=hm.few;clear hP hm hx hl;unfold pv;go_enter func158,ntmps158;go_wp2_with fail;refine (HP.o x S q z d _ HX.o ((HM.o.alloc _).alloc _) HL.o M).mono ?_;rintro e w1 ⟨S1,q1,z1,rfl,aa,m1,s1⟩;have F:=HM.o.fm2 m1 s1;have J:=F.x0.boxC;unfold pv;go_wp2;go_loopg [] (C.ts.length+1) (fun k wr=>∃(x':PR) (H:Sv) (A:PS) (z':Int),Is x' A z'/\bd x' (pE C .prodT d)=bd x (pE C .prod d)/\(z'<0->C.ts.length-A.pos<k)/\(z'<0->C.ts.length-A.pos<m)/\Mem C L I base H A wr/\SB w.heap.size S w H wr/\Bx L H wr w.heap.size #[.slice (some ⟨L,0,none⟩) C.ts.length I,.int .i64 A.pos,.int .i64 C.fin,.bool C.scr,.slice H.rq.a A.rq.length H.rq.cap,.slice H.im.a A.im.length H.im.cap,.slice H.ep.a A.ep.length H.ep.cap,.slice H.st.a A.st.length H.st.cap,.slice H.ex.a A.ex.length H.ex.cap,.slice H.la.a A.la.length H.la.cap,.int .i64 z',.int .i64 d]/\Bx L H wr (w.heap.size+1) #[.slice none 0 0,.int .i64 0,.int .i64 0,.bool false,.slice none 0 0,.slice none 0 0,.slice none 0 0,.slice none 0 0,.slice none 0 0,.slice none 0 0,.int .i64 0,.int .i64 0])
 case atStart=>exact⟨_,S1,q1,z1,aa.o,by rw[zP];exact zag fun a _=>(zjm C d a).symm,fun _=>by omega,fun Y=>zrY HX.o aa.o HL.o Y,(F.put0 ..).m,(F.put0 ..).t,(F.put0 ..).x0,(F.put0 ..).x1⟩
 case round=>
  obtain⟨x2,S2,K,z2,i2,e2,l2,b2,m2,t2,X0,X1⟩:=hrel;have F:=Fm.of2 X0 X1 m2 t2 (by omega) (by omega) (by omega);have X:=zc i2;have ac:=zc e2;have af:=zc l2;have ae:=zc b2;have ak:=m2.inv.ex;clear X0 X1 i2 m2 t2 e2 l2 b2;cases Z:(decide (z2<0)&&isT C K.pos 4 zy) with
  |true=>
   have J:=F.x0.boxC;go_wp2_with fail;refine (zk C L I base S2 K z2 d 4 zy _ F.m.tok O (by decide)).mono ?_;rintro e w3 ⟨rfl,V⟩;rw[Z];replace F:=F.below V;clear J;rw[Bool.and_eq_true,decide_eq_true_eq] at Z;obtain⟨Y,hs⟩:=Z;have hp:K.pos<C.ts.length:=za9 hs (by decide);obtain⟨rfl,rfl⟩:=zaJ X.o Y;have ah:=af.o Y;have al:=ae.o Y
   skip
   have J:=F.x0.boxC;go_wp2_with fail;refine (HP.o (.ok (adv K)) S2 (adv K) (-1) d _ (zab _) ((F.adv hp).set0_1 _).m (fun _=>by rw[zz];omega) M).mono ?_;rintro e w4 ⟨S4,q4,z4,rfl,U,m4,s4⟩;replace F:=(F.set0_1 _).stp m4 s4;clear J;have J:=F.x0.boxC;unfold pv;go_upto_region 6 with fail;refine (F.put0 ..).cut ?_;clear J;intro w5 F;have J:=F.x0.boxC;have ag:=F.m.inv.ex;go_wp2_with fail;refine (zdi C L I base _ S4 q4 z4 d ⟨8,0,sNone,sNone,(K.ex.length:Int)-1,(q4.ex.length:Int)-1⟩ _ U.o F.m (fun h=>zsa U.o h)).mono ?_;rintro e w6 ⟨S6,q6,z6,rfl,ad,m6,s6⟩;replace F:=F.stp m6 s6;clear J;have HI:Hid (Is (bd (bd (.ok (adv K)) (pE C .part d)) fun A=>zR C ⟨8,0,sNone,sNone,(K.ex.length:Int)-1,(A.ex.length:Int)-1⟩ A) q6 z6):=by rw[<-zil U.o (fun A=>⟨8,0,sNone,sNone,(K.ex.length:Int)-1,(A.ex.length:Int)-1⟩)];exact ad.o
   have N:Hid (z6<0->K.pos+1<=q6.pos):=fun h=>zsb HI.o h;have J:=F.x0.boxC;unfold pv;go_wp2;go_roundg (gk-1)
   case rel=>exact⟨_,S6,q6,z6,HI.o,by rw[<-ac.o];exact (zsc (d:=d) hs hp).symm,fun h=>by have:=N.o h;omega,fun h=>by have:=N.o h;omega,(F.put0 ..).m,(F.put0 ..).t,(F.put0 ..).x0,(F.put0 ..).x1⟩
   case measure=>omega
  |false=>
   have J:=F.x0.boxC;go_wp2_with fail;refine (zk C L I base S2 K z2 d 4 zy _ F.m.tok O (by decide)).mono ?_;rintro e w3 ⟨rfl,V⟩;rw[Z];replace F:=F.below V;clear J;have J:=F.x0.boxC;obtain⟨b0,b1,b2,b3,b4,b5,b6,b7,b8,b9,aj,ai,bf⟩:=F.x1.box;go_wp2;refine (F.x1.put ..).ret rfl rfl ?_;exact (F.put1 ..).done rfl (show Is (bd x (pE C .prod d)) K z2 from by rw[<-ac.o];exact zsd X.o Z)
theorem zlr {C:Cx} {O I base m:Nat} (hP:zll C O I base m):SumOK C O I base m:=by
 intro x S q z d w hx hm hl U;have HP:=zc hP;have HM:=zc hm;have HX:=zc hx;have HL:=zc hl;have K:=hm.few;clear hP hm hx hl;unfold pv;go_enter func119,ntmps119;go_wp2_with fail;refine (HP.o x S q z d _ HX.o ((HM.o.alloc _).alloc _) HL.o U).mono ?_;rintro e w1 ⟨S1,q1,z1,rfl,ag,m1,s1⟩;have F:=HM.o.fm2 m1 s1;have H:=F.x0.boxC;unfold pv;go_wp2;go_loopg [] (C.ts.length+1) (fun k wr=>∃(x':PR) (N:Sv) (J:PS) (z':Int),Is x' J z'/\bd x' (pE C .sumT d)=bd x (pE C .sum d)/\(z'<0->C.ts.length-J.pos<k)/\(z'<0->C.ts.length-J.pos<m)/\Mem C O I base N J wr/\SB w.heap.size S w N wr/\Bx O N wr w.heap.size #[.slice (some ⟨O,0,none⟩) C.ts.length I,.int .i64 J.pos,.int .i64 C.fin,.bool C.scr,.slice N.rq.a J.rq.length N.rq.cap,.slice N.im.a J.im.length N.im.cap,.slice N.ep.a J.ep.length N.ep.cap,.slice N.st.a J.st.length N.st.cap,.slice N.ex.a J.ex.length N.ex.cap,.slice N.la.a J.la.length N.la.cap,.int .i64 z',.int .i64 d]/\Bx O N wr (w.heap.size+1) #[.slice none 0 0,.int .i64 0,.int .i64 0,.bool false,.slice none 0 0,.slice none 0 0,.slice none 0 0,.slice none 0 0,.slice none 0 0,.slice none 0 0,.int .i64 0,.int .i64 0])
 case atStart=>exact⟨_,S1,q1,z1,ag.o,by rw[zP];exact zag fun a _=>(zjl C d a).symm,fun _=>by omega,fun Y=>zrZ HX.o ag.o HL.o Y,(F.put0 ..).m,(F.put0 ..).t,(F.put0 ..).x0,(F.put0 ..).x1⟩
 case round=>
  obtain⟨x2,Z,A,X,i2,e2,l2,b2,m2,t2,X0,X1⟩:=hrel;have F:=Fm.of2 X0 X1 m2 t2 (by omega) (by omega) (by omega);have aa:=zc i2;have af:=zc e2;have ai:=zc l2;have ah:=zc b2;have au:=m2.inv.ex;clear X0 X1 i2 m2 t2 e2 l2 b2;cases hc:(decide (X<0)&&isT C A.pos 4 zc0) with
  |true=>
   have H:=F.x0.boxC;go_wp2_with fail;refine (zk C O I base Z A X d 4 zc0 _ F.m.tok K (by decide)).mono ?_;rintro e w3 ⟨rfl,ad⟩;rw[hc];replace F:=F.below ad;clear H;rw[Bool.and_eq_true,decide_eq_true_eq] at hc;obtain⟨Y,hs⟩:=hc;have aj:isT C A.pos 4 zbp=false:=zsf hs;have L:(decide (X<0)&&isT C A.pos 4 zbp)=false:=by rw[aj,Bool.and_false]
   have H:=F.x0.boxC;go_wp2_with fail;refine (zk C O I base Z A X d 4 zbp _ F.m.tok K (by decide)).mono ?_;rintro e w4 ⟨rfl,V⟩;rw[L];replace F:=F.below V;clear H;clear L;have hp:A.pos<C.ts.length:=za9 hs (by decide);obtain⟨rfl,rfl⟩:=zaJ aa.o Y;have al:=ai.o Y;have ap:=ah.o Y
   skip
   have H:=F.x0.boxC;go_wp2_with fail;refine (HP.o (.ok (adv A)) Z (adv A) (-1) d _ (zab _) ((F.adv hp).set0_1 _).m (fun _=>by rw[zz];omega) U).mono ?_;rintro e w5 ⟨S5,q5,z5,rfl,ae,m5,s5⟩;replace F:=(F.set0_1 _).stp m5 s5;clear H;have H:=F.x0.boxC;unfold pv;go_upto_region 9 with fail;refine (F.put0 ..).cut ?_;clear H;intro w6 F;have H:=F.x0.boxC;have ak:=F.m.inv.ex;go_wp2_with fail;refine (zdi C O I base _ S5 q5 z5 d ⟨6,0,sNone,sNone,(A.ex.length:Int)-1,(q5.ex.length:Int)-1⟩ _ ae.o F.m (fun h=>zln ae.o h)).mono ?_;rintro e w7 ⟨S7,q7,z7,rfl,am,m7,s7⟩;replace F:=F.stp m7 s7;clear H;have HI:Hid (Is (bd (bd (.ok (adv A)) (pE C .prod d)) fun J=>zR C ⟨6,0,sNone,sNone,(A.ex.length:Int)-1,(J.ex.length:Int)-1⟩ J) q7 z7):=by rw[<-zil ae.o (fun J=>⟨6,0,sNone,sNone,(A.ex.length:Int)-1,(J.ex.length:Int)-1⟩)];exact am.o
   have M:Hid (z7<0->A.pos+1<=q7.pos):=fun h=>zlo HI.o h;have H:=F.x0.boxC;unfold pv;go_wp2;go_roundg (gk-1)
   case rel=>exact⟨_,S7,q7,z7,HI.o,by rw[<-af.o];exact (zlp (d:=d) (by rw[hs];rfl) (show zd2 C A.pos=6 by rw[zd2,aj];rfl) hp).symm,fun h=>by have:=M.o h;omega,fun h=>by have:=M.o h;omega,(F.put0 ..).m,(F.put0 ..).t,(F.put0 ..).x0,(F.put0 ..).x1⟩
   case measure=>omega
  |false=>
   have H:=F.x0.boxC;go_wp2_with fail;refine (zk C O I base Z A X d 4 zc0 _ F.m.tok K (by decide)).mono ?_;rintro e w3 ⟨rfl,ad⟩;rw[hc];replace F:=F.below ad;clear H;cases L:(decide (X<0)&&isT C A.pos 4 zbp) with
   |true=>
    have H:=F.x0.boxC;go_wp2_with fail;refine (zk C O I base Z A X d 4 zbp _ F.m.tok K (by decide)).mono ?_;rintro e w4 ⟨rfl,V⟩;rw[L];replace F:=F.below V;clear H;have H:=F.x0.boxC;go_wp2_with fail;refine (zk C O I base Z A X d 4 zbp _ F.m.tok K (by decide)).mono ?_;rintro e w5 ⟨rfl,an⟩;rw[L];replace F:=F.below an;clear H;rw[Bool.and_eq_true,decide_eq_true_eq] at L;obtain⟨Y,hs⟩:=L;have hp:A.pos<C.ts.length:=za9 hs (by decide);obtain⟨rfl,rfl⟩:=zaJ aa.o Y;have al:=ai.o Y;have ap:=ah.o Y
    skip
    have H:=F.x0.boxC;go_wp2_with fail;refine (HP.o (.ok (adv A)) Z (adv A) (-1) d _ (zab _) ((F.adv hp).set0_1 _).m (fun _=>by rw[zz];omega) U).mono ?_;rintro e w6 ⟨S6,q6,z6,rfl,ac,m6,s6⟩;replace F:=(F.set0_1 _).stp m6 s6;clear H;have H:=F.x0.boxC;unfold pv;go_upto_region 9 with fail;refine (F.put0 ..).cut ?_;clear H;intro w7 F;have H:=F.x0.boxC;have ak:=F.m.inv.ex;go_wp2_with fail;refine (zdi C O I base _ S6 q6 z6 d ⟨7,0,sNone,sNone,(A.ex.length:Int)-1,(q6.ex.length:Int)-1⟩ _ ac.o F.m (fun h=>zln ac.o h)).mono ?_;rintro e w8 ⟨S8,q8,z8,rfl,ao,m8,s8⟩;replace F:=F.stp m8 s8;clear H;have HI:Hid (Is (bd (bd (.ok (adv A)) (pE C .prod d)) fun J=>zR C ⟨7,0,sNone,sNone,(A.ex.length:Int)-1,(J.ex.length:Int)-1⟩ J) q8 z8):=by rw[<-zil ac.o (fun J=>⟨7,0,sNone,sNone,(A.ex.length:Int)-1,(J.ex.length:Int)-1⟩)];exact ao.o
    have M:Hid (z8<0->A.pos+1<=q8.pos):=fun h=>zlo HI.o h;have H:=F.x0.boxC;unfold pv;go_wp2;go_roundg (gk-1)
    case rel=>exact⟨_,S8,q8,z8,HI.o,by rw[<-af.o];exact (zlp (d:=d) (by rw[hs,Bool.or_true]) (show zd2 C A.pos=7 by rw[zd2,hs];rfl) hp).symm,fun h=>by have:=M.o h;omega,fun h=>by have:=M.o h;omega,(F.put0 ..).m,(F.put0 ..).t,(F.put0 ..).x0,(F.put0 ..).x1⟩
    case measure=>omega
   |false=>
    have H:=F.x0.boxC;go_wp2_with fail;refine (zk C O I base Z A X d 4 zbp _ F.m.tok K (by decide)).mono ?_;rintro e w4 ⟨rfl,V⟩;rw[L];replace F:=F.below V;clear H;have H:=F.x0.boxC;obtain⟨b0,b1,b2,b3,b4,b5,b6,b7,b8,b9,ar,aq,bf⟩:=F.x1.box;go_wp2;refine (F.x1.put ..).ret rfl rfl ?_;exact (F.put1 ..).done rfl (show Is (bd x (pE C .sum d)) A X from by rw[<-af.o];exact zse aa.o hc L)
theorem zsg (C:Cx) (I h base:Nat):zik C I h base 0:=by
 intro x S q z d w N J M O;by_cases L:z<0
 ·have:=M L;omega
 ·obtain⟨e,rfl,rfl⟩:=zd9 N L;rw[zeA];obtain⟨K,A,H⟩:=C;cases H with
  |true=>exact zlj K A I h base S q d w J e
  |false=>exact zlk K A I h base S q d w J e
theorem zsh (C:Cx) (q h base:Nat) (m:Nat):SumOK C q h base m:=by
 induction m with
 |zero=>exact zlr (zlq (zsg C q h base))
 |succ m w=>exact zlr (zlq (zrX w))
theorem zdu (C:Cx) (A h base:Nat) (x:PR) (S:Sv) (q:PS) (z:Int) (w:World) (I:Is x q z) (H:Mem C A h base S q w):
  Calls prog 119 #[pv C A h S q z 0] w (Out C A h base (bd x (pE C .sum 0)) 0 S w):=
 zsh C A h base (C.ts.length+1) x S q z 0 w I H (fun _=>by omega) (by omega)
theorem Is2.withN {y:PRN} {q q':PS} {z z':Int} {n:BA} {F:PR->BA->PR} (h:Is2 y q z n) (H: ∀e n,F (.error e) n= .error e) (w:Is (F (zaT y) n) q' z'):Is2 (withN y F) q' z' n:=by
 cases y with
 |ok a=>
  obtain⟨_,_,rfl⟩:=h;have e:zaT (.ok a)= .ok a.1:=rfl;rw[e] at w;show Is2 (bd (F (.ok a.1) a.2) fun q=>.ok (q,a.2)) q' z' a.2;cases A:F (.ok a.1) a.2 with
  |ok b=>rw[A] at w;exact⟨w.1,w.2,rfl⟩
  |error e=>rw[A] at w;exact w
 |error e=>
  have I:zaT (.error e)= .error e:=rfl;rw[I,H] at w;exact w
theorem zls {C:Cx} {A h base:Nat} {y:PRN} {d:Nat} {S q:Sv} {w w':World} {q':PS} {z':Int} {z:BA} {v:Value} (I:v=pv C A h q q' z' d) (K:Is2 y q' z' z) (H:Mem C A h base q q' w') (J:SB w.heap.size S w q w'):zdJ C A h base y d S w (.returned (.tuple #[v,.string z])) w':=
 ⟨q,q',z',z,by rw[I],K,H,J.done⟩
theorem zim (C:Cx) (z h base:Nat) (S:Sv) (q:PS) (w:World) (U:Mem C z h base S q w):
  Calls prog 116 #[pv C z h S q (-1) 0] w (zdJ C z h base (zcO C q) 0 S w):=by
 have N:=zc U;clear U;unfold pv;go_enter func116,ntmps116;go_wp2_with fail;refine (zaP C z h base (.ok q) S q (-1) 0 zG _ (zab q) ((N.o.alloc _).alloc _)).mono ?_;rintro e w1 ⟨S1,q1,z1,rfl,I,m1,s1⟩;have F:=N.o.fm2 m1 s1;go_wp2_with fail;refine (zbq C z h base _ S1 q1 z1 0 false _ I.o F.m).mono ?_;rintro e w2 ⟨S2,q2,z2,n2,rfl,H,X,s2⟩;replace F:=F.stp X s2;have O:w.heap.size+1<w2.heap.size:=F.x1.lt;unfold pv;go_wp2_with fail;refine (zaj C z h base _ S2 q2 z2 0 cEq _ H.o.fst (F.alloc _).m).mono ?_;rintro e w3 ⟨S3,q3,z3,rfl,M,Y,s3⟩;replace F:=(F.new2 _).stp Y s3;go_wp2_with fail;refine (zdu C z h base _ S3 q3 z3 _ M.o F.m).mono ?_;rintro e w4 ⟨S4,q4,z4,rfl,K,m4,V⟩;replace F:=F.stp m4 V;go_wp2_with fail;refine (zaj C z h base _ S4 q4 z4 0 cSemi _ K.o F.m).mono ?_;rintro e w5 ⟨S5,q5,Z,rfl,A,m5,s5⟩;replace F:=F.stp m5 s5;have L:=F.x2.boxC;unfold pv;go_upto_region 3 with fail;refine (F.put2 ..).cut ?_;clear L;intro w6 F;have L:=F.x2.boxC;go_wp2_with fail;refine (zdj C z h base _ S5 q5 Z 0 1 n2 _ A.o F.m (zby A.o)).mono ?_;rintro e w7 ⟨S7,q7,z7,rfl,J,m7,s7⟩;replace F:=F.stp m7 s7;clear L;have bb:=F.x1.boxC;unfold pv;go_wp2;refine bodyPost_ret (zaA rfl _ _ (w.heap.size+1) 121 _ (0,0) _ rfl ((F.x1.put ..)).heap underlying121 rfl (by kernel_rfl)) rfl ?_;exact zls rfl (H.o.withN (F:=fun x n=>_) (fun _ _=>rfl) J.o) (F.put1 ..).m (F.put1 ..).t
theorem zin (C:Cx) (z h base:Nat) (S:Sv) (q:PS) (w:World) (hm:Mem C z h base S q w):
  Calls prog 117 #[pv C z h S q (-1) 0] w (zdJ C z h base (fnP C q) 0 S w):=by
 have HM:=zc hm;clear hm;unfold pv;go_enter func117,ntmps117;go_wp2_with fail;refine (zaP C z h base (.ok q) S q (-1) 0 zV _ (zab q) ((HM.o.alloc _).alloc _)).mono ?_;rintro e w1 ⟨S1,q1,z1,rfl,U,m1,s1⟩;have F:=HM.o.fm2 m1 s1;go_wp2_with fail;refine (zbq C z h base _ S1 q1 z1 0 false _ U.o F.m).mono ?_;rintro e w2 ⟨S2,q2,z2,n2,rfl,I,m2,s2⟩;replace F:=F.stp m2 s2;have aj:w.heap.size+1<w2.heap.size:=F.x1.lt;unfold pv;go_wp2_with fail;refine (zaj C z h base _ S2 q2 z2 0 zp _ I.o.fst (F.alloc _).m).mono ?_;rintro e w3 ⟨S3,q3,z3,rfl,ag,m3,s3⟩;replace F:=(F.new2 _).stp m3 s3;go_wp2_with fail;refine (zaj C z h base _ S3 q3 z3 0 za8 _ ag.o F.m).mono ?_;rintro e w4 ⟨S4,q4,z4,rfl,X,m4,s4⟩;replace F:=F.stp m4 s4;go_wp2_with fail;refine (zaj C z h base _ S4 q4 z4 0 zN _ X.o F.m).mono ?_;rintro e w5 ⟨S5,q5,z5,rfl,ac,m5,s5⟩;replace F:=F.stp m5 s5;have A:=F.x2.boxC;unfold pv;go_upto_region 3 with fail;refine (F.put2 ..).cut ?_;clear A;intro w6 F;have A:=F.x2.boxC;go_wp2_with fail;refine (zaP C z h base _ S5 q5 z5 0 ze9 _ ac.o F.m).mono ?_;rintro e w7 ⟨S7,q7,z7,rfl,V,m7,s7⟩;replace F:=F.stp m7 s7;clear A;go_wp2_with fail;refine (zdu C z h base _ S7 q7 z7 _ V.o F.m).mono ?_;rintro e w8 ⟨S8,q8,z8,rfl,af,m8,s8⟩;replace F:=F.stp m8 s8;have A:=F.x2.boxC;unfold pv;go_upto_region 4 with fail;refine (F.put2 ..).cut ?_;clear A;intro w9 F;have A:=F.x2.boxC;go_wp2_with fail;refine (zaj C z h base _ S8 q8 z8 0 cSemi _ af.o F.m).mono ?_;rintro e ap ⟨ab,ai,L,rfl,K,ad,M⟩;replace F:=F.stp ad M;clear A;go_wp2_with fail;refine (zaj C z h base _ ab ai L 0 zb1 _ K.o F.m).mono ?_;rintro e al ⟨Y,ae,ah,rfl,H,N,O⟩;replace F:=F.stp N O;have A:=F.x2.boxC;unfold pv;go_upto_region 5 with fail;refine (F.put2 ..).cut ?_;clear A;intro aq F;have A:=F.x2.boxC;go_wp2_with fail;refine (zdj C z h base _ Y ae ah 0 2 n2 _ H.o F.m (zby H.o)).mono ?_;rintro e ao ⟨an,am,ak,rfl,J,aa,Z⟩;replace F:=F.stp aa Z;clear A;have bb:=F.x1.boxC;unfold pv;go_wp2;refine bodyPost_ret (zaA rfl _ _ (w.heap.size+1) 121 _ (0,0) _ rfl ((F.x1.put ..)).heap underlying121 rfl (by kernel_rfl)) rfl ?_;exact zls rfl (I.o.withN (F:=fun x n=>_) (fun _ _=>rfl) J.o) (F.put1 ..).m (F.put1 ..).t
end Go.Proofs.YtgcbmogmniahjaaGreat
