/- Facts and walks. -/
import Derived.Test.YtgcbmogmniahjaaGreatR24
import Derived.Deep.DeepCutAuto
namespace Go.Proofs.YtgcbmogmniahjaaGreat
open List (mem_cons_self mem_append_right)
open Go.Proofs.Tryz
set_option maxRecDepth 100000
set_option maxHeartbeats 6400000
open Go.RowKit Go.PlainAid
abbrev set12 (w:World) (b:Nat) (x0 x1 x2 x3 x4 x5 x6 x7 x8 x9 x10 x11:Value):World:=
 ((((((((((((w.setCell ⟨b,0,none⟩ x0).setCell ⟨b,1,none⟩ x1).setCell ⟨b,2,none⟩ x2).setCell ⟨b,3,none⟩ x3).setCell ⟨b,4,none⟩ x4).setCell ⟨b,5,none⟩ x5).setCell ⟨b,6,none⟩ x6).setCell ⟨b,7,none⟩ x7).setCell ⟨b,8,none⟩ x8).setCell ⟨b,9,none⟩ x9).setCell ⟨b,10,none⟩ x10).setCell ⟨b,11,none⟩ x11)
variable (C:Cx) (w:List Tk) (g b c d:Nat) (S:Sv) (q:PS) (n:Nat) (W:World) {V z:World} {k m s x:Nat} {T p:Sv} {t:Array Value} {D:Cx} {h A:PS} {B E F G H I:Value} {J:Func} {K:Tmp} {L:Code} {M:Act} {N:PR} {u O:Int} {P:Rw} {Q:List Ep} {R:BA} {U:Bool} {X:PRN} {Y:PS->Ex}
theorem zis (a:Addr) (u:Value):(W.setCell a u).heap.size=W.heap.size:=by show (W.heap.modify _ _).size=_;simp
theorem zrZ (b:Nat) (z H L I A M E K D J h q:Value):(set12 W b z H L I A M E K D J h q).heap.size=W.heap.size:=by
 unfold set12;simp only[zis]
theorem zfU {b k:Nat} (h:k≠b) (A I M J D N H L E K q z:Value):(set12 V b A I M J D N H L E K q z).heap[k]? =V.heap[k]?:=by
 unfold set12;rw[zx h,zx h,zx h,zx h,zx h,zx h,zx h,zx h,zx h,zx h,zx h,zx h]
structure Bx (gt:Nat) (S:Sv) (w:World) (b:Nat) (cs:Array Value):Prop where
 heap:w.heap[b]? =some (.cells cs 121 (0,0))
 free: ¬S.has b
 ne:b≠gt
theorem Bx.lt (h:Bx k T V m t):m<V.heap.size:=(aLt h.heap)
theorem Bx.stp (h:Bx k T V m t) (Z:Stp T V p z):Bx k p z m t:=
 ⟨(Z.block m h.lt h.free).trans h.heap,fun g=>(Z.sub m g).elim h.free fun A=>by have:=h.lt;omega,h.ne⟩
theorem Bx.below (h:Bx k T V m t) (Z:Bw V z):Bx k T z m t:=⟨(Z.block m h.lt).trans h.heap,h.free,h.ne⟩
theorem Bx.alloc (h:Bx k T V m t) (o:Obj):Bx k T (V.alloc o) m t:=h.below (bA0)
theorem Bx.new (Z:Mem D k m s T h V) (cs:Array Value):Bx k T (V.alloc (.cells cs 121 (0,0))) V.heap.size cs:=
 ⟨heap_alloc_new V _,fun g=>by have:=(Z.own.has g).2;omega,by have:=(zaw Z.tok).1;omega⟩
theorem Bx.set {b:Nat} (h:Bx k T V b t) (i:Nat) (u:Value):Bx k T (V.setCell ⟨b,i,none⟩ u) b (t.setIfInBounds i u):=⟨zc4 h.heap,h.free,h.ne⟩
theorem Bx.set_other (h:Bx k T V m t) (q:m≠s) (i:Nat) (u:Value):Bx k T (V.setCell ⟨s,i,none⟩ u) m t:=⟨(zx q).trans h.heap,h.free,h.ne⟩
theorem Bx.put {v6 v7 v8 v9 v10 v11:Value} (h:Bx k T V m #[B,E,F,G,H,I,v6,v7,v8,v9,v10,v11]) (A f M J D N e L Z K q z:Value):
  Bx k T (set12 V m A f M J D N e L Z K q z) m #[A,f,M,J,D,N,e,L,Z,K,q,z]:=⟨zbf h.heap,h.free,h.ne⟩
theorem Bx.other (h:Bx k T V m t) (K:m≠s) (A I N J D O H M E L q z:Value):Bx k T (set12 V s A I N J D O H M E L q z) m t:=⟨(zfU K ..).trans h.heap,h.free,h.ne⟩
theorem Bx.at1 {v6 v7 v8 v9 v10 v11:Value} (h:Bx k T V m #[B,E,F,G,H,I,v6,v7,v8,v9,v10,v11]) (u:Value):Bx k T (V.setCell ⟨m,1,none⟩ u) m #[B,u,F,G,H,I,v6,v7,v8,v9,v10,v11]:=by simpa using h.set 1 u
theorem Bx.at11 {v6 v7 v8 v9 v10 v11:Value} (h:Bx k T V m #[B,E,F,G,H,I,v6,v7,v8,v9,v10,v11]) (u:Value):Bx k T (V.setCell ⟨m,11,none⟩ u) m #[B,E,F,G,H,I,v6,v7,v8,v9,v10,u]:=by simpa using h.set 11 u
theorem Bx.box {v6 v7 v8 v9 v10 v11:Value} (h:Bx k T V m #[B,E,F,G,H,I,v6,v7,v8,v9,v10,v11]):Box V m B E F G H I v6 v7 v8 v9 v10 v11:=zar h.heap
theorem Mem.set {b:Nat} (f:Mem D k m s T h V) (z:Bx k T V b t) (i:Nat) (u:Value):Mem D k m s T h (V.setCell ⟨b,i,none⟩ u):=
 ⟨f.own.keep fun Z g=>zx (b:=Z) fun e=>z.free (by rw[<-e];exact g),f.inv,zbM f.tok (zx z.ne.symm),f.few,by rw[zis];exact f.base⟩
theorem Mem.put (i:Mem D k m s T h V) (Z:Bx k T V x t) (E K O L H U J N I M z A:Value):Mem D k m s T h (set12 V x E K O L H U J N I M z A):=
 ⟨i.own.keep fun f g=>zfU (k:=f) (fun e=>Z.free (by rw[<-e];exact g)) _ _ _ _ _ _ _ _ _ _ _ _,i.inv,zbM i.tok (zfU Z.ne.symm ..),i.few,by rw[zrZ];exact i.base⟩
structure SB (B:Nat) (S:Sv) (w:World) (S':Sv) (w':World):Prop where
 os:w'.os=w.os
 tape:w'.tape=w.tape
 output:w'.output=w.output
 size:w.heap.size<=w'.heap.size
 low:B<=w.heap.size
 block: ∀k,k<B->¬S.has k->w'.heap[k]? =w.heap[k]?
 sub: ∀k,S'.has k->S.has k∨B<=k
theorem SB.start (h:Bw V z):SB V.heap.size T V T z:=⟨h.os,h.tape,h.output,h.size,Nat.le_refl _,fun k Z _=>h.block k Z,fun _ g=>.inl g⟩
theorem SB.step {e:Sv} {A:World} (h:SB k T V p z) (Z:Stp p z e A):SB k T V e A:=
 ⟨Z.os.trans h.os,Z.tape.trans h.tape,Z.output.trans h.output,Nat.le_trans h.size Z.size,h.low,
  fun i q D=>(Z.block i (by have:=h.size;have:=h.low;omega) fun g=>(h.sub i g).elim D fun E=>by omega).trans (h.block i q D),
  fun i q=>(Z.sub i q).elim (h.sub i) fun g=>.inr (by have:=h.size;have:=h.low;omega)⟩
theorem SB.below {q:World} (h:SB k T V p z) (Z:Bw z q):SB k T V p q:=h.step (Stp.below Z)
theorem SB.alloc (h:SB k T V p z) (o:Obj):SB k T V p (z.alloc o):=h.below (bA0)
theorem SB.set (h:SB k T V p z) {b:Nat} (A:k<=b) (i:Nat) (u:Value):SB k T V p (z.setCell ⟨b,i,none⟩ u):=
 ⟨h.os,h.tape,h.output,by rw[zis];exact h.size,h.low,fun Z q e=>(zx (by omega)).trans (h.block Z q e),h.sub⟩
theorem SB.put (h:SB k T V p z) (q:k<=m) (D J N K E O I M H L Z A:Value):SB k T V p (set12 z m D J N K E O I M H L Z A):=
 (((((((((((h.set q 0 D).set q 1 J).set q 2 N).set q 3 K).set q 4 E).set q 5 O).set q 6 I).set q 7 M).set q 8 H).set q 9 L).set q 10 Z).set q 11 A
theorem SB.done (h:SB V.heap.size T V p z):Stp T V p z:=⟨h.os,h.tape,h.output,h.size,h.block,h.sub⟩
theorem Mem.two {f:Array Value} (e:Mem D k m s T h V) (Z:Below ((V.alloc (.cells t 121 (0,0))).alloc (.cells f 121 (0,0))).heap.size ((V.alloc (.cells t 121 (0,0))).alloc (.cells f 121 (0,0))) z):
  Bx k T z V.heap.size t/\Bx k T z (V.heap.size+1) f/\Mem D k m s T h z/\SB V.heap.size T V T z:=
 ⟨((Bx.new e _).alloc _).below Z,by have:=(Bx.new (e.alloc (.cells t 121 (0,0))) f).below Z;rw[zg] at this;exact this,e.later (zbm Z),SB.start (zbm Z)⟩
theorem Mem.two2 {f:Array Value} (e:Mem D k m s T h V) (Z:Stp T ((V.alloc (.cells t 121 (0,0))).alloc (.cells f 121 (0,0))) p z):
  Bx k p z V.heap.size t/\Bx k p z (V.heap.size+1) f/\SB V.heap.size T V p z:=
 ⟨((Bx.new e _).alloc _).stp Z,by have:=(Bx.new (e.alloc (.cells t 121 (0,0))) f).stp Z;rw[zg] at this;exact this,(SB.start (zbg V _ _)).step Z⟩
theorem Bx.boxC {v6 v7 v8 v9 v10 v11:Value} (h:Bx k T V m #[B,E,F,G,H,I,v6,v7,v8,v9,v10,v11]):V.cell? ⟨m,0,none⟩=some B/\V.cell? ⟨m,1,none⟩=some E/\V.cell? ⟨m,2,none⟩=some F/\V.cell? ⟨m,3,none⟩=some G/\V.cell? ⟨m,4,none⟩=some H/\V.cell? ⟨m,5,none⟩=some I/\V.cell? ⟨m,6,none⟩=some v6/\V.cell? ⟨m,7,none⟩=some v7/\V.cell? ⟨m,8,none⟩=some v8/\V.cell? ⟨m,9,none⟩=some v9/\V.cell? ⟨m,10,none⟩=some v10/\V.cell? ⟨m,11,none⟩=some v11/\∀i,V.frozen? ⟨m,i,none⟩=false:=
 have Z:=h.box
 ⟨Z.c0,Z.c1,Z.c2,Z.c3,Z.c4,Z.c5,Z.c6,Z.c7,Z.c8,Z.c9,Z.c10,Z.c11,Z.fz⟩
theorem Bx.ret {v6 v7 v8 v9 v10 v11:Value} (h:Bx k T V m #[B,E,F,G,H,I,v6,v7,v8,v9,v10,v11]) {R:Ending->World->Prop} (D:J.results= #[.cell K 121]) (z:t.getD K undef= .pointer (some ⟨m,0,none⟩)) (A:R (.returned (.agg #[B,E,F,G,H,I,v6,v7,v8,v9,v10,v11])) V):bodyPost prog J R .ret {tmps:=t,defers:=[]} V:=
 bodyPost_ret (results_cell_row D _ _ m 121 _ (0,0) _ z h.heap underlying121 rfl (by kernel_rfl)) rfl A
structure Fm (C:Cx) (gt cap base:Nat) (S0:Sv) (w0:World) (S:Sv) (q:PS) (bs:List (Nat×Array Value)) (w:World):Prop where
 x: ∀b∈bs,Bx gt S w b.1 b.2
 d:bs.Pairwise fun a b=>a.1≠b.1
 g: ∀b∈bs,w0.heap.size<=b.1
 m:Mem C gt cap base S q w
 t:SB w0.heap.size S0 w0 S w
section
variable {C:Cx} {gt cap base b b0 b1 b2 b3:Nat} {S0 S S1:Sv} {w0 w w1:World} {q q1:PS} {bs l1:List (Nat×Array Value)} {cs c0 c1 c2 c3:Array Value} {v0 v1 v2 v3 v4 v5 v6 v7 v8 v9 v10 v11:Value}
theorem Fm.x0 (F:Fm C gt cap base S0 w0 S q ((b0,c0)::bs) w):Bx gt S w b0 c0:=F.x _ (mem_cons_self ..)
theorem Fm.x1 (F:Fm C gt cap base S0 w0 S q ((b0,c0)::(b1,c1)::bs) w):Bx gt S w b1 c1:=F.x (b1,c1) (by simp)
theorem Fm.x2 (F:Fm C gt cap base S0 w0 S q ((b0,c0)::(b1,c1)::(b2,c2)::bs) w):Bx gt S w b2 c2:=F.x (b2,c2) (by simp)
theorem Fm.x3 (F:Fm C gt cap base S0 w0 S q ((b0,c0)::(b1,c1)::(b2,c2)::(b3,c3)::bs) w):Bx gt S w b3 c3:=F.x (b3,c3) (by simp)
theorem Fm.below (F:Fm C gt cap base S0 w0 S q bs w) (k:Bw w w1):Fm C gt cap base S0 w0 S q bs w1:=⟨fun b h=>(F.x b h).below k,F.d,F.g,F.m.later k,F.t.below k⟩
theorem Fm.stp (F:Fm C gt cap base S0 w0 S q bs w) (m:Mem C gt cap base S1 q1 w1) (k:Stp S w S1 w1):Fm C gt cap base S0 w0 S1 q1 bs w1:=⟨fun b h=>(F.x b h).stp k,F.d,F.g,m,F.t.step k⟩
theorem Fm.alloc (F:Fm C gt cap base S0 w0 S q bs w) (o:Obj):Fm C gt cap base S0 w0 S q bs (w.alloc o):=F.below (bA0)
theorem Fm.adv (F:Fm C gt cap base S0 w0 S q bs w) (h:q.pos<C.ts.length):Fm C gt cap base S0 w0 S (adv q) bs w:=⟨F.x,F.d,F.g,F.m.adv h,F.t⟩
theorem Fm.new (F:Fm C gt cap base S0 w0 S q bs w) (cs:Array Value):Fm C gt cap base S0 w0 S q (bs++[(w.heap.size,cs)]) (w.alloc (.cells cs 121 (0,0))):=by
 refine⟨fun b h=>?_,?_,fun b h=>?_,F.m.alloc _,F.t.alloc _⟩
 ·rcases List.mem_append.1 h with h|h
  ·exact (F.x b h).alloc _
  ·rw[List.mem_singleton.1 h];exact Bx.new F.m cs
 ·refine List.pairwise_append.2 ⟨F.d,List.pairwise_singleton _ _,fun a z b A=>?_⟩;rw[List.mem_singleton.1 A];exact Nat.ne_of_lt (F.x a z).lt
 ·rcases List.mem_append.1 h with h|h
  ·exact F.g b h
  ·rw[List.mem_singleton.1 h];exact F.t.size
theorem Fm.new2 (F:Fm C gt cap base S0 w0 S q [(b0,c0),(b1,c1)] w) (cs:Array Value):Fm C gt cap base S0 w0 S q [(b0,c0),(b1,c1),(w.heap.size,cs)] (w.alloc (.cells cs 121 (0,0))):=F.new cs
theorem Fm.new3 (F:Fm C gt cap base S0 w0 S q [(b0,c0),(b1,c1),(b2,c2)] w) (cs:Array Value):Fm C gt cap base S0 w0 S q [(b0,c0),(b1,c1),(b2,c2),(w.heap.size,cs)] (w.alloc (.cells cs 121 (0,0))):=F.new cs
theorem Fm.turn (F:Fm C gt cap base S0 w0 S q (l1++(b,cs)::bs) w) (M:Bx gt S w1 b c0) (D: ∀k,k≠b->∀c,Bx gt S w k c->Bx gt S w1 k c) (H:Mem C gt cap base S q w1) (L:SB w0.heap.size S0 w0 S w1):Fm C gt cap base S0 w0 S q (l1++(b,c0)::bs) w1:=by
 obtain⟨J,I,z⟩:=List.pairwise_append.1 F.d;obtain⟨A,K⟩:=List.pairwise_cons.1 I;refine⟨fun a h=>?_,List.pairwise_append.2 ⟨J,List.pairwise_cons.2 ⟨A,K⟩,fun a E c N=>?_⟩,fun a h=>?_,H,L⟩
 ·rcases List.mem_append.1 h with h|h
  ·exact D _ (z a h _ (mem_cons_self ..)) _ (F.x a (List.mem_append_left _ h))
  ·rcases List.mem_cons.1 h with h|h
   ·rw[h];exact M
   ·exact D _ (A a h).symm _ (F.x a (mem_append_right _ (List.mem_cons_of_mem _ h)))
 ·rcases List.mem_cons.1 N with h|h
  ·rw[h];exact z a E (b,cs) (mem_cons_self ..)
  ·exact z a E c (List.mem_cons_of_mem _ h)
 ·rcases List.mem_append.1 h with h|h
  ·exact F.g a (List.mem_append_left _ h)
  ·rcases List.mem_cons.1 h with h|h
   ·rw[h];exact F.g (b,cs) (mem_append_right _ (mem_cons_self ..))
   ·exact F.g a (mem_append_right _ (List.mem_cons_of_mem _ h))
theorem Fm.put (F:Fm C gt cap base S0 w0 S q (l1++(b,#[v0,v1,v2,v3,v4,v5,v6,v7,v8,v9,v10,v11])::bs) w) (D J N K E O I M H L z A:Value):Fm C gt cap base S0 w0 S q (l1++(b,#[D,J,N,K,E,O,I,M,H,L,z,A])::bs) (set12 w b D J N K E O I M H L z A):=
 have h:Bx gt S w b #[v0,v1,v2,v3,v4,v5,v6,v7,v8,v9,v10,v11]:=F.x (b,_) (mem_append_right _ (mem_cons_self ..))
 F.turn (h.put ..) (fun _ U _ V=>V.other U ..) (F.m.put h ..) (F.t.put (F.g (b,_) (mem_append_right _ (mem_cons_self ..))) ..)
theorem Fm.put0 (F:Fm C gt cap base S0 w0 S q ((b,#[v0,v1,v2,v3,v4,v5,v6,v7,v8,v9,v10,v11])::bs) w) (A I M J D N H L E K h z:Value):Fm C gt cap base S0 w0 S q ((b,#[A,I,M,J,D,N,H,L,E,K,h,z])::bs) (set12 w b A I M J D N H L E K h z):=Fm.put (l1:=[]) F ..
theorem Fm.put1 (F:Fm C gt cap base S0 w0 S q ((b0,c0)::(b,#[v0,v1,v2,v3,v4,v5,v6,v7,v8,v9,v10,v11])::bs) w) (A I M J D N H L E K h z:Value):Fm C gt cap base S0 w0 S q ((b0,c0)::(b,#[A,I,M,J,D,N,H,L,E,K,h,z])::bs) (set12 w b A I M J D N H L E K h z):=Fm.put (l1:=[(b0,c0)]) F ..
theorem Fm.put2 (F:Fm C gt cap base S0 w0 S q ((b0,c0)::(b1,c1)::(b,#[v0,v1,v2,v3,v4,v5,v6,v7,v8,v9,v10,v11])::bs) w) (A I M J D N H L E K h z:Value):Fm C gt cap base S0 w0 S q ((b0,c0)::(b1,c1)::(b,#[A,I,M,J,D,N,H,L,E,K,h,z])::bs) (set12 w b A I M J D N H L E K h z):=Fm.put (l1:=[(b0,c0),(b1,c1)]) F ..
theorem Fm.put3 (F:Fm C gt cap base S0 w0 S q ((b0,c0)::(b1,c1)::(b2,c2)::(b,#[v0,v1,v2,v3,v4,v5,v6,v7,v8,v9,v10,v11])::bs) w) (A I M J D N H L E K h z:Value):Fm C gt cap base S0 w0 S q ((b0,c0)::(b1,c1)::(b2,c2)::(b,#[A,I,M,J,D,N,H,L,E,K,h,z])::bs) (set12 w b A I M J D N H L E K h z):=Fm.put (l1:=[(b0,c0),(b1,c1),(b2,c2)]) F ..
theorem Fm.set0_1 (F:Fm C gt cap base S0 w0 S q ((b,#[v0,v1,v2,v3,v4,v5,v6,v7,v8,v9,v10,v11])::bs) w) (u:Value):Fm C gt cap base S0 w0 S q ((b,#[v0,u,v2,v3,v4,v5,v6,v7,v8,v9,v10,v11])::bs) (w.setCell ⟨b,1,none⟩ u):=
 have h:Bx gt S w b #[v0,v1,v2,v3,v4,v5,v6,v7,v8,v9,v10,v11]:=F.x (b,_) (by simp)
 Fm.turn (l1:=[]) F (h.at1 u) (fun _ A _ z=>z.set_other A 1 u) (F.m.set h 1 u) (F.t.set (F.g (b,#[v0,v1,v2,v3,v4,v5,v6,v7,v8,v9,v10,v11]) (by simp)) 1 u)
theorem Fm.set0_11 (F:Fm C gt cap base S0 w0 S q ((b,#[v0,v1,v2,v3,v4,v5,v6,v7,v8,v9,v10,v11])::bs) w) (u:Value):Fm C gt cap base S0 w0 S q ((b,#[v0,v1,v2,v3,v4,v5,v6,v7,v8,v9,v10,u])::bs) (w.setCell ⟨b,11,none⟩ u):=
 have h:Bx gt S w b #[v0,v1,v2,v3,v4,v5,v6,v7,v8,v9,v10,v11]:=F.x (b,_) (by simp)
 Fm.turn (l1:=[]) F (h.at11 u) (fun _ A _ z=>z.set_other A 11 u) (F.m.set h 11 u) (F.t.set (F.g (b,#[v0,v1,v2,v3,v4,v5,v6,v7,v8,v9,v10,v11]) (by simp)) 11 u)
theorem Fm.set2_1 (F:Fm C gt cap base S0 w0 S q ((b0,c0)::(b1,c1)::(b,#[v0,v1,v2,v3,v4,v5,v6,v7,v8,v9,v10,v11])::bs) w) (u:Value):Fm C gt cap base S0 w0 S q ((b0,c0)::(b1,c1)::(b,#[v0,u,v2,v3,v4,v5,v6,v7,v8,v9,v10,v11])::bs) (w.setCell ⟨b,1,none⟩ u):=
 have h:Bx gt S w b #[v0,v1,v2,v3,v4,v5,v6,v7,v8,v9,v10,v11]:=F.x (b,_) (by simp)
 Fm.turn (l1:=[(b0,c0),(b1,c1)]) F (h.at1 u) (fun _ A _ z=>z.set_other A 1 u) (F.m.set h 1 u) (F.t.set (F.g (b,#[v0,v1,v2,v3,v4,v5,v6,v7,v8,v9,v10,v11]) (by simp)) 1 u)
theorem Fm.of2 (A:Bx gt S w b0 c0) (H:Bx gt S w b1 c1) (m:Mem C gt cap base S q w) (t:SB w0.heap.size S0 w0 S w) (h:b0≠b1) (E:w0.heap.size<=b0) (D:w0.heap.size<=b1):Fm C gt cap base S0 w0 S q [(b0,c0),(b1,c1)] w:=by
 refine⟨fun b z=>?_,by simp[h],fun b z=>?_,m,t⟩
 ·simp at z;rcases z with rfl|rfl
  ·exact A
  ·exact H
 ·simp at z;rcases z with rfl|rfl
  ·exact E
  ·exact D
theorem Fm.cut {P:Program} {Q:Exit->Act->World->Prop} (F:Fm C gt cap base S0 w0 S q bs w) (h: ∀W,Fm C gt cap base S0 w0 S q bs W->Code.wp P L Q M W):Code.wp P L Q M w:=h w F
theorem Fm.cutR {P:Program} {Q:Exit->Act->World->Prop} {RW:World->Prop} (F:Fm C gt cap base S0 w0 S q bs w) (r:RW w) (h: ∀W,Fm C gt cap base S0 w0 S q bs W->RW W->Code.wp P L Q M W):Code.wp P L Q M w:=h w F r
theorem Mem.fm {z:Array Value} (h:Mem C gt cap base S q w) (D:Below ((w.alloc (.cells t 121 (0,0))).alloc (.cells z 121 (0,0))).heap.size ((w.alloc (.cells t 121 (0,0))).alloc (.cells z 121 (0,0))) w1):Fm C gt cap base S w S q [(w.heap.size,t),(w.heap.size+1,z)] w1:=
 have⟨h1,h2,h3,h4⟩:=h.two D
 Fm.of2 h1 h2 h3 h4 (by omega) (by omega) (by omega)
theorem Mem.fm2 {z:Array Value} (h:Mem C gt cap base S q w) (m:Mem C gt cap base S1 q1 w1) (s:Stp S ((w.alloc (.cells t 121 (0,0))).alloc (.cells z 121 (0,0))) S1 w1):Fm C gt cap base S w S1 q1 [(w.heap.size,t),(w.heap.size+1,z)] w1:=
 have⟨h1,h2,h3⟩:=h.two2 s
 Fm.of2 h1 h2 m h3 (by omega) (by omega) (by omega)
end
theorem zlq {q':PS} (A:B=pv D k m p q' u x) (E:Is N q' u) (e:Mem D k m s p q' z) (Z:SB V.heap.size T V p z):Out D k m s N x T V (.returned B) z:=
 ⟨p,q',u,by rw[A],E,e,Z.done⟩
theorem Fm.done {cap:Nat} {q':PS} {bs:List (Nat×Array Value)} (F:Fm D k cap s T V p q' bs z) (A:B=pv D k cap p q' u x) (Z:Is N q' u):Out D k cap s N x T V (.returned B) z:=zlq A Z F.m F.t
structure Row (S:Sv) (w:World) (base B:Nat) (r:Rw) (l:List Ep):Prop where
 own:OwnR w base 97 4 r l.length (l.flatMap epL)
 free: ∀k,r.blk=some k->¬S.has k
 new: ∀k,r.blk=some k->B<=k
 addr: ∃g,r.a=some ⟨g,0,none⟩
theorem Row.ne (h:Row T V s x P Q) (A:Bx k T V m t): ∀Z,P.blk=some Z->Z≠m:=by
 rintro Z z rfl;obtain⟨_,_,c,g⟩:=h.own.typed z;rw[A.heap] at g;simp only[Option.some.injEq,Obj.cells.injEq] at g;exact absurd g.2.1 (by decide)
theorem Row.stp {A:World} (h:Row T V k m P Q) (s:Stp T V p A):Row p A k m P Q:=
 ⟨h.own.keep fun Z q=>s.block Z (h.own.typed q).2.1 (h.free Z q),fun Z q g=>(s.sub Z g).elim (h.free Z q) fun D=>by have:=(h.own.typed q).2.1;omega,h.new,h.addr⟩
theorem Row.below (h:Row T V k m P Q) (s:Bw V z):Row T z k m P Q:=h.stp (Stp.below s)
theorem Row.alloc {base:Nat} (h:Row T V base k P Q) (o:Obj):Row T (V.alloc o) base k P Q:=h.below (bA0)
theorem Row.drew (h:Row T V k m P Q):Row T V.drew k m P Q:=⟨h.own,h.free,h.new,h.addr⟩
theorem Row.set {b:Nat} (h:Row T V m s P Q) (A:Bx k T V b t) (i:Nat) (u:Value):Row T (V.setCell ⟨b,i,none⟩ u) m s P Q:=
 ⟨h.own.keep fun Z z=>zx (h.ne A Z z),h.free,h.new,h.addr⟩
theorem Row.put (h:Row T V s x P Q) (N:Bx k T V m t) (D L e M H X K U J A q z:Value):Row T (set12 V m D L e M H X K U J A q z) s x P Q:=
 ⟨h.own.keep fun Z E=>zfU (h.ne N Z E) _ _ _ _ _ _ _ _ _ _ _ _,h.free,h.new,h.addr⟩
theorem Row.nil {Z B:Nat} (f:Mem D Z k m T h V) (hB:B<=V.heap.size):Row T (V.alloc (.cells #[] 97 (0,0))) m B ⟨some ⟨V.heap.size,0,none⟩,0⟩ []:=by
 refine⟨World.ownsRow_lit V #[] 0 f.base (by unfold maxLen;omega) rfl,fun e A g=>?_,fun e A=>?_,⟨_,rfl⟩⟩
 ·simp only[Rw.blk,Value.ownBlock,Option.some.injEq] at A;have:=(f.own.has g).2;omega
 ·simp only[Rw.blk,Value.ownBlock,Option.some.injEq] at A;omega
theorem Row.grow {B:Nat} {Z:World} {I:Rw} {x:Ep} (i:Row T V s B P Q) (A:Mem D k m s T h V) (hB:B<=V.heap.size) (N:V.grownBy Z P.blk) (M:OwnR Z s 97 4 I (Q.length+1) (Q.flatMap epL++epL x)) (H:I.blk=P.blk∨I.blk=some V.heap.size):
  Row T Z s B I (Q++[x])/\Mem D k m s T h Z:=by
 refine⟨⟨?_,fun f z g=>?_,fun f z=>?_,M.addr.resolve_left (by omega)⟩,?_⟩
 ·have e:(Q++[x]).length=Q.length+1:=by simp
  rw[e]
  simpa using M
 ·rcases H with e|e
  ·exact i.free f (by rw[<-e];exact z) g
  ·have O:V.heap.size=f:=Option.some.inj (e.symm.trans z);have:=(A.own.has g).2;omega
 ·rcases H with e|e
  ·exact i.new f (by rw[<-e];exact z)
  ·have O:V.heap.size=f:=Option.some.inj (e.symm.trans z);omega
 ·have w: ∀f,f<V.heap.size->P.blk≠some f->Z.heap[f]? =V.heap[f]?:=fun f z K=>N.block f z fun e=>K e.symm;refine⟨A.own.keep fun f z=>w f (A.own.has z).2 fun e=>i.free f e z,A.inv,zbM A.tok (w k (zaw A.tok).1 fun e=>?_),A.few,Nat.le_trans A.base N.size⟩;obtain⟨_,_,c,g⟩:=i.own.typed e;obtain⟨U,L⟩:=zgo A.tok;rw[g] at L;simp only[Option.some.injEq,Obj.cells.injEq] at L;exact absurd L.2.1 (by decide)
theorem Row.bx (h:Row T V s x P Q) (q:Bx k T V m t) (D:V.grownBy z P.blk):Bx k T z m t:=
 ⟨(D.block m q.lt fun e=>h.ne q m e.symm rfl).trans q.heap,q.free,q.ne⟩
theorem Row.sb {A:World} (h:Row T z k m P Q) (q:SB m p V T z) (Z:z.grownBy A P.blk):SB m p V T A:=
 ⟨Z.os.trans q.os,Z.tape.trans q.tape,Z.output.trans q.output,Nat.le_trans q.size Z.size,q.low,fun f D E=>(Z.block f (by have:=q.size;have:=q.low;omega) fun e=>by have:=h.new f e.symm;omega).trans (q.block f D E),q.sub⟩
theorem Mem.list3 {Z:Array Value} (f:Mem D k m s T h V) (e:Stp T (((V.alloc (.cells t 121 (0,0))).alloc (.cells Z 121 (0,0))).alloc (.cells #[] 97 (0,0))) p z):
  Bx k p z V.heap.size t/\Bx k p z (V.heap.size+1) Z/\Row p z s V.heap.size ⟨some ⟨V.heap.size+1+1,0,none⟩,0⟩ []/\SB V.heap.size T V p z:=by
 refine⟨(((Bx.new f _).alloc _).alloc _).stp e,?_,?_,(SB.start (zdp V _ _ _)).step e⟩
 ·have:=((Bx.new (f.alloc (.cells t 121 (0,0))) Z).alloc (.cells #[] 97 (0,0))).stp e;rw[zg] at this;exact this
 ·have:=(Row.nil (B:=V.heap.size) ((f.alloc (.cells t 121 (0,0))).alloc (.cells Z 121 (0,0))) (zbg V _ _).size).stp e;rw[zcX] at this;exact this
def Is3 (y:PRL) (q:PS) (z:Int) (l:List Ep):Prop:=
 match y with
 | .ok a=>q=a.1/\z= -1/\l=a.2
 | .error e=>z=(e:Int)
def zsa (C:Cx) (gt cap base:Nat) (y:PRL) (d:Nat) (S:Sv) (w:World) (e:Ending) (w':World):Prop:=
 ∃S' q' z' r l,e= .returned (.tuple #[pv C gt cap S' q' z' d,.slice r.a l.length r.cap,.bool (zaI l)])/\Is3 y q' z' l/\Mem C gt cap base S' q' w'/\Stp S w S' w'/\Row S' w' base w.heap.size r l/\l.length<=4001
theorem zlr (l:List Ep) (x:Ep):zaI (l++[x])=(zaI l||(x.loc.toList==[100,101,102,97,117,108,116])):=by simp[zaI]
theorem zsb {u v:Tmp} {A:TypeId} (h:J.results= #[.cell K A,.tmp u,.tmp v]) (tmps:Array Value) (P:Program) (w:World):
  (results J tmps).run P w=((asAddr (tmps.getD K undef)).run P w).andThen fun a D=>((loadVar A a).run P D).andThen fun x q=>.ok (.tuple #[x,tmps.getD u undef,tmps.getD v undef]) q:=by
 simp only[results,h];simp[Sem.run_bind,Result.andThen]
theorem zls {P:Program} {A:Func} {p u v:Tmp} {z:TypeId} (h:A.results= #[.cell p z,.tmp u,.tmp v]) (tmps:Array Value) (w:World) (g:Nat) (t:TypeId) (q:Array Value) (D:Nat×Nat) (d:TypeDesc)
  (H:tmps.getD p undef= .pointer (some ⟨g,0,none⟩)) (J:w.heap[g]? =some (.cells q t D))
  (I:P.underlying z=some d) (E:(match d with| .struct _| .array _ _=>true|_=>false)=true) (K:(P.info? z).map (·.size)=some q.size):
  (results A tmps).run P w= .ok (.tuple #[.agg q,tmps.getD u undef,tmps.getD v undef]) w:=by
 rw[zsb h,H];simp[asAddr,Result.andThen,run_loadVar_row w g t z q D d J I E K]
theorem zb0 (Z:Is (bd N (zd D u R)) h O):O<0->1<=h.pos:=by
 intro A;obtain⟨e,_⟩:=zaK Z A;obtain⟨a,_,w⟩:=zn e;obtain⟨rfl,_⟩:=zcb w;simp[adv]
theorem zit (A:BA) (w:World) (M:Mem C g b c S q w) (hp:1<=q.pos):
  Calls prog 205 #[pv C g b S q (-1) n,.string A] w (Out C g b c (zbK C A q) n S w):=by
 have X:=zc M;have z:=M.tok;have E:=M.few;clear M;cases L:isT C q.pos 4 zp with
 |true=>
  have V:Hid (zbK C A q=bd (bd (bd (.ok q) (zd C 4 zp)) (zd C 4 zaA)) (zT C ⟨3,0,A,sNone,0,0⟩)):=if_pos L;unfold pv;go_enter func205,ntmps205;go_wp2_with fail;refine (zk C g b c S q (-1) n 4 zp _ (zr (zr z _) _) E (by decide)).mono ?_;rintro e w1 ⟨rfl,I⟩;rw[L];have F:=X.o.fm I;clear z;have J:=F.x0.boxC;go_wp2_with fail;refine (zak C g b c (.ok q) S q (-1) n zp _ (zad q) F.m).mono ?_;rintro e w2 ⟨Z,q2,Y,rfl,H,N,O⟩;replace F:=F.stp N O;clear J;go_wp2_with fail;refine (zak C g b c _ Z q2 Y n zaA _ H.o F.m).mono ?_;rintro e w3 ⟨S3,q3,z3,rfl,K,m3,s3⟩;replace F:=F.stp m3 s3;have J:=F.x0.boxC;unfold pv;go_wp2_with fail;refine (zdq C g b c _ S3 q3 z3 n ⟨3,0,A,sNone,0,0⟩ _ K.o (F.put0 ..).m (zb0 K.o)).mono ?_;rintro e w4 ⟨S4,q4,z4,rfl,U,m4,s4⟩;replace F:=(F.put0 ..).stp m4 s4;clear J;have bb:=F.x1.boxC;unfold pv;go_wp2;refine (F.x1.put ..).ret rfl rfl ?_;rw[V.o];exact (F.put1 ..).done rfl U.o
 |false=>
  have V:Hid (zbK C A q=bd (.ok q) (zT C ⟨2,0,A,sNone,0,0⟩)):=by show zbK C A q=_;rw[zbK,L];rfl
  unfold pv;go_enter func205,ntmps205;go_wp2_with fail;refine (zk C g b c S q (-1) n 4 zp _ (zr (zr z _) _) E (by decide)).mono ?_;rintro e w1 ⟨rfl,I⟩;rw[L];have F:=X.o.fm I;clear z;have J:=F.x0.boxC;go_wp2_with fail;refine (zdq C g b c (.ok q) S q (-1) n ⟨2,0,A,sNone,0,0⟩ _ (zad q) F.m (fun _=>hp)).mono ?_;rintro e w2 ⟨Z,q2,Y,rfl,H,N,O⟩;replace F:=F.stp N O;clear J;have bb:=F.x1.boxC;unfold pv;go_wp2;refine (F.x1.put ..).ret rfl rfl ?_;rw[V.o];exact (F.put1 ..).done rfl H.o
theorem zsc {i:BA} {z:PS} {H E:Int} (N:Is2 X h u R) (w:Is2 (bd X (asP D U)) A H i) (I:(decide (H<0)&&isT D A.pos 4 zbJ)=false) (f:Is (bd (zaV (bd X (asP D U))) (zd D 4 zb5)) z E):
  Is3 (bd X fun a=>bd (asP D U a) fun b=>if isT D b.1.pos 4 zbJ then za7 D U (adv b.1) (Q++[⟨0,b.2,a.2,sNone⟩]) else bd (zd D 4 zb5 b.1) fun q'=>.ok (q',Q++[⟨0,b.2,a.2,sNone⟩])) z E (Q++[⟨0,i,R,sNone⟩]):=by
 cases X with
 |error e=>exact f
 |ok a=>
  obtain⟨_,_,rfl⟩:=N;rw[zB] at w f ⊢;cases K:asP D U a with
  |error e=>rw[K] at f;exact f
  |ok b=>
   rw[K] at w f;obtain⟨rfl,rfl,rfl⟩:=w;rw[Bool.and_eq_false_iff] at I;rw[zB,I.resolve_left (by decide)];have e:bd (zaV (.ok b)) (zd D 4 zb5)=zd D 4 zb5 b.1:=rfl;rw[e] at f;show Is3 (bd (zd D 4 zb5 b.1) _) _ _ _;cases Z:zd D 4 zb5 b.1 with
   |error e=>rw[Z] at f;exact f
   |ok c=>rw[Z] at f;exact⟨f.1,f.2,rfl⟩
theorem zsd {l:List Ep} {Z:PS} {J:BA} {i:Int} (H:Is2 (bd (.ok h) (zm D true)) A u R) (f:Is2 (bd (bd (.ok h) (zm D true)) (asP D U)) Z i J) (O:i<0) (M:isT D Z.pos 4 zbJ=true):
  (bd (.ok h) fun q=>za7 D U q l)=(bd (.ok (adv Z)) fun q=>za7 D U q (l++[⟨0,J,R,sNone⟩]))/\h.pos+1<=Z.pos:=by
 rw[zB] at H f ⊢;rw[zB,zgp];cases E:zm D true h with
 |error e=>rw[E] at f;have:i=(e:Int):=f;omega
 |ok a=>
  rw[E] at H f;obtain⟨_,_,rfl⟩:=H;rw[zB] at f ⊢;obtain⟨rfl,_⟩:=zb6 E;cases I:asP D U (adv h,(ze D h.pos).text) with
  |error e=>rw[I] at f;have:i=(e:Int):=f;omega
  |ok b=>
   rw[I] at f;obtain⟨rfl,rfl,rfl⟩:=f;have:=zf3 I;rw[zB,M];exact⟨rfl,this⟩
theorem zse {q:PS} {f:Int} (E:Is N q u) (H: ¬u<0) (Z:Is (bd N (zd D 4 zb5)) A f):Is3 (bd N fun q=>za7 D U q Q) A f Q:=by
 obtain⟨e,rfl,_⟩:=zdG E H;exact Z
theorem zsf {q:PS} {H:BA} (Z:Is2 X q u R) (E:(decide (u<0)&&isT D q.pos 1 sAs)=true) (I:Is2 (bd (.ok (adv q)) (zm D U)) A O H):Is2 (bd X (asP D U)) A O H:=by
 rw[Bool.and_eq_true,decide_eq_true_eq] at E;cases X with
 |error e=>have:u=(e:Int):=Z;omega
 |ok a=>
  obtain⟨rfl,_,_⟩:=Z;rw[zB,asP,if_pos E.2];exact I
theorem zsg (Z:Is2 X h u R) (E:(decide (u<0)&&isT D h.pos 1 sAs)=false) (H:((R.toList==[100,101,102,97,117,108,116])&& !U)=true):Is2 (bd X (asP D U)) h (zbB D h.pos u) R:=by
 cases X with
 |error e=>
  have f:u=(e:Int):=Z;show zbB D h.pos u=(e:Int);rw[zbB,if_neg (by omega)];exact f
 |ok a=>
  obtain⟨rfl,rfl,rfl⟩:=Z;rw[Bool.and_eq_false_iff] at E;rw[zB,asP,E.resolve_left (by decide),H];rfl
theorem zlt {q:PS} (A:Is2 X q u R) (Z:(decide (u<0)&&isT D q.pos 1 sAs)=false) (E:((R.toList==[100,101,102,97,117,108,116])&& !U)=false):Is2 (bd X (asP D U)) q u R:=by
 cases X with
 |error e=>exact A
 |ok a=>
  obtain⟨rfl,rfl,rfl⟩:=A;rw[Bool.and_eq_false_iff] at Z;rw[zB,asP,Z.resolve_left (by decide),E];exact⟨rfl,rfl,rfl⟩
theorem zlu (L:Bool) (w:World) (hm:Mem C g b c S q w):
  Calls prog 152 #[pv C g b S q (-1) n,.bool L] w (zsa C g b c (zdm C L q) n S w):=by
 obtain⟨i0,hi,ar,ay,av⟩:=info_parts Tryz.infoExp;have HM:=zc hm;have M:=hm.few;clear hm;unfold pv;go_enter func152,ntmps152;go_wp2_with fail;refine (zak C g b c (.ok q) S q (-1) n zO _ (zad q) (((HM.o.alloc _).alloc _).alloc _)).mono ?_;rintro e w1 ⟨S1,q1,z1,rfl,ao,m1,s1⟩;obtain⟨X0,X1,R0,t1⟩:=HM.o.list3 s1;have F:=Fm.of2 X0 X1 m1 t1 (by omega) (by omega) (by omega);have h:=zc R0;clear m1 s1 X0 X1 R0 t1;have A:=F.x0.boxC;unfold pv;go_wp2;go_loopg [7,8] (C.ts.length+1) (fun k o an wr=>∃(x':PR) (J:Sv) (U:PS) (z':Int) (r:Rw) (l:List Ep),Is x' U z'/\bd x' (fun q=>za7 C L q l)=zdm C L q/\(z'<0->C.ts.length-U.pos<k)/\(l.length<=U.pos∨l=[])/\o= .slice r.a l.length r.cap/\an= .bool (zaI l)/\Mem C g b c J U wr/\SB w.heap.size S w J wr/\Bx g J wr w.heap.size #[.slice (some ⟨g,0,none⟩) C.ts.length b,.int .i64 U.pos,.int .i64 C.fin,.bool C.scr,.slice J.rq.a U.rq.length J.rq.cap,.slice J.im.a U.im.length J.im.cap,.slice J.ep.a U.ep.length J.ep.cap,.slice J.st.a U.st.length J.st.cap,.slice J.ex.a U.ex.length J.ex.cap,.slice J.la.a U.la.length J.la.cap,.int .i64 z',.int .i64 n]/\Bx g J wr (w.heap.size+1) #[.slice none 0 0,.int .i64 0,.int .i64 0,.bool false,.slice none 0 0,.slice none 0 0,.slice none 0 0,.slice none 0 0,.slice none 0 0,.slice none 0 0,.int .i64 0,.int .i64 0]/\Row J wr c w.heap.size r l)
 case atStart=>exact⟨_,S1,q1,z1,_,[],ao.o,rfl,fun _=>by omega,.inr rfl,rfl,rfl,(F.put0 ..).m,(F.put0 ..).t,(F.put0 ..).x0,(F.put0 ..).x1,(h.o.put F.x0 ..)⟩
 case round=>
  obtain⟨x2,S2,q2,z2,r,l,i2,e2,l2,n2,rfl,rfl,m2,t2,X0,X1,R0⟩:=hrel;have F:=Fm.of2 X0 X1 m2 t2 (by omega) (by omega) (by omega);have ac:=zc i2;have ad:=zc e2;have au:=zc l2;have h:=zc R0;have aC:l.length<=4000:=n2.elim (fun f=>by have:=m2.inv.pos;omega) (fun f=>by rw[f];simp);have aq:=zc n2;clear X0 X1 i2 m2 t2 e2 l2 R0 n2;by_cases hz:z2<0
  ·skip
   obtain⟨rfl,rfl⟩:=zaK ac.o hz;have aD:=au.o hz;have A:=F.x0.boxC;go_wp2_with fail;refine (zbt C g b c (.ok q2) S2 q2 (-1) n true _ (zad q2) F.m).mono ?_;rintro e w3 ⟨V,N,Y,O,rfl,H,m3,s3⟩;replace h:=zc (h.o.stp s3);replace F:=F.stp m3 s3;clear A;have aB:w.heap.size+1<w3.heap.size:=F.x1.lt;unfold pv;go_upto_region 6 with fail;refine (F.new2 _).cutR (RW:=fun W=>Row V W c w.heap.size r l) (h.o.alloc _) ?_;clear h;intro w4 F R0;have h:=zc R0;clear R0;have A:=F.x0.boxC;have cb:=F.x2.boxC;go_upto_region 7 with fail;refine (F.put0 ..).cutR (RW:=fun W=>Row V W c w.heap.size r l) (h.o.put F.x0 ..) ?_;clear A cb;clear h;intro w5 F R0;have h:=zc R0;clear R0
   skip
   have A:=F.x0.boxC
   skip
   go_wp2_with fail;refine (zk C g b c V N Y n 1 sAs _ F.m.tok M (by decide)).mono ?_;rintro e w6 ⟨rfl,af⟩;replace h:=zc (h.o.below af);replace F:=F.below af;clear A;go_upto_if 28 with fail
   go_cut [11] (fun am wx=>∃(D:Sv) (I:PS) (z5:Int) (X:BA),am= .string X/\Is2 (bd (bd (.ok q2) (zm C true)) (asP C L)) I z5 X/\Mem C g b c D I wx/\SB w.heap.size S w D wx/\Bx g D wx w.heap.size #[.slice (some ⟨g,0,none⟩) C.ts.length b,.int .i64 I.pos,.int .i64 C.fin,.bool C.scr,.slice D.rq.a I.rq.length D.rq.cap,.slice D.im.a I.im.length D.im.cap,.slice D.ep.a I.ep.length D.ep.cap,.slice D.st.a I.st.length D.st.cap,.slice D.ex.a I.ex.length D.ex.cap,.slice D.la.a I.la.length D.la.cap,.int .i64 z5,.int .i64 n]/\Bx g D wx (w.heap.size+1) #[.slice none 0 0,.int .i64 0,.int .i64 0,.bool false,.slice none 0 0,.slice none 0 0,.slice none 0 0,.slice none 0 0,.slice none 0 0,.slice none 0 0,.int .i64 0,.int .i64 0]/\Row D wx c w.heap.size r l)
   case first=>
    cases hb:(decide (Y<0)&&isT C N.pos 1 sAs) with
    |true=>
     have ak:N.pos<C.ts.length:=by rw[Bool.and_eq_true] at hb;exact zaB hb.2 (by decide)
     have A:=F.x0.boxC;have al:Y= -1:=by rw[Bool.and_eq_true,decide_eq_true_eq] at hb;exact (zaK H.o.fst hb.1).2
     subst al;go_wp2_with fail;refine (zbt C g b c (.ok (adv N)) V (adv N) (-1) n L _ (zad _) ((F.adv ak).set0_1 _).m).mono ?_;rintro e w7 ⟨S7,q7,z7,n7,rfl,ap,m7,s7⟩;replace h:=zc ((h.o.set F.x0 1 _).stp s7);replace F:=(F.set0_1 _).stp m7 s7;clear A;have aA:w.heap.size+1<w7.heap.size:=F.x1.lt;have ai:w3.heap.size<w7.heap.size:=F.x2.lt;unfold pv;go_upto_region 11 with fail;refine (F.new3 _).cutR (RW:=fun W=>Row S7 W c w.heap.size r l) (h.o.alloc _) ?_;clear h;intro w8 F R0;have h:=zc R0;clear R0;have A:=F.x0.boxC;have db:=F.x3.boxC;go_wp2;go_meet
     case rel=>exact⟨S7,q7,z7,n7,rfl,zsf H.o hb ap.o,(F.put0 ..).m,(F.put0 ..).t,(F.put0 ..).x0,(F.put0 ..).x1,(h.o.put F.x0 ..)⟩
    |false=>
     cases e3:(O.toList==[100,101,102,97,117,108,116]) with
     |true=>
      cases L with
      |false=>
       have A:=F.x0.boxC;go_wp2_with fail;refine (zdE C g b c V N Y n _ F.m.tok M).mono ?_;rintro e w7 ⟨rfl,K⟩;replace h:=zc (h.o.below K);replace F:=F.below K;clear A;have A:=F.x0.boxC;unfold pv;go_wp2;go_meet
       case rel=>exact⟨V,N,(zbB C N.pos Y),O,rfl,zsg H.o hb (by rw[e3];rfl),(F.put0 ..).m,(F.put0 ..).t,(F.put0 ..).x0,(F.put0 ..).x1,(h.o.put F.x0 ..)⟩
      |true=>
       have A:=F.x0.boxC;go_wp2;go_meet
       case rel=>exact⟨V,N,Y,O,rfl,zlt H.o hb (by rw[e3];rfl),F.m,F.t,F.x0,F.x1,h.o⟩
     |false=>
      have A:=F.x0.boxC;go_wp2;go_meet
      case rel=>exact⟨V,N,Y,O,rfl,zlt H.o hb (by rw[e3];rfl),F.m,F.t,F.x0,F.x1,h.o⟩
   case rest=>
    obtain⟨D,I,z5,X,rfl,i5,m5,t5,X0,X1,R0⟩:=hcut;clear h;have F:=Fm.of2 X0 X1 m5 t5 (by omega) (by omega) (by omega);have Z:=zc i5;have h:=zc R0;clear X0 X1 i5 m5 t5 R0;go_upto_region 15 with fail;go_cut [8] (fun s8 wx=>s8= .bool (zaI l||(O.toList==[100,101,102,97,117,108,116]))/\wx=wc)
    case first=>
     cases ha:zaI l with
     |true=>
      go_wp2;go_meet
      case rel=>exact⟨by rw[ha];rfl,rfl⟩
     |false=>
      cases e3:(O.toList==[100,101,102,97,117,108,116]) with
      |true=>
       go_wp2;go_meet
       case rel=>exact⟨by rw[ha,e3];rfl,rfl⟩
      |false=>
       go_wp2;go_meet
       case rel=>exact⟨by rw[ha,e3];rfl,rfl⟩
    case rest=>
     obtain⟨rfl,rfl⟩:=hcut;have aa:=fun o=>h.o.own.alloc o;have aj:=F.m.base;go_wp2_with (at_builtin;refine zbd _ rfl _ _ 50 rfl c 97 i0 _ 4 56 underlying50 hi ar ay av rfl (by decide) (by decide) r l.length _ (by rfl) (aa _) wc.heap.size (epL ⟨0,X,O,sNone⟩) (by rfl) (by exact heap_alloc_new wc _) rfl (by intro u hu;simp[epL] at hu;rcases hu with rfl|rfl|rfl|rfl<;>rfl) (by omega) (by rw[zg];omega) ?_);intro r' w6 hr hg ag;obtain⟨R6,m6⟩:=(h.o.alloc _).grow (x:=⟨0,X,O,sNone⟩) (F.alloc _).m (by rw[zg];have:=F.t.size;omega) hg hr (by rw[zg];exact ag);replace F:=Fm.of2 ((h.o.alloc _).bx (F.x0.alloc _) hg) ((h.o.alloc _).bx (F.x1.alloc _) hg) m6 ((h.o.alloc _).sb (F.t.alloc _) hg) (by omega) (by omega) (by omega);clear h hr hg ag aa aj m6;have h:=zc R6;clear R6;cases hc:(decide (z5<0)&&isT C I.pos 4 zbJ) with
     |true=>
      have A:=F.x0.boxC;go_wp2_with fail;refine (zk C g b c D I z5 n 4 zbJ _ F.m.tok M (by decide)).mono ?_;rintro e w7 ⟨rfl,K⟩;rw[hc];replace h:=zc (h.o.below K);replace F:=F.below K;clear A;rw[Bool.and_eq_true,decide_eq_true_eq] at hc;obtain⟨ae,ah⟩:=hc;have aw:I.pos<C.ts.length:=zaB ah (by decide);obtain⟨E5,P5⟩:=zsd (l:=l) H.o Z.o ae ah;have HE:=zc E5;obtain rfl:z5= -1:=(zaK Z.o.fst ae).2;have ax:Hid ((l++[(⟨0,X,O,sNone⟩:Ep)]).length<=I.pos+1∨l++[(⟨0,X,O,sNone⟩:Ep)]=[]):=.inl (by simp only[List.length_append,List.length_singleton];exact aq.o.elim (fun f=>by omega) (fun f=>by rw[f];simp));clear E5;have A:=F.x0.boxC;go_wp2;go_roundg (gk-1)
      case rel=>exact⟨.ok (adv I),D,adv I,-1,r',l++[⟨0,X,O,sNone⟩],zad _,by rw[<-ad.o];exact HE.o.symm,fun _=>by rw[zA];omega,ax.o,by simp,by rw[zlr],((F.adv aw).set0_1 _).m,(F.t.set (by omega) 1 _),(F.x0.at1 _),(F.x1.set_other (by omega) 1 _),(h.o.set F.x0 1 _)⟩
      case measure=>omega
     |false=>
      have A:=F.x0.boxC;go_wp2_with fail;refine (zk C g b c D I z5 n 4 zbJ _ F.m.tok M (by decide)).mono ?_;rintro e w7 ⟨rfl,K⟩;rw[hc];replace h:=zc (h.o.below K);replace F:=F.below K;clear A;have A:=F.x0.boxC;go_wp2_with fail;refine (zak C g b c _ D I z5 n zb5 _ Z.o.fst F.m).mono ?_;rintro e w8 ⟨S8,q8,z8,rfl,az,m8,s8⟩;replace h:=zc (h.o.stp s8);replace F:=F.stp m8 s8;clear A;have bb:=F.x1.boxC;unfold pv;go_wp2;refine bodyPost_ret (zls rfl _ _ (w.heap.size+1) 121 _ (0,0) _ rfl ((F.x1.put ..)).heap underlying121 rfl (by kernel_rfl)) rfl ?_;exact⟨S8,q8,z8,r',l++[⟨0,X,O,sNone⟩],by simp[pv,zlr],by rw[<-ad.o,zB,zgp];exact zsc H.o Z.o hc az.o,(F.put1 ..).m,(F.put1 ..).t.done,(h.o.put F.x1 ..),by simp;omega⟩
  ·skip
   have A:=F.x0.boxC;go_wp2_with fail;refine (zak C g b c _ S2 q2 z2 n zb5 _ ac.o F.m).mono ?_;rintro e w3 ⟨V,N,Y,rfl,H,m3,s3⟩;replace h:=zc (h.o.stp s3);replace F:=F.stp m3 s3;clear A;have bb:=F.x1.boxC;unfold pv;go_wp2;refine bodyPost_ret (zls rfl _ _ (w.heap.size+1) 121 _ (0,0) _ rfl ((F.x1.put ..)).heap underlying121 rfl (by kernel_rfl)) rfl ?_;exact⟨V,N,Y,r,l,rfl,by rw[<-ad.o];exact zse ac.o (by omega) H.o,(F.put1 ..).m,(F.put1 ..).t.done,(h.o.put F.x1 ..),by omega⟩
def SumOK (C:Cx) (gt cap base m:Nat):Prop:=∀(x:PR) (S:Sv) (q:PS) (z:Int) (d:Nat) (w:World),Is x q z->Mem C gt cap base S q w->(z<0->C.ts.length-q.pos<m)->d<=20->
 Calls prog 119 #[pv C gt cap S q z d] w (Out C gt cap base (bd x (pE C .sum d)) d S w)
theorem zgY (e:Is2 (bd (.ok h) (zm D U)) A u R) (Z:zJ D h.pos U=true):A=adv h/\u= -1/\R=(ze D h.pos).text:=by
 rw[zB,zm,if_pos Z] at e;exact e
theorem zgZ {Z:PS} (e:Is2 (bd (.ok h) (zm D U)) Z u R) (z:zJ D h.pos U=false):u=(zt D h.pos:Int):=by
 rw[zB,zm,z] at e;exact e
theorem zlv {y:Except Nat (PS×BA)} {f:BA} (Z:Is2 y h u f) (w:(decide (u<0)&&isT D h.pos 4 zp)=true):bd (bd (bd (zaV y) (zd D 4 zp)) (zd D 4 zaA)) (zT D ⟨5,0,R,f,0,0⟩)=bd y fun a=>zca D R a.2 a.1:=by
 rw[Bool.and_eq_true,decide_eq_true_eq] at w;cases y with
 |ok a=>
  obtain⟨rfl,_,rfl⟩:=Z;show _=zca D R a.2 a.1;rw[zca,if_pos w.2];rfl
 |error e=>rfl
theorem zlw {y:Except Nat (PS×BA)} {f:BA} (Z:Is2 y h u f) (w:(decide (u<0)&&isT D h.pos 4 zp)=false):bd (zaV y) (zT D ⟨4,0,R,f,0,0⟩)=bd y fun a=>zca D R a.2 a.1:=by
 cases y with
 |ok a=>
  obtain⟨rfl,rfl,rfl⟩:=Z;rw[Bool.and_eq_false_iff] at w;show _=zca D R a.2 a.1;rw[zca,w.resolve_left (by decide)];rfl
 |error e=>rfl
theorem zlx (f:Is2 (bd N (zm D U)) h u R):u<0->1<=h.pos:=by
 intro Z;cases w:bd N (zm D U) with
 |error e=>rw[w] at f;have:u=(e:Int):=f;omega
 |ok a=>
  rw[w] at f;obtain⟨rfl,_,_⟩:=f;obtain⟨b,_,A⟩:=zn w;obtain⟨rfl,_⟩:=zb6 A;simp[adv]
theorem zsh (E:Mem C g b c S q W) (J:((ze C q.pos).kind==2)=true):
  Calls prog 181 #[pv C g b S q (-1) n] W (Out C g b c (pE C .part n q) n S W):=by
 have X:=zc E;have z:=E.tok;have U:C.ts.length<=4000:=E.few;have L:=(zaw E.tok).1;clear E;have M:q.pos<C.ts.length:=zgj J (by decide);have O:Hid (pE C .part n q=bd (.ok (adv q)) (zT C ⟨1,(ze C q.pos).num,sNone,sNone,0,0⟩)):=by show pE C .part n q=_;rw[zbT,if_pos J];rfl
 obtain⟨V,_,N,_⟩:=z.cells M (d:=⟨0,sNone,0,C.fin⟩);change _=some (Value.int .i64 (ze C q.pos).kind) at V;change _=some (Value.int .i64 (ze C q.pos).num) at N;have A:Hid (Mem C g b c S (adv q) W):=X.o.adv M;generalize (ze C q.pos).kind=kd at V J;have Y:Hid (∀f,f=(ze C q.pos).num->pE C .part n q=bd (.ok (adv q)) (zT C ⟨1,f,sNone,sNone,0,0⟩)):=fun f e=>by rw[e];exact O.o
 generalize H:(ze C q.pos).num=nm at N;have K:Hid (nm=(ze C q.pos).num):=H.symm;clear H O z;unfold pv;go_enter func181,ntmps181;go_wp2_with fail;refine (zdq C g b c (.ok (adv q)) S (adv q) (-1) n ⟨1,nm,sNone,sNone,0,0⟩ _ (zad _) ((A.o.alloc _).alloc _) (fun _=>by simp[adv])).mono ?_;rintro e w1 ⟨S1,q1,z1,rfl,I,m1,Z⟩;have F:=A.o.fm2 m1 Z;have bb:=F.x1.boxC;unfold pv;go_wp2;refine (F.x1.put ..).ret rfl rfl ?_;rw[Y.o nm K.o];exact (F.put1 ..).done rfl I.o
theorem zsi (E:Mem C g b c S q W) (K:((ze C q.pos).kind==2)=false) (H:isT C q.pos 4 zp=true) (N:20<=n) (O:n<=20):
  Calls prog 181 #[pv C g b S q (-1) n] W (Out C g b c (pE C .part n q) n S W):=by
 have U:=zc E;have z:=E.tok;have A:C.ts.length<=4000:=E.few;have L:=(zaw E.tok).1;clear E;have X:q.pos<C.ts.length:=zaB H (by decide);have Y:Hid (pE C .part n q= .error (zt C q.pos)):=by show pE C .part n q=_;rw[zbT,K,H];simp[N]
 have qd:decide ((20:Int)<=(n:Int))=true:=decide_eq_true (by omega);obtain⟨M,_,_,_⟩:=z.cells X (d:=⟨0,sNone,0,C.fin⟩);change _=some (Value.int .i64 (ze C q.pos).kind) at M;generalize (ze C q.pos).kind=kd at M K;unfold pv;go_enter func181,ntmps181;go_wp2_with fail;refine (zk C g b c S q (-1) n 4 zp _ (zr (zr z _) _) A (by decide)).mono ?_;rintro e Z ⟨rfl,J⟩;rw[H];have F:=U.o.fm J;have V:=F.x0.boxC;go_wp2_with fail;refine (zdE C g b c S q (-1) n _ F.m.tok A).mono ?_;rintro e w2 ⟨rfl,I⟩;replace F:=F.below I;clear V;have bb:=F.x1.boxC;unfold pv;go_wp2;refine (F.x1.put ..).ret rfl rfl ?_;rw[Y.o];exact (F.put1 ..).done rfl (show Is (.error (zt C q.pos)) q _ from rfl)
theorem zsj (E:Mem C g b c S q W) (O:((ze C q.pos).kind==2)=false) (K:isT C q.pos 4 zp=true) (Z:n<20) (X:SumOK C g b c (C.ts.length-q.pos)):
  Calls prog 181 #[pv C g b S q (-1) n] W (Out C g b c (pE C .part n q) n S W):=by
 have HM:=zc E;have z:=E.tok;have H:C.ts.length<=4000:=E.few;have U:=(zaw E.tok).1;clear E;have V:q.pos<C.ts.length:=zaB K (by decide);have HV:Hid (pE C .part n q=bd (bd (.ok (adv q)) (pE C .sum (n+1))) (zd C 4 zaA)):=by show pE C .part n q=_;rw[zbT,O,K,if_neg (by decide),if_pos rfl,if_neg (by omega)];rfl
 have HS:=zc X;clear X;have qd:decide ((20:Int)<=(n:Int))=false:=decide_eq_false (by omega);obtain⟨Y,_,_,_⟩:=z.cells V (d:=⟨0,sNone,0,C.fin⟩);change _=some (Value.int .i64 (ze C q.pos).kind) at Y;generalize (ze C q.pos).kind=kd at Y O;unfold pv;go_enter func181,ntmps181;go_wp2_with fail;refine (zk C g b c S q (-1) n 4 zp _ (zr (zr z _) _) H (by decide)).mono ?_;rintro e w1 ⟨rfl,M⟩;rw[K];have F:=HM.o.fm M;have I:=F.x0.boxC;go_wp2_with fail;refine (HS.o (.ok (adv q)) S (adv q) (-1) (n+1) _ (zad _) (((F.adv V).set0_1 _).set0_11 _).m (fun _=>by show C.ts.length-(q.pos+1)<_;omega) (by omega)).mono ?_;rintro e w2 ⟨S2,q2,z2,rfl,J,m2,s2⟩;replace F:=((F.set0_1 _).set0_11 _).stp m2 s2;clear I;go_wp2_with fail;refine (zak C g b c _ S2 q2 z2 (n+1) zaA _ J.o F.m).mono ?_;rintro e w3 ⟨S3,q3,z3,rfl,L,m3,s3⟩;replace F:=F.stp m3 s3;have I:=F.x0.boxC;obtain⟨D,N⟩: ∃D:Nat,D=n+1:=⟨_,rfl⟩;rw[<-N];have ac:(D:Int)-1=n:=by omega
 have aa:D<=20:=by omega
 clear N Z qd;unfold pv;go_upto_region 11 with fail;refine (F.put0 ..).cut ?_;clear I;intro w4 F;have I:=F.x0.boxC;have bb:=F.x1.boxC;go_wp2;refine bodyPost_ret (results_cell_row rfl _ _ (W.heap.size+1) 121 _ (0,0) _ rfl (((F.x1.set_other (by omega) 11 _).put ..)).heap underlying121 rfl (by kernel_rfl)) rfl ?_;rw[HV.o];exact zlq rfl L.o ((F.set0_11 _).put1 ..).m ((F.set0_11 _).put1 ..).t
theorem zsk (i:Nat) (f:World) (I:Mem (Cx.mk w g true) b c d S q f) (J: ¬q.pos<(Cx.mk w g true).ts.length):
  Calls prog 181 #[pv (Cx.mk w g true) b c S q (-1) i] f (Out (Cx.mk w g true) b c d (pE (Cx.mk w g true) .part i q) i S f):=by
 have HM:=zc I;have H:=I.tok;have D:(Cx.mk w g true).ts.length<=4000:=I.few;have O:=(zaw I.tok).1;clear I;have hk:((ze (Cx.mk w g true) q.pos).kind==2)=false:=by rw[zek (by omega)];rfl
 have U:isT (Cx.mk w g true) q.pos 4 zp=false:=zf8 J (by decide);have V:isT (Cx.mk w g true) q.pos 1 zaH=false:=zf8 J (by decide);have X:zJ (Cx.mk w g true) q.pos false=false:=zhI J;have HV:Hid (pE (Cx.mk w g true) .part i q= .error (zt (Cx.mk w g true) q.pos)):=by show pE (Cx.mk w g true) .part i q=_;rw[zbT,hk,U,V,zm,X];rfl
 have aa: ¬q.pos<w.length:=J;unfold pv;go_enter func181,ntmps181;go_wp2_with fail;refine (zk (Cx.mk w g true) b c d S q (-1) i 4 zp _ (zr (zr H _) _) D (by decide)).mono ?_;rintro e w1 ⟨rfl,N⟩;rw[U];have F:=HM.o.fm N;have K:=F.x0.boxC;go_wp2_with fail;refine (zk (Cx.mk w g true) b c d S q (-1) i 1 zaH _ F.m.tok D (by decide)).mono ?_;rintro e w2 ⟨rfl,L⟩;rw[V];replace F:=F.below L;clear K;have K:=F.x0.boxC;go_wp2_with fail;refine (zbt (Cx.mk w g true) b c d (.ok q) S q (-1) i false _ (zad q) F.m).mono ?_;rintro e w3 ⟨S3,q3,z3,n3,rfl,M,Z,s3⟩;replace F:=F.stp Z s3;clear K;obtain rfl:=zgZ M.o X;have dz:decide ((0:Int)<=(zt (Cx.mk w g true) q.pos:Int))=true:=decide_eq_true (by omega);have Y:f.heap.size+1<w3.heap.size:=F.x1.lt;unfold pv;go_upto_region 17 with fail;refine (F.new2 _).cut ?_;intro w4 F;have bb:=F.x1.boxC;have cb:=F.x2.boxC;go_wp2;refine (F.x1.put ..).ret rfl rfl ?_;rw[HV.o];exact (F.put1 ..).done rfl (show Is (.error (zt (Cx.mk w g true) q.pos)) q3 _ from rfl)
theorem zsl (i:Nat) (f:World) (I:Mem (Cx.mk w g true) b c d S q f) (O:((ze (Cx.mk w g true) q.pos).kind==2)=false) (X:isT (Cx.mk w g true) q.pos 4 zp=false) (V:q.pos<(Cx.mk w g true).ts.length) (Y:isT (Cx.mk w g true) q.pos 1 zaH=false) (Z:zJ (Cx.mk w g true) q.pos false=false):
  Calls prog 181 #[pv (Cx.mk w g true) b c S q (-1) i] f (Out (Cx.mk w g true) b c d (pE (Cx.mk w g true) .part i q) i S f):=by
 have HM:=zc I;have D:=I.tok;have E:(Cx.mk w g true).ts.length<=4000:=I.few;have U:=(zaw I.tok).1;clear I;have HV:Hid (pE (Cx.mk w g true) .part i q= .error (zt (Cx.mk w g true) q.pos)):=by show pE (Cx.mk w g true) .part i q=_;rw[zbT,O,X,Y,zm,Z];rfl
 have ac:q.pos<w.length:=V;obtain⟨N,_,_,_⟩:=D.cells V (d:=⟨0,sNone,0,(Cx.mk w g true).fin⟩);change _=some (Value.int .i64 (ze (Cx.mk w g true) q.pos).kind) at N;generalize (ze (Cx.mk w g true) q.pos).kind=kd at N O;unfold pv;go_enter func181,ntmps181;go_wp2_with fail;refine (zk (Cx.mk w g true) b c d S q (-1) i 4 zp _ (zr (zr D _) _) E (by decide)).mono ?_;rintro e w1 ⟨rfl,M⟩;rw[X];have F:=HM.o.fm M;have J:=F.x0.boxC;go_wp2_with fail;refine (zk (Cx.mk w g true) b c d S q (-1) i 1 zaH _ F.m.tok E (by decide)).mono ?_;rintro e w2 ⟨rfl,K⟩;rw[Y];replace F:=F.below K;clear J;have J:=F.x0.boxC;go_wp2_with fail;refine (zbt (Cx.mk w g true) b c d (.ok q) S q (-1) i false _ (zad q) F.m).mono ?_;rintro e w3 ⟨S3,q3,z3,n3,rfl,L,m3,s3⟩;replace F:=F.stp m3 s3;clear J;obtain rfl:=zgZ L.o Z;have dz:decide ((0:Int)<=(zt (Cx.mk w g true) q.pos:Int))=true:=decide_eq_true (by omega);have aa:f.heap.size+1<w3.heap.size:=F.x1.lt;unfold pv;go_upto_region 17 with fail;refine (F.new2 _).cut ?_;intro w4 F;have bb:=F.x1.boxC;obtain⟨N,c1,c2,c3,c4,c5,c6,c7,c8,c9,ae,ad,cf⟩:=F.x2.box;go_wp2;refine (F.x1.put ..).ret rfl rfl ?_;rw[HV.o];exact (F.put1 ..).done rfl (show Is (.error (zt (Cx.mk w g true) q.pos)) q3 _ from rfl)
theorem zly (i:Nat) (f:World) (I:Mem (Cx.mk w g true) b c d S q f) (e0:Nat):
  Calls prog 181 #[pv (Cx.mk w g true) b c S q (e0:Int) i] f (Out (Cx.mk w g true) b c d (.error e0) i S f):=by
 have Y:=zc I;have H:=I.tok;have D:(Cx.mk w g true).ts.length<=4000:=I.few;have N:=(zaw I.tok).1;clear I;have hz: ¬(e0:Int)<0:=by omega
 have O: ∀k s,(decide ((e0:Int)<0)&&isT (Cx.mk w g true) q.pos k s)=false:=fun k s=>by rw[decide_eq_false hz];rfl
 unfold pv;go_enter func181,ntmps181;go_wp2_with fail;refine (zk (Cx.mk w g true) b c d S q (e0:Int) i 4 zp _ (zr (zr H _) _) D (by decide)).mono ?_;rintro e w1 ⟨rfl,M⟩;rw[O];have F:=Y.o.fm M;have J:=F.x0.boxC;go_wp2_with fail;refine (zk (Cx.mk w g true) b c d S q (e0:Int) i 1 zaH _ F.m.tok D (by decide)).mono ?_;rintro e w2 ⟨rfl,K⟩;rw[O];replace F:=F.below K;clear J;have J:=F.x0.boxC;go_wp2_with fail;refine (zbt (Cx.mk w g true) b c d (.error e0) S q (e0:Int) i false _ (show Is (.error e0) q _ from rfl) F.m).mono ?_;rintro e X ⟨S3,Z,z3,n3,rfl,L,V,s3⟩;replace F:=F.stp V s3;clear J;obtain rfl:z3=(e0:Int):=L.o;have dz:decide ((0:Int)<=(e0:Int))=true:=decide_eq_true (by omega);have U:f.heap.size+1<X.heap.size:=F.x1.lt;unfold pv;go_upto_region 17 with fail;refine (F.new2 _).cut ?_;intro w4 F;have bb:=F.x1.boxC;have cb:=F.x2.boxC;go_wp2;refine (F.x1.put ..).ret rfl rfl ?_;exact (F.put1 ..).done rfl (show Is (.error e0) Z _ from rfl)
theorem zsm (i:Nat) (f:World) (I:Mem (Cx.mk w g true) b c d S q f) (O:((ze (Cx.mk w g true) q.pos).kind==2)=false) (V:isT (Cx.mk w g true) q.pos 4 zp=false) (K:q.pos<(Cx.mk w g true).ts.length) (X:isT (Cx.mk w g true) q.pos 1 zaH=true):
  Calls prog 181 #[pv (Cx.mk w g true) b c S q (-1) i] f (Out (Cx.mk w g true) b c d (pE (Cx.mk w g true) .part i q) i S f):=by
 have HM:=zc I;have D:=I.tok;have E:(Cx.mk w g true).ts.length<=4000:=I.few;have U:=(zaw I.tok).1;clear I;have HV:Hid (pE (Cx.mk w g true) .part i q=zbK (Cx.mk w g true) zaH (adv q)):=by show pE (Cx.mk w g true) .part i q=_;rw[zbT,O,V,X];rfl
 have aa:q.pos<w.length:=K;obtain⟨Y,_,_,_⟩:=D.cells K (d:=⟨0,sNone,0,(Cx.mk w g true).fin⟩);change _=some (Value.int .i64 (ze (Cx.mk w g true) q.pos).kind) at Y;generalize (ze (Cx.mk w g true) q.pos).kind=kd at Y O;unfold pv;go_enter func181,ntmps181;go_wp2_with fail;refine (zk (Cx.mk w g true) b c d S q (-1) i 4 zp _ (zr (zr D _) _) E (by decide)).mono ?_;rintro e w1 ⟨rfl,N⟩;rw[V];have F:=HM.o.fm N;have J:=F.x0.boxC;go_wp2_with fail;refine (zk (Cx.mk w g true) b c d S q (-1) i 1 zaH _ F.m.tok E (by decide)).mono ?_;rintro e w2 ⟨rfl,L⟩;rw[X];replace F:=F.below L;clear J;have J:=F.x0.boxC;go_wp2_with fail;refine (zit (Cx.mk w g true) b c d S (adv q) i zaH _ ((F.adv K).set0_1 _).m (by simp[adv])).mono ?_;rintro e w3 ⟨S3,q3,z3,rfl,M,Z,s3⟩;replace F:=(F.set0_1 _).stp Z s3;clear J;have bb:=F.x1.boxC;unfold pv;go_wp2;refine (F.x1.put ..).ret rfl rfl ?_;rw[HV.o];exact (F.put1 ..).done rfl M.o
theorem zsn (i:Nat) (f:World) (J:Mem (Cx.mk w g true) b c d S q f) (hk:((ze (Cx.mk w g true) q.pos).kind==2)=false) (ho:isT (Cx.mk w g true) q.pos 4 zp=false) (hp:q.pos<(Cx.mk w g true).ts.length) (hu:isT (Cx.mk w g true) q.pos 1 zaH=false) (hn:zJ (Cx.mk w g true) q.pos false=true) (hd:isT (Cx.mk w g true) (q.pos+1) 4 cPoint=false):
  Calls prog 181 #[pv (Cx.mk w g true) b c S q (-1) i] f (Out (Cx.mk w g true) b c d (pE (Cx.mk w g true) .part i q) i S f):=by
 have HM:=zc J;have E:=J.tok;have D:(Cx.mk w g true).ts.length<=4000:=J.few;have af:=(zaw J.tok).1;clear J;have HV:Hid (pE (Cx.mk w g true) .part i q=zbK (Cx.mk w g true) (ze (Cx.mk w g true) q.pos).text (adv q)):=by show pE (Cx.mk w g true) .part i q=_;rw[zbT,hk,ho,hu,zm,hn];show (if isT (Cx.mk w g true) (adv q).pos 4 cPoint then _ else _)=_;rw[zA,hd];rfl
 have ah:q.pos<w.length:=hp;obtain⟨N,_,_,_⟩:=E.cells hp (d:=⟨0,sNone,0,(Cx.mk w g true).fin⟩);change _=some (Value.int .i64 (ze (Cx.mk w g true) q.pos).kind) at N;generalize (ze (Cx.mk w g true) q.pos).kind=kd at N hk;unfold pv;go_enter func181,ntmps181;go_wp2_with fail;refine (zk (Cx.mk w g true) b c d S q (-1) i 4 zp _ (zr (zr E _) _) D (by decide)).mono ?_;rintro e w1 ⟨rfl,ae⟩;rw[ho];have F:=HM.o.fm ae;have X:=F.x0.boxC;go_wp2_with fail;refine (zk (Cx.mk w g true) b c d S q (-1) i 1 zaH _ F.m.tok D (by decide)).mono ?_;rintro e w2 ⟨rfl,aa⟩;rw[hu];replace F:=F.below aa;clear X;have X:=F.x0.boxC;go_wp2_with fail;refine (zbt (Cx.mk w g true) b c d (.ok q) S q (-1) i false _ (zad q) F.m).mono ?_;rintro e w3 ⟨S3,M,z3,n3,rfl,K,m3,s3⟩;replace F:=F.stp m3 s3;clear X;obtain⟨O,rfl,L⟩:=zgY K.o hn;have HQ:=zc O;have Y:=zc L;have I:M.pos=q.pos+1:=by rw[O];rfl
 have ad:isT (Cx.mk w g true) M.pos 4 cPoint=false:=by rw[I];exact hd
 clear O L K;have ag:f.heap.size+1<w3.heap.size:=F.x1.lt;unfold pv;clear I;go_wp2_with fail;refine (zk (Cx.mk w g true) b c d S3 M (-1) i 4 cPoint _ (F.alloc _).m.tok D (by decide)).mono ?_;rintro e w4 ⟨rfl,ac⟩;rw[ad];replace F:=(F.new2 _).below ac;obtain⟨N,c1,c2,c3,c4,c5,c6,c7,c8,c9,Z,V,cf⟩:=F.x2.box;go_wp2_with fail;refine (zit (Cx.mk w g true) b c d S3 M i n3 _ F.m (by rw[HQ.o];simp[adv])).mono ?_;rintro e w5 ⟨S5,q5,z5,rfl,U,m5,s5⟩;replace F:=F.stp m5 s5;clear N c1 c2 c3 c4 c5 c6 c7 c8 c9 Z V cf;have bb:=F.x1.boxC;unfold pv;go_wp2;refine (F.x1.put ..).ret rfl rfl ?_;rw[HV.o,<-HQ.o,<-Y.o];exact (F.put1 ..).done rfl U.o
theorem zso (i:Nat) (f:World) (V:Mem (Cx.mk w g true) b c d S q f) (hk:((ze (Cx.mk w g true) q.pos).kind==2)=false) (ho:isT (Cx.mk w g true) q.pos 4 zp=false) (hp:q.pos<(Cx.mk w g true).ts.length) (hu:isT (Cx.mk w g true) q.pos 1 zaH=false) (hn:zJ (Cx.mk w g true) q.pos false=true) (hd:isT (Cx.mk w g true) (q.pos+1) 4 cPoint=true):
  Calls prog 181 #[pv (Cx.mk w g true) b c S q (-1) i] f (Out (Cx.mk w g true) b c d (pE (Cx.mk w g true) .part i q) i S f):=by
 have HM:=zc V;have I:=V.tok;have D:(Cx.mk w g true).ts.length<=4000:=V.few;have am:=(zaw V.tok).1;clear V;have HV:Hid (pE (Cx.mk w g true) .part i q=bd (bd (.ok (adv (adv q))) (zm (Cx.mk w g true) true)) fun y=>zca (Cx.mk w g true) (ze (Cx.mk w g true) q.pos).text y.2 y.1):=by show pE (Cx.mk w g true) .part i q=_;rw[zbT,hk,ho,hu,zm,hn];show (if isT (Cx.mk w g true) (adv q).pos 4 cPoint then _ else _)=_;rw[zA,hd];rfl
 have ao:q.pos<w.length:=hp;obtain⟨c0,_,_,_⟩:=I.cells hp (d:=⟨0,sNone,0,(Cx.mk w g true).fin⟩);change _=some (Value.int .i64 (ze (Cx.mk w g true) q.pos).kind) at c0;generalize (ze (Cx.mk w g true) q.pos).kind=kd at c0 hk;unfold pv;go_enter func181,ntmps181;go_wp2_with fail;refine (zk (Cx.mk w g true) b c d S q (-1) i 4 zp _ (zr (zr I _) _) D (by decide)).mono ?_;rintro e w1 ⟨rfl,aj⟩;rw[ho];have F:=HM.o.fm aj;have ab:=F.x0.boxC;go_wp2_with fail;refine (zk (Cx.mk w g true) b c d S q (-1) i 1 zaH _ F.m.tok D (by decide)).mono ?_;rintro e w2 ⟨rfl,af⟩;rw[hu];replace F:=F.below af;clear ab;have ab:=F.x0.boxC;go_wp2_with fail;refine (zbt (Cx.mk w g true) b c d (.ok q) S q (-1) i false _ (zad q) F.m).mono ?_;rintro e w3 ⟨S3,J,z3,n3,rfl,aa,m3,s3⟩;replace F:=F.stp m3 s3;clear ab;obtain⟨hq,rfl,N⟩:=zgY aa.o hn;have HQ:=zc hq;have U:=zc N;have ac:J.pos=q.pos+1:=by rw[hq];rfl
 have M:isT (Cx.mk w g true) J.pos 4 cPoint=true:=by rw[ac];exact hd
 clear hq N aa;have an:f.heap.size+1<w3.heap.size:=F.x1.lt;unfold pv;clear ac;go_wp2_with fail;refine (zk (Cx.mk w g true) b c d S3 J (-1) i 4 cPoint _ (F.alloc _).m.tok D (by decide)).mono ?_;rintro e w4 ⟨rfl,ai⟩;rw[M];replace F:=(F.new2 _).below ai;obtain⟨c0,c1,c2,c3,c4,c5,c6,c7,c8,c9,ae,ah,cf⟩:=F.x2.box;have Y:J.pos<(Cx.mk w g true).ts.length:=zaB M (by decide);have ak:J.pos<w.length:=Y;go_wp2_with fail;refine (zbt (Cx.mk w g true) b c d (.ok (adv J)) S3 (adv J) (-1) i true _ (zad _) ((F.adv Y).set2_1 _).m).mono ?_;rintro e w5 ⟨S5,X,O,n5,rfl,H,m5,s5⟩;replace F:=(F.set2_1 _).stp m5 s5;clear c0 c1 c2 c3 c4 c5 c6 c7 c8 c9 ae ah cf;have al:f.heap.size+1<w5.heap.size:=F.x1.lt;have ad:w3.heap.size<w5.heap.size:=F.x2.lt;cases hc:(decide (O<0)&&isT (Cx.mk w g true) X.pos 4 zp) with
 |true=>
  unfold pv;go_wp2_with fail;refine (zk (Cx.mk w g true) b c d S5 X O i 4 zp _ (F.alloc _).m.tok D (by decide)).mono ?_;rintro e w6 ⟨rfl,L⟩;rw[hc];replace F:=(F.new3 _).below L;have db:=F.x3.boxC;go_wp2_with fail;refine (zak (Cx.mk w g true) b c d _ S5 X O i zp _ H.o.fst F.m).mono ?_;rintro e w7 ⟨S7,q7,z7,rfl,K,m7,s7⟩;replace F:=F.stp m7 s7;clear db;go_wp2_with fail;refine (zak (Cx.mk w g true) b c d _ S7 q7 z7 i zaA _ K.o F.m).mono ?_;rintro e w8 ⟨S8,q8,z8,rfl,Z,m8,s8⟩;replace F:=F.stp m8 s8;have db:=F.x3.boxC;unfold pv;go_wp2_with fail;refine (zdq (Cx.mk w g true) b c d _ S8 q8 z8 i ⟨5,0,n3,n5,0,0⟩ _ Z.o (F.put3 ..).m (zb0 Z.o)).mono ?_;rintro e w9 ⟨S9,q9,z9,rfl,ag,m9,s9⟩;replace F:=(F.put3 ..).stp m9 s9;clear db;have bb:=F.x1.boxC;unfold pv;go_wp2;refine (F.x1.put ..).ret rfl rfl ?_;rw[HV.o,<-HQ.o,<-U.o,<-zlv H.o hc];exact (F.put1 ..).done rfl ag.o
 |false=>
  unfold pv;go_wp2_with fail;refine (zk (Cx.mk w g true) b c d S5 X O i 4 zp _ (F.alloc _).m.tok D (by decide)).mono ?_;rintro e w6 ⟨rfl,L⟩;rw[hc];replace F:=(F.new3 _).below L;have db:=F.x3.boxC;go_wp2_with fail;refine (zdq (Cx.mk w g true) b c d _ S5 X O i ⟨4,0,n3,n5,0,0⟩ _ H.o.fst F.m (zlx H.o)).mono ?_;rintro e w7 ⟨S7,q7,z7,rfl,K,m7,s7⟩;replace F:=F.stp m7 s7;clear db;have bb:=F.x1.boxC;unfold pv;go_wp2;refine (F.x1.put ..).ret rfl rfl ?_;rw[HV.o,<-HQ.o,<-U.o,<-zlw H.o hc];exact (F.put1 ..).done rfl K.o
theorem zsp (i:Nat) (f:World) (H:Mem (Cx.mk w g false) b c d S q f) (J: ¬q.pos<(Cx.mk w g false).ts.length):
  Calls prog 181 #[pv (Cx.mk w g false) b c S q (-1) i] f (Out (Cx.mk w g false) b c d (pE (Cx.mk w g false) .part i q) i S f):=by
 have X:=zc H;have D:=H.tok;have I:(Cx.mk w g false).ts.length<=4000:=H.few;have M:=(zaw H.tok).1;clear H;have Y:((ze (Cx.mk w g false) q.pos).kind==2)=false:=by rw[zek (by omega)];rfl
 have N:isT (Cx.mk w g false) q.pos 4 zp=false:=zf8 J (by decide);have hu:isT (Cx.mk w g false) q.pos 1 zaH=false:=zf8 J (by decide);have O:zJ (Cx.mk w g false) q.pos false=false:=zhI J;have HV:Hid (pE (Cx.mk w g false) .part i q= .error (zt (Cx.mk w g false) q.pos)):=by show pE (Cx.mk w g false) .part i q=_;rw[zbT,Y,N,zm,O];rfl
 have Z: ¬q.pos<w.length:=J;unfold pv;go_enter func181,ntmps181;go_wp2_with fail;refine (zk (Cx.mk w g false) b c d S q (-1) i 4 zp _ (zr (zr D _) _) I (by decide)).mono ?_;rintro e w1 ⟨rfl,L⟩;rw[N];have F:=X.o.fm L;have ab:=F.x0.boxC;go_wp2_with fail;refine (zbt (Cx.mk w g false) b c d (.ok q) S q (-1) i false _ (zad q) F.m).mono ?_;rintro e w2 ⟨S2,q2,z2,n2,rfl,K,V,s2⟩;replace F:=F.stp V s2;clear ab;obtain rfl:=zgZ K.o O;have dz:decide ((0:Int)<=(zt (Cx.mk w g false) q.pos:Int))=true:=decide_eq_true (by omega);have U:f.heap.size+1<w2.heap.size:=F.x1.lt;unfold pv;go_upto_region 17 with fail;refine (F.new2 _).cut ?_;intro w3 F;have bb:=F.x1.boxC;have cb:=F.x2.boxC;go_wp2;refine (F.x1.put ..).ret rfl rfl ?_;rw[HV.o];exact (F.put1 ..).done rfl (show Is (.error (zt (Cx.mk w g false) q.pos)) q2 _ from rfl)
theorem zsq (i:Nat) (f:World) (H:Mem (Cx.mk w g false) b c d S q f) (M:((ze (Cx.mk w g false) q.pos).kind==2)=false) (U:isT (Cx.mk w g false) q.pos 4 zp=false) (O:q.pos<(Cx.mk w g false).ts.length) (V:zJ (Cx.mk w g false) q.pos false=false):
  Calls prog 181 #[pv (Cx.mk w g false) b c S q (-1) i] f (Out (Cx.mk w g false) b c d (pE (Cx.mk w g false) .part i q) i S f):=by
 have Z:=zc H;have D:=H.tok;have I:(Cx.mk w g false).ts.length<=4000:=H.few;have N:=(zaw H.tok).1;clear H;have HV:Hid (pE (Cx.mk w g false) .part i q= .error (zt (Cx.mk w g false) q.pos)):=by show pE (Cx.mk w g false) .part i q=_;rw[zbT,M,U,zm,V];rfl
 have aa:q.pos<w.length:=O;obtain⟨L,_,_,_⟩:=D.cells O (d:=⟨0,sNone,0,(Cx.mk w g false).fin⟩);change _=some (Value.int .i64 (ze (Cx.mk w g false) q.pos).kind) at L;generalize (ze (Cx.mk w g false) q.pos).kind=kd at L M;unfold pv;go_enter func181,ntmps181;go_wp2_with fail;refine (zk (Cx.mk w g false) b c d S q (-1) i 4 zp _ (zr (zr D _) _) I (by decide)).mono ?_;rintro e w1 ⟨rfl,K⟩;rw[U];have F:=Z.o.fm K;have ab:=F.x0.boxC;go_wp2_with fail;refine (zbt (Cx.mk w g false) b c d (.ok q) S q (-1) i false _ (zad q) F.m).mono ?_;rintro e w2 ⟨S2,q2,z2,n2,rfl,J,Y,s2⟩;replace F:=F.stp Y s2;clear ab;obtain rfl:=zgZ J.o V;have dz:decide ((0:Int)<=(zt (Cx.mk w g false) q.pos:Int))=true:=decide_eq_true (by omega);have X:f.heap.size+1<w2.heap.size:=F.x1.lt;unfold pv;go_upto_region 17 with fail;refine (F.new2 _).cut ?_;intro w3 F;have bb:=F.x1.boxC;obtain⟨L,c1,c2,c3,c4,c5,c6,c7,c8,c9,ad,ac,cf⟩:=F.x2.box;go_wp2;refine (F.x1.put ..).ret rfl rfl ?_;rw[HV.o];exact (F.put1 ..).done rfl (show Is (.error (zt (Cx.mk w g false) q.pos)) q2 _ from rfl)
theorem zlz (i:Nat) (f:World) (H:Mem (Cx.mk w g false) b c d S q f) (e0:Nat):
  Calls prog 181 #[pv (Cx.mk w g false) b c S q (e0:Int) i] f (Out (Cx.mk w g false) b c d (.error e0) i S f):=by
 have O:=zc H;have D:=H.tok;have I:(Cx.mk w g false).ts.length<=4000:=H.few;have L:=(zaw H.tok).1;clear H;have Y: ¬(e0:Int)<0:=by omega
 have Z: ∀k s,(decide ((e0:Int)<0)&&isT (Cx.mk w g false) q.pos k s)=false:=fun k s=>by rw[decide_eq_false Y];rfl
 unfold pv;go_enter func181,ntmps181;go_wp2_with fail;refine (zk (Cx.mk w g false) b c d S q (e0:Int) i 4 zp _ (zr (zr D _) _) I (by decide)).mono ?_;rintro e w1 ⟨rfl,K⟩;rw[Z];have F:=O.o.fm K;have X:=F.x0.boxC;go_wp2_with fail;refine (zbt (Cx.mk w g false) b c d (.error e0) S q (e0:Int) i false _ (show Is (.error e0) q _ from rfl) F.m).mono ?_;rintro e w2 ⟨S2,q2,U,n2,rfl,J,N,V⟩;replace F:=F.stp N V;clear X;obtain rfl:U=(e0:Int):=J.o;have dz:decide ((0:Int)<=(e0:Int))=true:=decide_eq_true (by omega);have M:f.heap.size+1<w2.heap.size:=F.x1.lt;unfold pv;go_upto_region 17 with fail;refine (F.new2 _).cut ?_;intro w3 F;have bb:=F.x1.boxC;have cb:=F.x2.boxC;go_wp2;refine (F.x1.put ..).ret rfl rfl ?_;exact (F.put1 ..).done rfl (show Is (.error e0) q2 _ from rfl)
theorem zsr (i:Nat) (f:World) (K:Mem (Cx.mk w g false) b c d S q f) (hk:((ze (Cx.mk w g false) q.pos).kind==2)=false) (ho:isT (Cx.mk w g false) q.pos 4 zp=false) (hp:q.pos<(Cx.mk w g false).ts.length) (hn:zJ (Cx.mk w g false) q.pos false=true) (hd:isT (Cx.mk w g false) (q.pos+1) 4 cPoint=false):
  Calls prog 181 #[pv (Cx.mk w g false) b c S q (-1) i] f (Out (Cx.mk w g false) b c d (pE (Cx.mk w g false) .part i q) i S f):=by
 have HM:=zc K;have D:=K.tok;have E:(Cx.mk w g false).ts.length<=4000:=K.few;have ad:=(zaw K.tok).1;clear K;have HV:Hid (pE (Cx.mk w g false) .part i q=zbK (Cx.mk w g false) (ze (Cx.mk w g false) q.pos).text (adv q)):=by show pE (Cx.mk w g false) .part i q=_;rw[zbT,hk,ho,zm,hn];show (if isT (Cx.mk w g false) (adv q).pos 4 cPoint then _ else _)=_;rw[zA,hd];rfl
 have af:q.pos<w.length:=hp;obtain⟨M,_,_,_⟩:=D.cells hp (d:=⟨0,sNone,0,(Cx.mk w g false).fin⟩);change _=some (Value.int .i64 (ze (Cx.mk w g false) q.pos).kind) at M;generalize (ze (Cx.mk w g false) q.pos).kind=kd at M hk;unfold pv;go_enter func181,ntmps181;go_wp2_with fail;refine (zk (Cx.mk w g false) b c d S q (-1) i 4 zp _ (zr (zr D _) _) E (by decide)).mono ?_;rintro e w1 ⟨rfl,aa⟩;rw[ho];have F:=HM.o.fm aa;have ab:=F.x0.boxC;go_wp2_with fail;refine (zbt (Cx.mk w g false) b c d (.ok q) S q (-1) i false _ (zad q) F.m).mono ?_;rintro e w2 ⟨S2,N,z2,n2,rfl,J,m2,s2⟩;replace F:=F.stp m2 s2;clear ab;obtain⟨O,rfl,L⟩:=zgY J.o hn;have HQ:=zc O;have X:=zc L;have I:N.pos=q.pos+1:=by rw[O];rfl
 have Z:isT (Cx.mk w g false) N.pos 4 cPoint=false:=by rw[I];exact hd
 clear O L J;have ae:f.heap.size+1<w2.heap.size:=F.x1.lt;unfold pv;clear I;go_wp2_with fail;refine (zk (Cx.mk w g false) b c d S2 N (-1) i 4 cPoint _ (F.alloc _).m.tok E (by decide)).mono ?_;rintro e w3 ⟨rfl,ac⟩;rw[Z];replace F:=(F.new2 _).below ac;obtain⟨M,c1,c2,c3,c4,c5,c6,c7,c8,c9,Y,U,cf⟩:=F.x2.box;go_wp2_with fail;refine (zit (Cx.mk w g false) b c d S2 N i n2 _ F.m (by rw[HQ.o];simp[adv])).mono ?_;rintro e w4 ⟨S4,q4,z4,rfl,V,m4,s4⟩;replace F:=F.stp m4 s4;clear M c1 c2 c3 c4 c5 c6 c7 c8 c9 Y U cf;have bb:=F.x1.boxC;unfold pv;go_wp2;refine (F.x1.put ..).ret rfl rfl ?_;rw[HV.o,<-HQ.o,<-X.o];exact (F.put1 ..).done rfl V.o
theorem zss (i:Nat) (f:World) (Y:Mem (Cx.mk w g false) b c d S q f) (hk:((ze (Cx.mk w g false) q.pos).kind==2)=false) (ho:isT (Cx.mk w g false) q.pos 4 zp=false) (hp:q.pos<(Cx.mk w g false).ts.length) (hn:zJ (Cx.mk w g false) q.pos false=true) (hd:isT (Cx.mk w g false) (q.pos+1) 4 cPoint=true):
  Calls prog 181 #[pv (Cx.mk w g false) b c S q (-1) i] f (Out (Cx.mk w g false) b c d (pE (Cx.mk w g false) .part i q) i S f):=by
 have HM:=zc Y;have I:=Y.tok;have D:(Cx.mk w g false).ts.length<=4000:=Y.few;have ak:=(zaw Y.tok).1;clear Y;have HV:Hid (pE (Cx.mk w g false) .part i q=bd (bd (.ok (adv (adv q))) (zm (Cx.mk w g false) true)) fun y=>zca (Cx.mk w g false) (ze (Cx.mk w g false) q.pos).text y.2 y.1):=by show pE (Cx.mk w g false) .part i q=_;rw[zbT,hk,ho,zm,hn];show (if isT (Cx.mk w g false) (adv q).pos 4 cPoint then _ else _)=_;rw[zA,hd];rfl
 have am:q.pos<w.length:=hp;obtain⟨c0,_,_,_⟩:=I.cells hp (d:=⟨0,sNone,0,(Cx.mk w g false).fin⟩);change _=some (Value.int .i64 (ze (Cx.mk w g false) q.pos).kind) at c0;generalize (ze (Cx.mk w g false) q.pos).kind=kd at c0 hk;unfold pv;go_enter func181,ntmps181;go_wp2_with fail;refine (zk (Cx.mk w g false) b c d S q (-1) i 4 zp _ (zr (zr I _) _) D (by decide)).mono ?_;rintro e w1 ⟨rfl,ah⟩;rw[ho];have F:=HM.o.fm ah;have ab:=F.x0.boxC;go_wp2_with fail;refine (zbt (Cx.mk w g false) b c d (.ok q) S q (-1) i false _ (zad q) F.m).mono ?_;rintro e w2 ⟨S2,K,z2,n2,rfl,N,m2,s2⟩;replace F:=F.stp m2 s2;clear ab;obtain⟨hq,rfl,U⟩:=zgY N.o hn;have HQ:=zc hq;have X:=zc U;have aa:K.pos=q.pos+1:=by rw[hq];rfl
 have O:isT (Cx.mk w g false) K.pos 4 cPoint=true:=by rw[aa];exact hd
 clear hq U N;have al:f.heap.size+1<w2.heap.size:=F.x1.lt;unfold pv;clear aa;go_wp2_with fail;refine (zk (Cx.mk w g false) b c d S2 K (-1) i 4 cPoint _ (F.alloc _).m.tok D (by decide)).mono ?_;rintro e w3 ⟨rfl,ae⟩;rw[O];replace F:=(F.new2 _).below ae;obtain⟨c0,c1,c2,c3,c4,c5,c6,c7,c8,c9,ad,af,cf⟩:=F.x2.box;have Z:K.pos<(Cx.mk w g false).ts.length:=zaB O (by decide);have ai:K.pos<w.length:=Z;go_wp2_with fail;refine (zbt (Cx.mk w g false) b c d (.ok (adv K)) S2 (adv K) (-1) i true _ (zad _) ((F.adv Z).set2_1 _).m).mono ?_;rintro e w4 ⟨S4,q4,M,n4,rfl,H,m4,s4⟩;replace F:=(F.set2_1 _).stp m4 s4;clear c0 c1 c2 c3 c4 c5 c6 c7 c8 c9 ad af cf;have aj:f.heap.size+1<w4.heap.size:=F.x1.lt;have ac:w2.heap.size<w4.heap.size:=F.x2.lt;cases hc:(decide (M<0)&&isT (Cx.mk w g false) q4.pos 4 zp) with
 |true=>
  unfold pv;go_wp2_with fail;refine (zk (Cx.mk w g false) b c d S4 q4 M i 4 zp _ (F.alloc _).m.tok D (by decide)).mono ?_;rintro e w5 ⟨rfl,L⟩;rw[hc];replace F:=(F.new3 _).below L;have db:=F.x3.boxC;go_wp2_with fail;refine (zak (Cx.mk w g false) b c d _ S4 q4 M i zp _ H.o.fst F.m).mono ?_;rintro e w6 ⟨S6,q6,z6,rfl,J,m6,s6⟩;replace F:=F.stp m6 s6;clear db;go_wp2_with fail;refine (zak (Cx.mk w g false) b c d _ S6 q6 z6 i zaA _ J.o F.m).mono ?_;rintro e w7 ⟨S7,q7,z7,rfl,V,m7,s7⟩;replace F:=F.stp m7 s7;have db:=F.x3.boxC;unfold pv;go_wp2_with fail;refine (zdq (Cx.mk w g false) b c d _ S7 q7 z7 i ⟨5,0,n2,n4,0,0⟩ _ V.o (F.put3 ..).m (zb0 V.o)).mono ?_;rintro e w8 ⟨S8,q8,z8,rfl,ag,m8,s8⟩;replace F:=(F.put3 ..).stp m8 s8;clear db;have bb:=F.x1.boxC;unfold pv;go_wp2;refine (F.x1.put ..).ret rfl rfl ?_;rw[HV.o,<-HQ.o,<-X.o,<-zlv H.o hc];exact (F.put1 ..).done rfl ag.o
 |false=>
  unfold pv;go_wp2_with fail;refine (zk (Cx.mk w g false) b c d S4 q4 M i 4 zp _ (F.alloc _).m.tok D (by decide)).mono ?_;rintro e w5 ⟨rfl,L⟩;rw[hc];replace F:=(F.new3 _).below L;have db:=F.x3.boxC;go_wp2_with fail;refine (zdq (Cx.mk w g false) b c d _ S4 q4 M i ⟨4,0,n2,n4,0,0⟩ _ H.o.fst F.m (zlx H.o)).mono ?_;rintro e w6 ⟨S6,q6,z6,rfl,J,m6,s6⟩;replace F:=F.stp m6 s6;clear db;have bb:=F.x1.boxC;unfold pv;go_wp2;refine (F.x1.put ..).ret rfl rfl ?_;rw[HV.o,<-HQ.o,<-X.o,<-zlw H.o hc];exact (F.put1 ..).done rfl J.o
def ziu (C:Cx) (gt cap base m:Nat):Prop:=∀(x:PR) (S:Sv) (q:PS) (z:Int) (d:Nat) (w:World),Is x q z->Mem C gt cap base S q w->(z<0->C.ts.length-q.pos<m)->d<=20->
 Calls prog 181 #[pv C gt cap S q z d] w (Out C gt cap base (bd x (pE C .part d)) d S w)
def zl0 (C:Cx) (gt cap base m:Nat):Prop:=∀(x:PR) (S:Sv) (q:PS) (z:Int) (d:Nat) (w:World),Is x q z->Mem C gt cap base S q w->(z<0->C.ts.length-q.pos<m)->d<=20->
 Calls prog 158 #[pv C gt cap S q z d] w (Out C gt cap base (bd x (pE C .prod d)) d S w)
theorem SumOK.mono {Z f e:Nat} (h:SumOK D Z k m f) (E:e<=f):SumOK D Z k m e:=fun x S q z d w J H K I=>h x S q z d w J H (fun g=>Nat.lt_of_lt_of_le (K g) E) I
theorem zst {i:Nat} (hS:SumOK D k m s i):ziu D k m s (i+1):=by
 intro x S q z d w Y H Z L;by_cases X:z<0
 ·obtain⟨rfl,rfl⟩:=zaK Y X;rw[zB];have V:SumOK D k m s (D.ts.length-q.pos):=hS.mono (by have:=Z X;omega);cases J:((ze D q.pos).kind==2) with
  |true=>exact zsh D k m s S q d w H J
  |false=>
   cases K:isT D q.pos 4 zp with
   |true=>
    by_cases U:20<=d
    ·exact zsi D k m s S q d w H J K U L
    ·exact zsj D k m s S q d w H J K (by omega) V
   |false=>
    obtain⟨f,A,M⟩:=D;cases M with
    |true=>
     by_cases I:q.pos<f.length
     ·cases O:isT (Cx.mk f A true) q.pos 1 zaH with
      |true=>exact zsm f A k m s S q d w H J K I O
      |false=>
       cases N:zJ (Cx.mk f A true) q.pos false with
       |false=>exact zsl f A k m s S q d w H J K I O N
       |true=>
        cases L:isT (Cx.mk f A true) (q.pos+1) 4 cPoint with
        |false=>exact zsn f A k m s S q d w H J K I O N L
        |true=>exact zso f A k m s S q d w H J K I O N L
     ·exact zsk f A k m s S q d w H I
    |false=>
     by_cases I:q.pos<f.length
     ·cases N:zJ (Cx.mk f A false) q.pos false with
      |false=>exact zsq f A k m s S q d w H J K I N
      |true=>
       cases L:isT (Cx.mk f A false) (q.pos+1) 4 cPoint with
       |false=>exact zsr f A k m s S q d w H J K I N L
       |true=>exact zss f A k m s S q d w H J K I N L
     ·exact zsp f A k m s S q d w H I
 ·obtain⟨e,rfl,rfl⟩:=zdG Y X;rw[zeK];obtain⟨f,A,M⟩:=D;cases M with
  |true=>exact zly f A k m s S q d w H e
  |false=>exact zlz f A k m s S q d w H e
theorem ziv (Z:Is N h u) (F:PS->Ex):bd N (zT D (F h))=bd N fun q'=>zT D (F q') q':=by
 cases N with
 |ok a=>obtain⟨rfl,_⟩:=Z;rfl
 |error e=>rfl
theorem zl1 (A: ∀a,N= .ok a->k<=a.pos) (Z:(bd N fun q'=>zT D (Y q') q')= .ok h):k<=h.pos:=by
 obtain⟨a,w,z⟩:=zn Z;obtain⟨rfl,_⟩:=zb7 z;exact A a w
theorem zsu {f:Int} (I:Is N h u) (E:Is (bd N (pE D .part k)) A f) (Z:u<0->D.ts.length-h.pos<m) (J:f<0):D.ts.length-A.pos<m:=by
 obtain⟨e,_⟩:=zaK E J;obtain⟨a,i,H⟩:=zn e;subst i;obtain⟨rfl,rfl⟩:=I;have:=zbk H;have:=Z (by decide);omega
theorem zsv {f:Int} (I:Is N h u) (E:Is (bd N (pE D .prod k)) A f) (Z:u<0->D.ts.length-h.pos<m) (J:f<0):D.ts.length-A.pos<m:=by
 obtain⟨e,_⟩:=zaK E J;obtain⟨a,i,H⟩:=zn e;subst i;obtain⟨rfl,rfl⟩:=I;have:=zbk H;have:=Z (by decide);omega
theorem zsw (Z:Is (bd (.ok (adv h)) (pE D .part k)) A u) (f:u<0):1<=A.pos:=by
 obtain⟨e,_⟩:=zaK Z f;have:=zbk (show pE D .part k (adv h)= .ok A from e);rw[zA] at this;omega
theorem zl2 (Z:Is (bd (.ok (adv h)) (pE D .prod k)) A u) (f:u<0):1<=A.pos:=by
 obtain⟨e,_⟩:=zaK Z f;have:=zbk (show pE D .prod k (adv h)= .ok A from e);rw[zA] at this;omega
theorem zsx (f:Is (bd (bd (.ok (adv h)) (pE D .part k)) fun q'=>zT D (Y q') q') A u) (Z:u<0):h.pos+1<=A.pos:=by
 obtain⟨e,_⟩:=zaK f Z;exact zl1 (fun a i=>by have:=zbk (show pE D .part k (adv h)= .ok a from i);rw[zA] at this;exact this) e
theorem zl3 (f:Is (bd (bd (.ok (adv h)) (pE D .prod k)) fun q'=>zT D (Y q') q') A u) (Z:u<0):h.pos+1<=A.pos:=by
 obtain⟨e,_⟩:=zaK f Z;exact zl1 (fun a i=>by have:=zbk (show pE D .prod k (adv h)= .ok a from i);rw[zA] at this;exact this) e
theorem zsy {d:Nat} (Z:isT D h.pos 4 zz=true) (_:h.pos<D.ts.length):
  bd (.ok h) (pE D .prodT d)=bd (bd (bd (.ok (adv h)) (pE D .part d)) fun q'=>zT D ⟨8,0,sNone,sNone,(h.ex.length:Int)-1,(q'.ex.length:Int)-1⟩ q') (pE D .prodT d):=by
 show pE D .prodT d h=_;rw[zgk,if_pos Z];rfl
theorem zl4 {d:Nat} (Z:(isT D h.pos 4 zc2||isT D h.pos 4 zbs)=true) (w:zd9 D h.pos=u) (_:h.pos<D.ts.length):
  bd (.ok h) (pE D .sumT d)=bd (bd (bd (.ok (adv h)) (pE D .prod d)) fun q'=>zT D ⟨u,0,sNone,sNone,(h.ex.length:Int)-1,(q'.ex.length:Int)-1⟩ q') (pE D .sumT d):=by
 show pE D .sumT d h=_;rw[zf0,if_pos Z,w];rfl
theorem zsz (w:Is N h u) (Z:(decide (u<0)&&isT D h.pos 4 zz)=false):Is (bd N (pE D .prodT k)) h u:=by
 cases N with
 |ok a=>
  obtain⟨rfl,rfl⟩:=w;rw[Bool.and_eq_false_iff] at Z;rw[zB,zgk,Z.resolve_left (by decide)];exact⟨rfl,rfl⟩
 |error e=>exact w
theorem zs0 (A:Is N h u) (w:(decide (u<0)&&isT D h.pos 4 zc2)=false) (Z:(decide (u<0)&&isT D h.pos 4 zbs)=false):Is (bd N (pE D .sumT k)) h u:=by
 cases N with
 |ok a=>
  obtain⟨rfl,rfl⟩:=A;rw[Bool.and_eq_false_iff] at w Z;rw[zB,zf0,w.resolve_left (by decide),Z.resolve_left (by decide)];exact⟨rfl,rfl⟩
 |error e=>exact A
theorem zs1 (h:isT D k 4 zc2=true):isT D k 4 zbs=false:=by
 simp only[isT,Bool.and_eq_true,beq_iff_eq] at h;simp only[isT,h.2];rw[Bool.and_eq_false_iff];exact .inr (by simp)
theorem zl5 {j:Nat} (hP:ziu D k m s j):zl0 D k m s j:=by
 intro x S q z d w hx hm hl K;have HP:=zc hP;have HM:=zc hm;have HX:=zc hx;have HL:=zc hl;have M:=hm.few;clear hP hm hx hl;unfold pv;go_enter func158,ntmps158;go_wp2_with fail;refine (HP.o x S q z d _ HX.o ((HM.o.alloc _).alloc _) HL.o K).mono ?_;rintro e w1 ⟨S1,q1,z1,rfl,Y,m1,s1⟩;have F:=HM.o.fm2 m1 s1;have H:=F.x0.boxC;unfold pv;go_wp2;go_loopg [] (D.ts.length+1) (fun i wr=>∃(x':PR) (f:Sv) (A:PS) (z':Int),Is x' A z'/\bd x' (pE D .prodT d)=bd x (pE D .prod d)/\(z'<0->D.ts.length-A.pos<i)/\(z'<0->D.ts.length-A.pos<j)/\Mem D k m s f A wr/\SB w.heap.size S w f wr/\Bx k f wr w.heap.size #[.slice (some ⟨k,0,none⟩) D.ts.length m,.int .i64 A.pos,.int .i64 D.fin,.bool D.scr,.slice f.rq.a A.rq.length f.rq.cap,.slice f.im.a A.im.length f.im.cap,.slice f.ep.a A.ep.length f.ep.cap,.slice f.st.a A.st.length f.st.cap,.slice f.ex.a A.ex.length f.ex.cap,.slice f.la.a A.la.length f.la.cap,.int .i64 z',.int .i64 d]/\Bx k f wr (w.heap.size+1) #[.slice none 0 0,.int .i64 0,.int .i64 0,.bool false,.slice none 0 0,.slice none 0 0,.slice none 0 0,.slice none 0 0,.slice none 0 0,.slice none 0 0,.int .i64 0,.int .i64 0])
 case atStart=>exact⟨_,S1,q1,z1,Y.o,by rw[zQ];exact zai fun a _=>(zj1 D d a).symm,fun _=>by omega,fun V=>zsu HX.o Y.o HL.o V,(F.put0 ..).m,(F.put0 ..).t,(F.put0 ..).x0,(F.put0 ..).x1⟩
 case round=>
  obtain⟨x2,S2,I,z2,i2,e2,l2,b2,m2,t2,X0,X1⟩:=hrel;have F:=Fm.of2 X0 X1 m2 t2 (by omega) (by omega) (by omega);have U:=zc i2;have Z:=zc e2;have ad:=zc l2;have ac:=zc b2;have ai:=m2.inv.ex;clear X0 X1 i2 m2 t2 e2 l2 b2;cases X:(decide (z2<0)&&isT D I.pos 4 zz) with
  |true=>
   have H:=F.x0.boxC;go_wp2_with fail;refine (zk D k m s S2 I z2 d 4 zz _ F.m.tok M (by decide)).mono ?_;rintro e w3 ⟨rfl,O⟩;rw[X];replace F:=F.below O;clear H;rw[Bool.and_eq_true,decide_eq_true_eq] at X;obtain⟨V,hs⟩:=X;have hp:I.pos<D.ts.length:=zaB hs (by decide);obtain⟨rfl,rfl⟩:=zaK U.o V;have af:=ad.o V;have aj:=ac.o V
   skip
   have H:=F.x0.boxC;go_wp2_with fail;refine (HP.o (.ok (adv I)) S2 (adv I) (-1) d _ (zad _) ((F.adv hp).set0_1 _).m (fun _=>by rw[zA];omega) K).mono ?_;rintro e w4 ⟨S4,q4,z4,rfl,N,m4,s4⟩;replace F:=(F.set0_1 _).stp m4 s4;clear H;have H:=F.x0.boxC;unfold pv;go_upto_region 6 with fail;refine (F.put0 ..).cut ?_;clear H;intro w5 F;have H:=F.x0.boxC;have ae:=F.m.inv.ex;go_wp2_with fail;refine (zdq D k m s _ S4 q4 z4 d ⟨8,0,sNone,sNone,(I.ex.length:Int)-1,(q4.ex.length:Int)-1⟩ _ N.o F.m (fun h=>zsw N.o h)).mono ?_;rintro e w6 ⟨S6,q6,z6,rfl,aa,m6,s6⟩;replace F:=F.stp m6 s6;clear H;have HI:Hid (Is (bd (bd (.ok (adv I)) (pE D .part d)) fun A=>zT D ⟨8,0,sNone,sNone,(I.ex.length:Int)-1,(A.ex.length:Int)-1⟩ A) q6 z6):=by rw[<-ziv N.o (fun A=>⟨8,0,sNone,sNone,(I.ex.length:Int)-1,(A.ex.length:Int)-1⟩)];exact aa.o
   have L:Hid (z6<0->I.pos+1<=q6.pos):=fun h=>zsx HI.o h;have H:=F.x0.boxC;unfold pv;go_wp2;go_roundg (gk-1)
   case rel=>exact⟨_,S6,q6,z6,HI.o,by rw[<-Z.o];exact (zsy (d:=d) hs hp).symm,fun h=>by have:=L.o h;omega,fun h=>by have:=L.o h;omega,(F.put0 ..).m,(F.put0 ..).t,(F.put0 ..).x0,(F.put0 ..).x1⟩
   case measure=>omega
  |false=>
   have H:=F.x0.boxC;go_wp2_with fail;refine (zk D k m s S2 I z2 d 4 zz _ F.m.tok M (by decide)).mono ?_;rintro e w3 ⟨rfl,O⟩;rw[X];replace F:=F.below O;clear H;have H:=F.x0.boxC;obtain⟨b0,b1,b2,b3,b4,b5,b6,b7,b8,b9,ah,ag,bf⟩:=F.x1.box;go_wp2;refine (F.x1.put ..).ret rfl rfl ?_;exact (F.put1 ..).done rfl (show Is (bd x (pE D .prod d)) I z2 from by rw[<-Z.o];exact zsz U.o X)
theorem zl6 {j:Nat} (hP:zl0 D k m s j):SumOK D k m s j:=by
 intro x S q z d w hx hm hl N;have HP:=zc hP;have HM:=zc hm;have HX:=zc hx;have HL:=zc hl;have I:=hm.few;clear hP hm hx hl;unfold pv;go_enter func119,ntmps119;go_wp2_with fail;refine (HP.o x S q z d _ HX.o ((HM.o.alloc _).alloc _) HL.o N).mono ?_;rintro e w1 ⟨S1,q1,z1,rfl,ae,m1,s1⟩;have F:=HM.o.fm2 m1 s1;have f:=F.x0.boxC;unfold pv;go_wp2;go_loopg [] (D.ts.length+1) (fun i wr=>∃(x':PR) (L:Sv) (H:PS) (z':Int),Is x' H z'/\bd x' (pE D .sumT d)=bd x (pE D .sum d)/\(z'<0->D.ts.length-H.pos<i)/\(z'<0->D.ts.length-H.pos<j)/\Mem D k m s L H wr/\SB w.heap.size S w L wr/\Bx k L wr w.heap.size #[.slice (some ⟨k,0,none⟩) D.ts.length m,.int .i64 H.pos,.int .i64 D.fin,.bool D.scr,.slice L.rq.a H.rq.length L.rq.cap,.slice L.im.a H.im.length L.im.cap,.slice L.ep.a H.ep.length L.ep.cap,.slice L.st.a H.st.length L.st.cap,.slice L.ex.a H.ex.length L.ex.cap,.slice L.la.a H.la.length L.la.cap,.int .i64 z',.int .i64 d]/\Bx k L wr (w.heap.size+1) #[.slice none 0 0,.int .i64 0,.int .i64 0,.bool false,.slice none 0 0,.slice none 0 0,.slice none 0 0,.slice none 0 0,.slice none 0 0,.slice none 0 0,.int .i64 0,.int .i64 0])
 case atStart=>exact⟨_,S1,q1,z1,ae.o,by rw[zQ];exact zai fun a _=>(zj0 D d a).symm,fun _=>by omega,fun V=>zsv HX.o ae.o HL.o V,(F.put0 ..).m,(F.put0 ..).t,(F.put0 ..).x0,(F.put0 ..).x1⟩
 case round=>
  obtain⟨x2,X,A,U,i2,e2,l2,b2,m2,t2,X0,X1⟩:=hrel;have F:=Fm.of2 X0 X1 m2 t2 (by omega) (by omega) (by omega);have Y:=zc i2;have ad:=zc e2;have ag:=zc l2;have af:=zc b2;have aq:=m2.inv.ex;clear X0 X1 i2 m2 t2 e2 l2 b2;cases hc:(decide (U<0)&&isT D A.pos 4 zc2) with
  |true=>
   have f:=F.x0.boxC;go_wp2_with fail;refine (zk D k m s X A U d 4 zc2 _ F.m.tok I (by decide)).mono ?_;rintro e w3 ⟨rfl,aa⟩;rw[hc];replace F:=F.below aa;clear f;rw[Bool.and_eq_true,decide_eq_true_eq] at hc;obtain⟨V,hs⟩:=hc;have ah:isT D A.pos 4 zbs=false:=zs1 hs;have J:(decide (U<0)&&isT D A.pos 4 zbs)=false:=by rw[ah,Bool.and_false]
   have f:=F.x0.boxC;go_wp2_with fail;refine (zk D k m s X A U d 4 zbs _ F.m.tok I (by decide)).mono ?_;rintro e w4 ⟨rfl,O⟩;rw[J];replace F:=F.below O;clear f;clear J;have hp:A.pos<D.ts.length:=zaB hs (by decide);obtain⟨rfl,rfl⟩:=zaK Y.o V;have aj:=ag.o V;have an:=af.o V
   skip
   have f:=F.x0.boxC;go_wp2_with fail;refine (HP.o (.ok (adv A)) X (adv A) (-1) d _ (zad _) ((F.adv hp).set0_1 _).m (fun _=>by rw[zA];omega) N).mono ?_;rintro e w5 ⟨S5,q5,z5,rfl,ac,m5,s5⟩;replace F:=(F.set0_1 _).stp m5 s5;clear f;have f:=F.x0.boxC;unfold pv;go_upto_region 9 with fail;refine (F.put0 ..).cut ?_;clear f;intro w6 F;have f:=F.x0.boxC;have ai:=F.m.inv.ex;go_wp2_with fail;refine (zdq D k m s _ S5 q5 z5 d ⟨6,0,sNone,sNone,(A.ex.length:Int)-1,(q5.ex.length:Int)-1⟩ _ ac.o F.m (fun h=>zl2 ac.o h)).mono ?_;rintro e w7 ⟨S7,q7,z7,rfl,ak,m7,s7⟩;replace F:=F.stp m7 s7;clear f;have HI:Hid (Is (bd (bd (.ok (adv A)) (pE D .prod d)) fun H=>zT D ⟨6,0,sNone,sNone,(A.ex.length:Int)-1,(H.ex.length:Int)-1⟩ H) q7 z7):=by rw[<-ziv ac.o (fun H=>⟨6,0,sNone,sNone,(A.ex.length:Int)-1,(H.ex.length:Int)-1⟩)];exact ak.o
   have K:Hid (z7<0->A.pos+1<=q7.pos):=fun h=>zl3 HI.o h;have f:=F.x0.boxC;unfold pv;go_wp2;go_roundg (gk-1)
   case rel=>exact⟨_,S7,q7,z7,HI.o,by rw[<-ad.o];exact (zl4 (d:=d) (by rw[hs];rfl) (show zd9 D A.pos=6 by rw[zd9,ah];rfl) hp).symm,fun h=>by have:=K.o h;omega,fun h=>by have:=K.o h;omega,(F.put0 ..).m,(F.put0 ..).t,(F.put0 ..).x0,(F.put0 ..).x1⟩
   case measure=>omega
  |false=>
   have f:=F.x0.boxC;go_wp2_with fail;refine (zk D k m s X A U d 4 zc2 _ F.m.tok I (by decide)).mono ?_;rintro e w3 ⟨rfl,aa⟩;rw[hc];replace F:=F.below aa;clear f;cases J:(decide (U<0)&&isT D A.pos 4 zbs) with
   |true=>
    have f:=F.x0.boxC;go_wp2_with fail;refine (zk D k m s X A U d 4 zbs _ F.m.tok I (by decide)).mono ?_;rintro e w4 ⟨rfl,O⟩;rw[J];replace F:=F.below O;clear f;have f:=F.x0.boxC;go_wp2_with fail;refine (zk D k m s X A U d 4 zbs _ F.m.tok I (by decide)).mono ?_;rintro e w5 ⟨rfl,al⟩;rw[J];replace F:=F.below al;clear f;rw[Bool.and_eq_true,decide_eq_true_eq] at J;obtain⟨V,hs⟩:=J;have hp:A.pos<D.ts.length:=zaB hs (by decide);obtain⟨rfl,rfl⟩:=zaK Y.o V;have aj:=ag.o V;have an:=af.o V
    skip
    have f:=F.x0.boxC;go_wp2_with fail;refine (HP.o (.ok (adv A)) X (adv A) (-1) d _ (zad _) ((F.adv hp).set0_1 _).m (fun _=>by rw[zA];omega) N).mono ?_;rintro e w6 ⟨S6,q6,z6,rfl,Z,m6,s6⟩;replace F:=(F.set0_1 _).stp m6 s6;clear f;have f:=F.x0.boxC;unfold pv;go_upto_region 9 with fail;refine (F.put0 ..).cut ?_;clear f;intro w7 F;have f:=F.x0.boxC;have ai:=F.m.inv.ex;go_wp2_with fail;refine (zdq D k m s _ S6 q6 z6 d ⟨7,0,sNone,sNone,(A.ex.length:Int)-1,(q6.ex.length:Int)-1⟩ _ Z.o F.m (fun h=>zl2 Z.o h)).mono ?_;rintro e w8 ⟨S8,q8,z8,rfl,am,m8,s8⟩;replace F:=F.stp m8 s8;clear f;have HI:Hid (Is (bd (bd (.ok (adv A)) (pE D .prod d)) fun H=>zT D ⟨7,0,sNone,sNone,(A.ex.length:Int)-1,(H.ex.length:Int)-1⟩ H) q8 z8):=by rw[<-ziv Z.o (fun H=>⟨7,0,sNone,sNone,(A.ex.length:Int)-1,(H.ex.length:Int)-1⟩)];exact am.o
    have K:Hid (z8<0->A.pos+1<=q8.pos):=fun h=>zl3 HI.o h;have f:=F.x0.boxC;unfold pv;go_wp2;go_roundg (gk-1)
    case rel=>exact⟨_,S8,q8,z8,HI.o,by rw[<-ad.o];exact (zl4 (d:=d) (by rw[hs,Bool.or_true]) (show zd9 D A.pos=7 by rw[zd9,hs];rfl) hp).symm,fun h=>by have:=K.o h;omega,fun h=>by have:=K.o h;omega,(F.put0 ..).m,(F.put0 ..).t,(F.put0 ..).x0,(F.put0 ..).x1⟩
    case measure=>omega
   |false=>
    have f:=F.x0.boxC;go_wp2_with fail;refine (zk D k m s X A U d 4 zbs _ F.m.tok I (by decide)).mono ?_;rintro e w4 ⟨rfl,O⟩;rw[J];replace F:=F.below O;clear f;have f:=F.x0.boxC;obtain⟨b0,b1,b2,b3,b4,b5,b6,b7,b8,b9,ap,ao,bf⟩:=F.x1.box;go_wp2;refine (F.x1.put ..).ret rfl rfl ?_;exact (F.put1 ..).done rfl (show Is (bd x (pE D .sum d)) A U from by rw[<-ad.o];exact zs0 Y.o hc J)
theorem zs2:ziu C g b c 0:=by
 intro x S q z d w L H K M;by_cases J:z<0
 ·have:=K J;omega
 ·obtain⟨e,rfl,rfl⟩:=zdG L J;rw[zeK];obtain⟨I,A,D⟩:=C;cases D with
  |true=>exact zly I A g b c S q d w H e
  |false=>exact zlz I A g b c S q d w H e
theorem zs3:SumOK C g b c d:=by
 induction d with
 |zero=>exact zl6 (zl5 (zs2 C g b c))
 |succ d w=>exact zl6 (zl5 (zst w))
theorem zd1 (x:PR) (S:Sv) (q:PS) (z:Int) (w:World) (E:Is x q z) (D:Mem C g b c S q w):
  Calls prog 119 #[pv C g b S q z 0] w (Out C g b c (bd x (pE C .sum 0)) 0 S w):=
 zs3 C g b c (C.ts.length+1) x S q z 0 w E D (fun _=>by omega) (by omega)
theorem Is2.withN {y:PRN} {q q':PS} {z z':Int} {n:BA} {F:PR->BA->PR} (h:Is2 y q z n) (D: ∀e n,F (.error e) n= .error e) (w:Is (F (zaV y) n) q' z'):Is2 (withN y F) q' z' n:=by
 cases y with
 |ok a=>
  obtain⟨_,_,rfl⟩:=h;have e:zaV (.ok a)= .ok a.1:=rfl;rw[e] at w;show Is2 (bd (F (.ok a.1) a.2) fun q=>.ok (q,a.2)) q' z' a.2;cases A:F (.ok a.1) a.2 with
  |ok b=>rw[A] at w;exact⟨w.1,w.2,rfl⟩
  |error e=>rw[A] at w;exact w
 |error e=>
  have E:zaV (.error e)= .error e:=rfl;rw[E,D] at w;exact w
theorem zl7 {Z:Nat} {q':PS} {e:BA} (H:B=pv D Z k p q' u s) (J:Is2 X q' u e) (E:Mem D Z k m p q' z) (I:SB V.heap.size T V p z):zdS D Z k m X s T V (.returned (.tuple #[B,.string e])) z:=
 ⟨p,q',u,e,by rw[H],J,E,I.done⟩
theorem ziw (N:Mem C g b c S q W):
  Calls prog 116 #[pv C g b S q (-1) 0] W (zdS C g b c (zcT C q) 0 S W):=by
 have L:=zc N;clear N;unfold pv;go_enter func116,ntmps116;go_wp2_with fail;refine (zaQ C g b c (.ok q) S q (-1) 0 zH _ (zad q) ((L.o.alloc _).alloc _)).mono ?_;rintro e w1 ⟨S1,q1,z1,rfl,E,m1,s1⟩;have F:=L.o.fm2 m1 s1;go_wp2_with fail;refine (zbt C g b c _ S1 q1 z1 0 false _ E.o F.m).mono ?_;rintro e w2 ⟨S2,q2,z2,n2,rfl,D,U,s2⟩;replace F:=F.stp U s2;have M:W.heap.size+1<w2.heap.size:=F.x1.lt;unfold pv;go_wp2_with fail;refine (zak C g b c _ S2 q2 z2 0 cEq _ D.o.fst (F.alloc _).m).mono ?_;rintro e w3 ⟨S3,q3,z3,rfl,K,V,s3⟩;replace F:=(F.new2 _).stp V s3;go_wp2_with fail;refine (zd1 C g b c _ S3 q3 z3 _ K.o F.m).mono ?_;rintro e w4 ⟨S4,q4,z4,rfl,I,m4,O⟩;replace F:=F.stp m4 O;go_wp2_with fail;refine (zak C g b c _ S4 q4 z4 0 cSemi _ I.o F.m).mono ?_;rintro e w5 ⟨Y,q5,X,rfl,A,m5,s5⟩;replace F:=F.stp m5 s5;have J:=F.x2.boxC;unfold pv;go_upto_region 3 with fail;refine (F.put2 ..).cut ?_;clear J;intro w6 F;have J:=F.x2.boxC;go_wp2_with fail;refine (zdr C g b c _ Y q5 X 0 1 n2 _ A.o F.m (zb0 A.o)).mono ?_;rintro e w7 ⟨S7,q7,z7,rfl,H,m7,Z⟩;replace F:=F.stp m7 Z;clear J;have bb:=F.x1.boxC;unfold pv;go_wp2;refine bodyPost_ret (zaC rfl _ _ (W.heap.size+1) 121 _ (0,0) _ rfl ((F.x1.put ..)).heap underlying121 rfl (by kernel_rfl)) rfl ?_;exact zl7 rfl (D.o.withN (F:=fun x n=>_) (fun _ _=>rfl) H.o) (F.put1 ..).m (F.put1 ..).t
theorem zix (hm:Mem C g b c S q W):
  Calls prog 117 #[pv C g b S q (-1) 0] W (zdS C g b c (fnP C q) 0 S W):=by
 have HM:=zc hm;clear hm;unfold pv;go_enter func117,ntmps117;go_wp2_with fail;refine (zaQ C g b c (.ok q) S q (-1) 0 zW _ (zad q) ((HM.o.alloc _).alloc _)).mono ?_;rintro e w1 ⟨S1,q1,z1,rfl,N,m1,s1⟩;have F:=HM.o.fm2 m1 s1;go_wp2_with fail;refine (zbt C g b c _ S1 q1 z1 0 false _ N.o F.m).mono ?_;rintro e w2 ⟨S2,q2,z2,n2,rfl,E,m2,s2⟩;replace F:=F.stp m2 s2;have ah:W.heap.size+1<w2.heap.size:=F.x1.lt;unfold pv;go_wp2_with fail;refine (zak C g b c _ S2 q2 z2 0 zp _ E.o.fst (F.alloc _).m).mono ?_;rintro e w3 ⟨S3,q3,z3,rfl,ae,m3,s3⟩;replace F:=(F.new2 _).stp m3 s3;go_wp2_with fail;refine (zak C g b c _ S3 q3 z3 0 zaA _ ae.o F.m).mono ?_;rintro e w4 ⟨S4,q4,z4,rfl,U,m4,s4⟩;replace F:=F.stp m4 s4;go_wp2_with fail;refine (zak C g b c _ S4 q4 z4 0 zO _ U.o F.m).mono ?_;rintro e w5 ⟨S5,q5,z5,rfl,aa,m5,s5⟩;replace F:=F.stp m5 s5;have A:=F.x2.boxC;unfold pv;go_upto_region 3 with fail;refine (F.put2 ..).cut ?_;clear A;intro w6 F;have A:=F.x2.boxC;go_wp2_with fail;refine (zaQ C g b c _ S5 q5 z5 0 zeJ _ aa.o F.m).mono ?_;rintro e w7 ⟨S7,q7,z7,rfl,O,m7,s7⟩;replace F:=F.stp m7 s7;clear A;go_wp2_with fail;refine (zd1 C g b c _ S7 q7 z7 _ O.o F.m).mono ?_;rintro e w8 ⟨S8,q8,z8,rfl,ad,m8,s8⟩;replace F:=F.stp m8 s8;have A:=F.x2.boxC;unfold pv;go_upto_region 4 with fail;refine (F.put2 ..).cut ?_;clear A;intro w9 F;have A:=F.x2.boxC;go_wp2_with fail;refine (zak C g b c _ S8 q8 z8 0 cSemi _ ad.o F.m).mono ?_;rintro e an ⟨Z,ag,J,rfl,I,ab,K⟩;replace F:=F.stp ab K;clear A;go_wp2_with fail;refine (zak C g b c _ Z ag J 0 zb5 _ I.o F.m).mono ?_;rintro e aj ⟨V,ac,af,rfl,D,L,M⟩;replace F:=F.stp L M;have A:=F.x2.boxC;unfold pv;go_upto_region 5 with fail;refine (F.put2 ..).cut ?_;clear A;intro ao F;have A:=F.x2.boxC;go_wp2_with fail;refine (zdr C g b c _ V ac af 0 2 n2 _ D.o F.m (zb0 D.o)).mono ?_;rintro e am ⟨al,ak,ai,rfl,H,Y,X⟩;replace F:=F.stp Y X;clear A;have bb:=F.x1.boxC;unfold pv;go_wp2;refine bodyPost_ret (zaC rfl _ _ (W.heap.size+1) 121 _ (0,0) _ rfl ((F.x1.put ..)).heap underlying121 rfl (by kernel_rfl)) rfl ?_;exact zl7 rfl (E.o.withN (F:=fun x n=>_) (fun _ _=>rfl) H.o) (F.put1 ..).m (F.put1 ..).t
end Go.Proofs.YtgcbmogmniahjaaGreat
