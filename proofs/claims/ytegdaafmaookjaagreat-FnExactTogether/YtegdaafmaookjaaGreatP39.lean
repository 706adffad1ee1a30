/- Facts. -/
import Derived.Deep.Cut
import Derived.Test.YtegdaafmaookjaaGreatP13
import Derived.Deep.DeepCutAuto
namespace Go.Proofs.YtegdaafmaookjaaGreat
open List (mem_cons_self mem_append_right)
open Go.Proofs.Tryz
set_option maxRecDepth 100000
set_option maxHeartbeats 6400000
open Go.RowKit Go.PlainAid
abbrev set12 (w:World) (b:Nat) (x0 x1 x2 x3 x4 x5 x6 x7 x8 x9 x10 x11:Value):World:=
 ((((((((((((w.setCell ⟨b,0,none⟩ x0).setCell ⟨b,1,none⟩ x1).setCell ⟨b,2,none⟩ x2).setCell ⟨b,3,none⟩ x3).setCell ⟨b,4,none⟩ x4).setCell ⟨b,5,none⟩ x5).setCell ⟨b,6,none⟩ x6).setCell ⟨b,7,none⟩ x7).setCell ⟨b,8,none⟩ x8).setCell ⟨b,9,none⟩ x9).setCell ⟨b,10,none⟩ x10).setCell ⟨b,11,none⟩ x11)
variable (C:Cx) (w:List Tk) (g b c d:Nat) (S:Sv) (q:PS) (n:Nat) (W:World) {V z:World} {k m s x:Nat} {T p:Sv} {t:Array Value} {D:Cx} {h A:PS} {B E F G H I:Value} {J:Func} {K:Tmp} {L:Code} {M:Act} {N:PR} {u O:Int} {P:Rw} {Q:List Ep} {R:BA0} {U:Bool} {X:PRN} {Y:PS->Ex}
theorem zjg (a:Addr) (u:Value):(W.setCell a u).heap.size=W.heap.size:=by show (W.heap.modify _ _).size=_;simp
theorem ztH (b:Nat) (A K O L H U J N I M h q:Value):(set12 W b A K O L H U J N I M h q).heap.size=W.heap.size:=by
 unfold set12;simp only[zjg]
theorem zg0 {b k:Nat} (h:k≠b) (H L U M I Z K O J N q A:Value):(set12 V b H L U M I Z K O J N q A).heap[k]? =V.heap[k]?:=by
 unfold set12;rw[zC h,zC h,zC h,zC h,zC h,zC h,zC h,zC h,zC h,zC h,zC h,zC h]
structure Bx (gt:Nat) (S:Sv) (w:World) (b:Nat) (cs:Array Value):Prop where
 heap:w.heap[b]? =some (.cells cs 127 (0,0))
 free: ¬S.has b
 ne:b≠gt
theorem Bx.lt (h:Bx k T V m t):m<V.heap.size:=(aLt h.heap)
theorem Bx.stp (h:Bx k T V m t) (Z:Stp T V p z):Bx k p z m t:=
 ⟨(Z.block m h.lt h.free).trans h.heap,fun g=>(Z.sub m g).elim h.free fun A=>by have:=h.lt;omega,h.ne⟩
theorem Bx.below (h:Bx k T V m t) (Z:Bw V z):Bx k T z m t:=⟨(Z.block m h.lt).trans h.heap,h.free,h.ne⟩
theorem Bx.alloc (h:Bx k T V m t) (o:Obj):Bx k T (V.alloc o) m t:=h.below (bA0)
theorem Bx.new (Z:Mem D k m s T h V) (cs:Array Value):Bx k T (V.alloc (.cells cs 127 (0,0))) V.heap.size cs:=
 ⟨hN0 V _,fun g=>by have:=(Z.own.has g).2;omega,by have:=(za1 Z.tok).1;omega⟩
theorem Bx.set {b:Nat} (h:Bx k T V b t) (i:Nat) (u:Value):Bx k T (V.setCell ⟨b,i,none⟩ u) b (t.setIfInBounds i u):=⟨zcH h.heap,h.free,h.ne⟩
theorem Bx.set_other (h:Bx k T V m t) (q:m≠s) (i:Nat) (u:Value):Bx k T (V.setCell ⟨s,i,none⟩ u) m t:=⟨(zC q).trans h.heap,h.free,h.ne⟩
theorem Bx.put {v6 v7 v8 v9 v10 v11:Value} (h:Bx k T V m #[B,E,F,G,H,I,v6,v7,v8,v9,v10,v11]) (e L U M f Z K O J N q A:Value):
  Bx k T (set12 V m e L U M f Z K O J N q A) m #[e,L,U,M,f,Z,K,O,J,N,q,A]:=⟨zbp h.heap,h.free,h.ne⟩
theorem Bx.other (h:Bx k T V m t) (N:m≠s) (H L Z M I X K U J O q A:Value):Bx k T (set12 V s H L Z M I X K U J O q A) m t:=⟨(zg0 N ..).trans h.heap,h.free,h.ne⟩
theorem Bx.at1 {v6 v7 v8 v9 v10 v11:Value} (h:Bx k T V m #[B,E,F,G,H,I,v6,v7,v8,v9,v10,v11]) (u:Value):Bx k T (V.setCell ⟨m,1,none⟩ u) m #[B,u,F,G,H,I,v6,v7,v8,v9,v10,v11]:=by simpa using h.set 1 u
theorem Bx.at11 {v6 v7 v8 v9 v10 v11:Value} (h:Bx k T V m #[B,E,F,G,H,I,v6,v7,v8,v9,v10,v11]) (u:Value):Bx k T (V.setCell ⟨m,11,none⟩ u) m #[B,E,F,G,H,I,v6,v7,v8,v9,v10,u]:=by simpa using h.set 11 u
theorem Bx.box {v6 v7 v8 v9 v10 v11:Value} (h:Bx k T V m #[B,E,F,G,H,I,v6,v7,v8,v9,v10,v11]):Box V m B E F G H I v6 v7 v8 v9 v10 v11:=zaw h.heap
theorem Mem.set {b:Nat} (f:Mem D k m s T h V) (A:Bx k T V b t) (i:Nat) (u:Value):Mem D k m s T h (V.setCell ⟨b,i,none⟩ u):=
 ⟨f.own.keep fun Z g=>zC (b:=Z) fun e=>A.free (by rw[<-e];exact g),f.inv,zbV f.tok (zC A.ne.symm),f.few,by rw[zjg];exact f.base⟩
theorem Mem.put (f:Mem D k m s T h V) (I:Bx k T V x t) (J N X O K Y M i L U A H:Value):Mem D k m s T h (set12 V x J N X O K Y M i L U A H):=
 ⟨f.own.keep fun Z g=>zg0 (k:=Z) (fun e=>I.free (by rw[<-e];exact g)) _ _ _ _ _ _ _ _ _ _ _ _,f.inv,zbV f.tok (zg0 I.ne.symm ..),f.few,by rw[ztH];exact f.base⟩
structure SB (B:Nat) (S:Sv) (w:World) (S':Sv) (w':World):Prop where
 os:w'.os=w.os
 tape:w'.tape=w.tape
 output:w'.output=w.output
 size:w.heap.size<=w'.heap.size
 low:B<=w.heap.size
 block: ∀k,k<B->¬S.has k->w'.heap[k]? =w.heap[k]?
 sub: ∀k,S'.has k->S.has k∨B<=k
theorem SB.start (h:Bw V z):SB V.heap.size T V T z:=⟨h.os,h.tape,h.output,h.size,Nat.le_refl _,fun k q _=>h.block k q,fun _ g=>.inl g⟩
theorem SB.step {A:Sv} {H:World} (h:SB k T V p z) (Z:Stp p z A H):SB k T V A H:=
 ⟨Z.os.trans h.os,Z.tape.trans h.tape,Z.output.trans h.output,Nat.le_trans h.size Z.size,h.low,
  fun i q I=>(Z.block i (by have:=h.size;have:=h.low;omega) fun g=>(h.sub i g).elim I fun J=>by omega).trans (h.block i q I),
  fun i q=>(Z.sub i q).elim (h.sub i) fun g=>.inr (by have:=h.size;have:=h.low;omega)⟩
theorem SB.below {q:World} (h:SB k T V p z) (Z:Bw z q):SB k T V p q:=h.step (Stp.below Z)
theorem SB.alloc (h:SB k T V p z) (o:Obj):SB k T V p (z.alloc o):=h.below (bA0)
theorem SB.set (h:SB k T V p z) {b:Nat} (H:k<=b) (i:Nat) (u:Value):SB k T V p (z.setCell ⟨b,i,none⟩ u):=
 ⟨h.os,h.tape,h.output,by rw[zjg];exact h.size,h.low,fun Z q A=>(zC (by omega)).trans (h.block Z q A),h.sub⟩
theorem SB.put (h:SB k T V p z) (q:k<=m) (I M Z N J X L U K O A H:Value):SB k T V p (set12 z m I M Z N J X L U K O A H):=
 (((((((((((h.set q 0 I).set q 1 M).set q 2 Z).set q 3 N).set q 4 J).set q 5 X).set q 6 L).set q 7 U).set q 8 K).set q 9 O).set q 10 A).set q 11 H
theorem SB.done (h:SB V.heap.size T V p z):Stp T V p z:=⟨h.os,h.tape,h.output,h.size,h.block,h.sub⟩
theorem Mem.two {A:Array Value} (Z:Mem D k m s T h V) (I:Below ((V.alloc (.cells t 127 (0,0))).alloc (.cells A 127 (0,0))).heap.size ((V.alloc (.cells t 127 (0,0))).alloc (.cells A 127 (0,0))) z):
  Bx k T z V.heap.size t/\Bx k T z (V.heap.size+1) A/\Mem D k m s T h z/\SB V.heap.size T V T z:=
 ⟨((Bx.new Z _).alloc _).below I,by have:=(Bx.new (Z.alloc (.cells t 127 (0,0))) A).below I;rw[zh] at this;exact this,Z.later (zbv I),SB.start (zbv I)⟩
theorem Mem.two2 {A:Array Value} (e:Mem D k m s T h V) (Z:Stp T ((V.alloc (.cells t 127 (0,0))).alloc (.cells A 127 (0,0))) p z):
  Bx k p z V.heap.size t/\Bx k p z (V.heap.size+1) A/\SB V.heap.size T V p z:=
 ⟨((Bx.new e _).alloc _).stp Z,by have:=(Bx.new (e.alloc (.cells t 127 (0,0))) A).stp Z;rw[zh] at this;exact this,(SB.start (zbq V _ _)).step Z⟩
theorem Bx.boxC {v6 v7 v8 v9 v10 v11:Value} (h:Bx k T V m #[B,E,F,G,H,I,v6,v7,v8,v9,v10,v11]):V.cell? ⟨m,0,none⟩=some B/\V.cell? ⟨m,1,none⟩=some E/\V.cell? ⟨m,2,none⟩=some F/\V.cell? ⟨m,3,none⟩=some G/\V.cell? ⟨m,4,none⟩=some H/\V.cell? ⟨m,5,none⟩=some I/\V.cell? ⟨m,6,none⟩=some v6/\V.cell? ⟨m,7,none⟩=some v7/\V.cell? ⟨m,8,none⟩=some v8/\V.cell? ⟨m,9,none⟩=some v9/\V.cell? ⟨m,10,none⟩=some v10/\V.cell? ⟨m,11,none⟩=some v11/\∀i,V.frozen? ⟨m,i,none⟩=false:=
 have Z:=h.box
 ⟨Z.c0,Z.c1,Z.c2,Z.c3,Z.c4,Z.c5,Z.c6,Z.c7,Z.c8,Z.c9,Z.c10,Z.c11,Z.fz⟩
theorem Bx.ret {v6 v7 v8 v9 v10 v11:Value} (h:Bx k T V m #[B,E,F,G,H,I,v6,v7,v8,v9,v10,v11]) {R:Ending->World->Prop} (e:J.results= #[.cell K 127]) (A:t.getD K undef= .pointer (some ⟨m,0,none⟩)) (Z:R (.returned (.agg #[B,E,F,G,H,I,v6,v7,v8,v9,v10,v11])) V):bodyPost prog J R .ret {tmps:=t,defers:=[]} V:=
 bodyPost_ret (results_cell_row e _ _ m 127 _ (0,0) _ A h.heap underlying127 rfl (by kernel_rfl)) rfl Z
structure Fm (C:Cx) (gt cap base:Nat) (S0:Sv) (w0:World) (S:Sv) (q:PS) (bs:List (Nat×Array Value)) (w:World):Prop where
 x: ∀b∈bs,Bx gt S w b.1 b.2
 d:bs.Pairwise fun a b=>a.1≠b.1
 g: ∀b∈bs,w0.heap.size<=b.1
 m:Mem C gt cap base S q w
 t:SB w0.heap.size S0 w0 S w
section
variable {C:Cx} {gt cap base b b0 b1 b2 b3:Nat} {S0 S S1:Sv} {w0 w w1:World} {q q1:PS} {bs l1:List (Nat×Array Value)} {cs c0 c1 c2 c3:Array Value} {v0 v1 v2 v3 v4 v5 v6 v7 v8 v9 v10 v11:Value}
theorem Fm.x0 (F:Fm C gt cap base S0 w0 S q ((b0,c0)::bs) w):Bx gt S w b0 c0:=F.x _ (mem_cons_self ..)
theorem Fm.x1 (F:Fm C gt cap base S0 w0 S q ((b0,c0)::(b1,c1)::bs) w):Bx gt S w b1 c1:=F.x (b1,c1) (by simp)
theorem Fm.x2 (F:Fm C gt cap base S0 w0 S q ((b0,c0)::(b1,c1)::(b2,c2)::bs) w):Bx gt S w b2 c2:=F.x (b2,c2) (by simp)
theorem Fm.x3 (F:Fm C gt cap base S0 w0 S q ((b0,c0)::(b1,c1)::(b2,c2)::(b3,c3)::bs) w):Bx gt S w b3 c3:=F.x (b3,c3) (by simp)
theorem Fm.below (F:Fm C gt cap base S0 w0 S q bs w) (k:Bw w w1):Fm C gt cap base S0 w0 S q bs w1:=⟨fun b h=>(F.x b h).below k,F.d,F.g,F.m.later k,F.t.below k⟩
theorem Fm.stp (F:Fm C gt cap base S0 w0 S q bs w) (m:Mem C gt cap base S1 q1 w1) (k:Stp S w S1 w1):Fm C gt cap base S0 w0 S1 q1 bs w1:=⟨fun b h=>(F.x b h).stp k,F.d,F.g,m,F.t.step k⟩
theorem Fm.alloc (F:Fm C gt cap base S0 w0 S q bs w) (o:Obj):Fm C gt cap base S0 w0 S q bs (w.alloc o):=F.below (bA0)
theorem Fm.adv (F:Fm C gt cap base S0 w0 S q bs w) (h:q.pos<C.ts.length):Fm C gt cap base S0 w0 S (adv q) bs w:=⟨F.x,F.d,F.g,F.m.adv h,F.t⟩
theorem Fm.new (F:Fm C gt cap base S0 w0 S q bs w) (cs:Array Value):Fm C gt cap base S0 w0 S q (bs++[(w.heap.size,cs)]) (w.alloc (.cells cs 127 (0,0))):=by
 refine⟨fun b h=>?_,?_,fun b h=>?_,F.m.alloc _,F.t.alloc _⟩
 ·rcases List.mem_append.1 h with h|h
  ·exact (F.x b h).alloc _
  ·rw[List.mem_singleton.1 h];exact Bx.new F.m cs
 ·refine List.pairwise_append.2 ⟨F.d,List.pairwise_singleton _ _,fun a A b H=>?_⟩;rw[List.mem_singleton.1 H];exact Nat.ne_of_lt (F.x a A).lt
 ·rcases List.mem_append.1 h with h|h
  ·exact F.g b h
  ·rw[List.mem_singleton.1 h];exact F.t.size
theorem Fm.new2 (F:Fm C gt cap base S0 w0 S q [(b0,c0),(b1,c1)] w) (cs:Array Value):Fm C gt cap base S0 w0 S q [(b0,c0),(b1,c1),(w.heap.size,cs)] (w.alloc (.cells cs 127 (0,0))):=F.new cs
theorem Fm.new3 (F:Fm C gt cap base S0 w0 S q [(b0,c0),(b1,c1),(b2,c2)] w) (cs:Array Value):Fm C gt cap base S0 w0 S q [(b0,c0),(b1,c1),(b2,c2),(w.heap.size,cs)] (w.alloc (.cells cs 127 (0,0))):=F.new cs
theorem Fm.turn (F:Fm C gt cap base S0 w0 S q (l1++(b,cs)::bs) w) (U:Bx gt S w1 b c0) (I: ∀k,k≠b->∀c,Bx gt S w k c->Bx gt S w1 k c) (K:Mem C gt cap base S q w1) (O:SB w0.heap.size S0 w0 S w1):Fm C gt cap base S0 w0 S q (l1++(b,c0)::bs) w1:=by
 obtain⟨M,L,A⟩:=List.pairwise_append.1 F.d;obtain⟨H,N⟩:=List.pairwise_cons.1 L;refine⟨fun a h=>?_,List.pairwise_append.2 ⟨M,List.pairwise_cons.2 ⟨H,N⟩,fun a J c V=>?_⟩,fun a h=>?_,K,O⟩
 ·rcases List.mem_append.1 h with h|h
  ·exact I _ (A a h _ (mem_cons_self ..)) _ (F.x a (List.mem_append_left _ h))
  ·rcases List.mem_cons.1 h with h|h
   ·rw[h];exact U
   ·exact I _ (H a h).symm _ (F.x a (mem_append_right _ (List.mem_cons_of_mem _ h)))
 ·rcases List.mem_cons.1 V with h|h
  ·rw[h];exact A a J (b,cs) (mem_cons_self ..)
  ·exact A a J c (List.mem_cons_of_mem _ h)
 ·rcases List.mem_append.1 h with h|h
  ·exact F.g a (List.mem_append_left _ h)
  ·rcases List.mem_cons.1 h with h|h
   ·rw[h];exact F.g (b,cs) (mem_append_right _ (mem_cons_self ..))
   ·exact F.g a (mem_append_right _ (List.mem_cons_of_mem _ h))
theorem Fm.put (F:Fm C gt cap base S0 w0 S q (l1++(b,#[v0,v1,v2,v3,v4,v5,v6,v7,v8,v9,v10,v11])::bs) w) (I M V N J X L U K O A H:Value):Fm C gt cap base S0 w0 S q (l1++(b,#[I,M,V,N,J,X,L,U,K,O,A,H])::bs) (set12 w b I M V N J X L U K O A H):=
 have h:Bx gt S w b #[v0,v1,v2,v3,v4,v5,v6,v7,v8,v9,v10,v11]:=F.x (b,_) (mem_append_right _ (mem_cons_self ..))
 F.turn (h.put ..) (fun _ Y _ Z=>Z.other Y ..) (F.m.put h ..) (F.t.put (F.g (b,_) (mem_append_right _ (mem_cons_self ..))) ..)
theorem Fm.put0 (F:Fm C gt cap base S0 w0 S q ((b,#[v0,v1,v2,v3,v4,v5,v6,v7,v8,v9,v10,v11])::bs) w) (H L U M I V K O J N h A:Value):Fm C gt cap base S0 w0 S q ((b,#[H,L,U,M,I,V,K,O,J,N,h,A])::bs) (set12 w b H L U M I V K O J N h A):=Fm.put (l1:=[]) F ..
theorem Fm.put1 (F:Fm C gt cap base S0 w0 S q ((b0,c0)::(b,#[v0,v1,v2,v3,v4,v5,v6,v7,v8,v9,v10,v11])::bs) w) (H L U M I V K O J N h A:Value):Fm C gt cap base S0 w0 S q ((b0,c0)::(b,#[H,L,U,M,I,V,K,O,J,N,h,A])::bs) (set12 w b H L U M I V K O J N h A):=Fm.put (l1:=[(b0,c0)]) F ..
theorem Fm.put2 (F:Fm C gt cap base S0 w0 S q ((b0,c0)::(b1,c1)::(b,#[v0,v1,v2,v3,v4,v5,v6,v7,v8,v9,v10,v11])::bs) w) (H L U M I V K O J N h A:Value):Fm C gt cap base S0 w0 S q ((b0,c0)::(b1,c1)::(b,#[H,L,U,M,I,V,K,O,J,N,h,A])::bs) (set12 w b H L U M I V K O J N h A):=Fm.put (l1:=[(b0,c0),(b1,c1)]) F ..
theorem Fm.put3 (F:Fm C gt cap base S0 w0 S q ((b0,c0)::(b1,c1)::(b2,c2)::(b,#[v0,v1,v2,v3,v4,v5,v6,v7,v8,v9,v10,v11])::bs) w) (H L U M I V K O J N h A:Value):Fm C gt cap base S0 w0 S q ((b0,c0)::(b1,c1)::(b2,c2)::(b,#[H,L,U,M,I,V,K,O,J,N,h,A])::bs) (set12 w b H L U M I V K O J N h A):=Fm.put (l1:=[(b0,c0),(b1,c1),(b2,c2)]) F ..
theorem Fm.set0_1 (F:Fm C gt cap base S0 w0 S q ((b,#[v0,v1,v2,v3,v4,v5,v6,v7,v8,v9,v10,v11])::bs) w) (u:Value):Fm C gt cap base S0 w0 S q ((b,#[v0,u,v2,v3,v4,v5,v6,v7,v8,v9,v10,v11])::bs) (w.setCell ⟨b,1,none⟩ u):=
 have h:Bx gt S w b #[v0,v1,v2,v3,v4,v5,v6,v7,v8,v9,v10,v11]:=F.x (b,_) (by simp)
 Fm.turn (l1:=[]) F (h.at1 u) (fun _ H _ A=>A.set_other H 1 u) (F.m.set h 1 u) (F.t.set (F.g (b,#[v0,v1,v2,v3,v4,v5,v6,v7,v8,v9,v10,v11]) (by simp)) 1 u)
theorem Fm.set0_11 (F:Fm C gt cap base S0 w0 S q ((b,#[v0,v1,v2,v3,v4,v5,v6,v7,v8,v9,v10,v11])::bs) w) (u:Value):Fm C gt cap base S0 w0 S q ((b,#[v0,v1,v2,v3,v4,v5,v6,v7,v8,v9,v10,u])::bs) (w.setCell ⟨b,11,none⟩ u):=
 have h:Bx gt S w b #[v0,v1,v2,v3,v4,v5,v6,v7,v8,v9,v10,v11]:=F.x (b,_) (by simp)
 Fm.turn (l1:=[]) F (h.at11 u) (fun _ H _ A=>A.set_other H 11 u) (F.m.set h 11 u) (F.t.set (F.g (b,#[v0,v1,v2,v3,v4,v5,v6,v7,v8,v9,v10,v11]) (by simp)) 11 u)
theorem Fm.set2_1 (F:Fm C gt cap base S0 w0 S q ((b0,c0)::(b1,c1)::(b,#[v0,v1,v2,v3,v4,v5,v6,v7,v8,v9,v10,v11])::bs) w) (u:Value):Fm C gt cap base S0 w0 S q ((b0,c0)::(b1,c1)::(b,#[v0,u,v2,v3,v4,v5,v6,v7,v8,v9,v10,v11])::bs) (w.setCell ⟨b,1,none⟩ u):=
 have h:Bx gt S w b #[v0,v1,v2,v3,v4,v5,v6,v7,v8,v9,v10,v11]:=F.x (b,_) (by simp)
 Fm.turn (l1:=[(b0,c0),(b1,c1)]) F (h.at1 u) (fun _ H _ A=>A.set_other H 1 u) (F.m.set h 1 u) (F.t.set (F.g (b,#[v0,v1,v2,v3,v4,v5,v6,v7,v8,v9,v10,v11]) (by simp)) 1 u)
theorem Fm.of2 (H:Bx gt S w b0 c0) (K:Bx gt S w b1 c1) (m:Mem C gt cap base S q w) (t:SB w0.heap.size S0 w0 S w) (h:b0≠b1) (J:w0.heap.size<=b0) (I:w0.heap.size<=b1):Fm C gt cap base S0 w0 S q [(b0,c0),(b1,c1)] w:=by
 refine⟨fun b A=>?_,by simp[h],fun b A=>?_,m,t⟩
 ·simp at A;rcases A with rfl|rfl
  ·exact H
  ·exact K
 ·simp at A;rcases A with rfl|rfl
  ·exact J
  ·exact I
theorem Fm.cut {P:Program} {Q:Exit->Act->World->Prop} (F:Fm C gt cap base S0 w0 S q bs w) (h: ∀W,Fm C gt cap base S0 w0 S q bs W->Code.wp P L Q M W):Code.wp P L Q M w:=h w F
theorem Fm.cutR {P:Program} {Q:Exit->Act->World->Prop} {RW:World->Prop} (F:Fm C gt cap base S0 w0 S q bs w) (r:RW w) (h: ∀W,Fm C gt cap base S0 w0 S q bs W->RW W->Code.wp P L Q M W):Code.wp P L Q M w:=h w F r
theorem Mem.fm {A:Array Value} (h:Mem C gt cap base S q w) (I:Below ((w.alloc (.cells t 127 (0,0))).alloc (.cells A 127 (0,0))).heap.size ((w.alloc (.cells t 127 (0,0))).alloc (.cells A 127 (0,0))) w1):Fm C gt cap base S w S q [(w.heap.size,t),(w.heap.size+1,A)] w1:=
 have⟨h1,h2,h3,h4⟩:=h.two I
 Fm.of2 h1 h2 h3 h4 (by omega) (by omega) (by omega)
theorem Mem.fm2 {A:Array Value} (h:Mem C gt cap base S q w) (m:Mem C gt cap base S1 q1 w1) (s:Stp S ((w.alloc (.cells t 127 (0,0))).alloc (.cells A 127 (0,0))) S1 w1):Fm C gt cap base S w S1 q1 [(w.heap.size,t),(w.heap.size+1,A)] w1:=
 have⟨h1,h2,h3⟩:=h.two2 s
 Fm.of2 h1 h2 m h3 (by omega) (by omega) (by omega)
end
theorem zmn {q':PS} (A:B=pv D k m p q' u x) (I:Is N q' u) (q:Mem D k m s p q' z) (H:SB V.heap.size T V p z):Out D k m s N x T V (.returned B) z:=
 ⟨p,q',u,by rw[A],I,q,H.done⟩
theorem Fm.done {cap:Nat} {q':PS} {bs:List (Nat×Array Value)} (F:Fm D k cap s T V p q' bs z) (q:B=pv D k cap p q' u x) (A:Is N q' u):Out D k cap s N x T V (.returned B) z:=zmn q A F.m F.t
structure Row (S:Sv) (w:World) (base B:Nat) (r:Rw) (l:List Ep):Prop where
 own:OwnR w base 103 4 r l.length (l.flatMap epL)
 free: ∀k,r.blk=some k->¬S.has k
 new: ∀k,r.blk=some k->B<=k
 addr: ∃g,r.a=some ⟨g,0,none⟩
theorem Row.ne (h:Row T V s x P Q) (H:Bx k T V m t): ∀Z,P.blk=some Z->Z≠m:=by
 rintro Z A rfl;obtain⟨_,_,c,g⟩:=h.own.typed A;rw[H.heap] at g;simp only[sI0,Obj.cells.injEq] at g;exact absurd g.2.1 (by decide)
theorem Row.stp (h:Row T V k m P Q) (s:Stp T V p z):Row p z k m P Q:=
 ⟨h.own.keep fun Z q=>s.block Z (h.own.typed q).2.1 (h.free Z q),fun Z q g=>(s.sub Z g).elim (h.free Z q) fun H=>by have:=(h.own.typed q).2.1;omega,h.new,h.addr⟩
theorem Row.below (h:Row T V k m P Q) (s:Bw V z):Row T z k m P Q:=h.stp (Stp.below s)
theorem Row.alloc {base:Nat} (h:Row T V base k P Q) (o:Obj):Row T (V.alloc o) base k P Q:=h.below (bA0)
theorem Row.drew (h:Row T V k m P Q):Row T V.drew k m P Q:=⟨h.own,h.free,h.new,h.addr⟩
theorem Row.set {b:Nat} (h:Row T V m s P Q) (H:Bx k T V b t) (i:Nat) (u:Value):Row T (V.setCell ⟨b,i,none⟩ u) m s P Q:=
 ⟨h.own.keep fun Z A=>zC (h.ne H Z A),h.free,h.new,h.addr⟩
theorem Row.put (h:Row T V s x P Q) (f:Bx k T V m t) (I O Z U K x5 N Y M H q A:Value):Row T (set12 V m I O Z U K x5 N Y M H q A) s x P Q:=
 ⟨h.own.keep fun e J=>zg0 (h.ne f e J) _ _ _ _ _ _ _ _ _ _ _ _,h.free,h.new,h.addr⟩
theorem Row.nil {B:Nat} (e:Mem D k m s T h V) (hB:B<=V.heap.size):Row T (V.alloc (.cells #[] 103 (0,0))) s B ⟨some ⟨V.heap.size,0,none⟩,0⟩ []:=by
 refine⟨World.ownsRow_lit V #[] 0 e.base (by unfold maxLen;omega) rfl,fun Z H g=>?_,fun Z H=>?_,⟨_,rfl⟩⟩
 ·simp only[Rw.blk,Value.ownBlock,sI0] at H;have:=(e.own.has g).2;omega
 ·simp only[Rw.blk,Value.ownBlock,sI0] at H;omega
theorem Row.grow {B:Nat} {K:Rw} {x:Ep} (f:Row T V s B P Q) (H:Mem D k m s T h V) (hB:B<=V.heap.size) (U:V.grownBy z P.blk) (O:OwnR z s 103 4 K (Q.length+1) (Q.flatMap epL++epL x)) (J:K.blk=P.blk∨K.blk=some V.heap.size):
  Row T z s B K (Q++[x])/\Mem D k m s T h z:=by
 refine⟨⟨?_,fun Z A g=>?_,fun Z A=>?_,O.addr.resolve_left (by omega)⟩,?_⟩
 ·have e:(Q++[x]).length=Q.length+1:=by simp
  rw[e]
  simpa using O
 ·rcases J with e|e
  ·exact f.free Z (by rw[<-e];exact A) g
  ·have i:V.heap.size=Z:=oI (e.symm.trans A);have:=(H.own.has g).2;omega
 ·rcases J with e|e
  ·exact f.new Z (by rw[<-e];exact A)
  ·have i:V.heap.size=Z:=oI (e.symm.trans A);omega
 ·have w: ∀Z,Z<V.heap.size->P.blk≠some Z->z.heap[Z]? =V.heap[Z]?:=fun Z A M=>U.block Z A fun e=>M e.symm;refine⟨H.own.keep fun Z A=>w Z (H.own.has A).2 fun e=>f.free Z e A,H.inv,zbV H.tok (w k (za1 H.tok).1 fun e=>?_),H.few,Nat.le_trans H.base U.size⟩;obtain⟨_,_,c,g⟩:=f.own.typed e;obtain⟨X,N⟩:=zgT H.tok;rw[g] at N;simp only[sI0,Obj.cells.injEq] at N;exact absurd N.2.1 (by decide)
theorem Row.bx (h:Row T V s x P Q) (q:Bx k T V m t) (H:V.grownBy z P.blk):Bx k T z m t:=
 ⟨(H.block m q.lt fun e=>h.ne q m e.symm rfl).trans q.heap,q.free,q.ne⟩
theorem Row.sb {w':World} (h:Row T z k m P Q) (q:SB m p V T z) (A:z.grownBy w' P.blk):SB m p V T w':=
 ⟨A.os.trans q.os,A.tape.trans q.tape,A.output.trans q.output,Nat.le_trans q.size A.size,q.low,fun Z H I=>(A.block Z (by have:=q.size;have:=q.low;omega) fun e=>by have:=h.new Z e.symm;omega).trans (q.block Z H I),q.sub⟩
theorem Mem.list3 {I:Array Value} (e:Mem D k m s T h V) (Z:Stp T (((V.alloc (.cells t 127 (0,0))).alloc (.cells I 127 (0,0))).alloc (.cells #[] 103 (0,0))) p z):
  Bx k p z V.heap.size t/\Bx k p z (V.heap.size+1) I/\Row p z s V.heap.size ⟨some ⟨V.heap.size+1+1,0,none⟩,0⟩ []/\SB V.heap.size T V p z:=by
 refine⟨(((Bx.new e _).alloc _).alloc _).stp Z,?_,?_,(SB.start (zd5 V _ _ _)).step Z⟩
 ·have:=((Bx.new (e.alloc (.cells t 127 (0,0))) I).alloc (.cells #[] 103 (0,0))).stp Z;rw[zh] at this;exact this
 ·have:=(Row.nil (B:=V.heap.size) ((e.alloc (.cells t 127 (0,0))).alloc (.cells I 127 (0,0))) (zbq V _ _).size).stp Z;rw[zdl] at this;exact this
def Is3 (y:PRL) (q:PS) (z:Int) (l:List Ep):Prop:=
 match y with
 | .ok a=>q=a.1/\z= -1/\l=a.2
 | .error e=>z=(e:Int)
def ztI (C:Cx) (gt cap base:Nat) (y:PRL) (d:Nat) (S:Sv) (w:World) (e:Ending) (w':World):Prop:=
 ∃S' q' z' r l,e= .returned (.tuple #[pv C gt cap S' q' z' d,.slice r.a l.length r.cap,.bool (zaN l)])/\Is3 y q' z' l/\Mem C gt cap base S' q' w'/\Stp S w S' w'/\Row S' w' base w.heap.size r l/\l.length<=4001
theorem zmo (l:List Ep) (x:Ep):zaN (l++[x])=(zaN l||(x.loc.toList==[100,101,102,97,117,108,116])):=by simp[zaN]
theorem ztJ {u v:Tmp} {H:TypeId} (h:J.results= #[.cell K H,.tmp u,.tmp v]) (tmps:Array Value) (P:Program) (w:World):
  (results J tmps).run P w=((asAddr (tmps.getD K undef)).run P w).andThen fun a w'=>((loadVar H a).run P w').andThen fun x q=>.ok (.tuple #[x,tmps.getD u undef,tmps.getD v undef]) q:=by
 simp only[results,h];simp[Sem.run_bind,Result.andThen]
theorem zmp {P:Program} {H:Func} {p u v:Tmp} {A:TypeId} (h:H.results= #[.cell p A,.tmp u,.tmp v]) (tmps:Array Value) (w:World) (g:Nat) (t:TypeId) (q:Array Value) (I:Nat×Nat) (d:TypeDesc)
  (K:tmps.getD p undef= .pointer (some ⟨g,0,none⟩)) (M:w.heap[g]? =some (.cells q t I))
  (L:P.underlying A=some d) (J:(match d with| .struct _| .array _ _=>true|_=>false)=true) (N:(P.info? A).map (·.size)=some q.size):
  (results H tmps).run P w= .ok (.tuple #[.agg q,tmps.getD u undef,tmps.getD v undef]) w:=by
 rw[ztJ h,K];simp[asAddr,Result.andThen,run_loadVar_row w g t A q I d M L J N]
theorem zb9 (Z:Is (bd N (zd D u R)) h O):O<0->1<=h.pos:=by
 intro A;obtain⟨e,_⟩:=zaP Z A;obtain⟨a,_,w⟩:=zr e;obtain⟨rfl,_⟩:=zcj w;simp[adv]
theorem zjh (H:BA0) (w:World) (U:Mem C g b c S q w) (hp:1<=q.pos):
  Calls prog 201 #[pv C g b S q (-1) n,.string H] w (Out C g b c (zbT C H q) n S w):=by
 have HM:=zc U;have A:=U.tok;have J:=U.few;clear U;cases O:isT C q.pos 4 zu with
 |true=>
  have Z:Hid (zbT C H q=bd (bd (bd (.ok q) (zd C 4 zu)) (zd C 4 zaF)) (zZ C ⟨3,0,H,sNone,0,0⟩)):=if_pos O;unfold pv;go_enter func201,ntmps201;go_wp2_with fail;refine (zm C g b c S q (-1) n 4 zu _ (zy (zy A _) _) J (by decide)).mono ?_;rintro e w1 ⟨rfl,L⟩;rw[O];have F:=HM.o.fm L;clear A;have M:=F.x0.boxC;go_wp2_with fail;refine (zao C g b c (.ok q) S q (-1) n zu _ (zah q) F.m).mono ?_;rintro e w2 ⟨S2,q2,z2,rfl,K,V,X⟩;replace F:=F.stp V X;clear M;go_wp2_with fail;refine (zao C g b c _ S2 q2 z2 n zaF _ K.o F.m).mono ?_;rintro e w3 ⟨S3,q3,z3,rfl,N,m3,s3⟩;replace F:=F.stp m3 s3;have M:=F.x0.boxC;unfold pv;go_wp2_with fail;refine (zd6 C g b c _ S3 q3 z3 n ⟨3,0,H,sNone,0,0⟩ _ N.o (F.put0 ..).m (zb9 N.o)).mono ?_;rintro e w4 ⟨S4,q4,z4,rfl,Y,m4,s4⟩;replace F:=(F.put0 ..).stp m4 s4;clear M;have bb:=F.x1.boxC;unfold pv;go_wp2;refine (F.x1.put ..).ret rfl rfl ?_;rw[Z.o];exact (F.put1 ..).done rfl Y.o
 |false=>
  have Z:Hid (zbT C H q=bd (.ok q) (zZ C ⟨2,0,H,sNone,0,0⟩)):=by show zbT C H q=_;rw[zbT,O];rfl
  unfold pv;go_enter func201,ntmps201;go_wp2_with fail;refine (zm C g b c S q (-1) n 4 zu _ (zy (zy A _) _) J (by decide)).mono ?_;rintro e w1 ⟨rfl,L⟩;rw[O];have F:=HM.o.fm L;clear A;have M:=F.x0.boxC;go_wp2_with fail;refine (zd6 C g b c (.ok q) S q (-1) n ⟨2,0,H,sNone,0,0⟩ _ (zah q) F.m (fun _=>hp)).mono ?_;rintro e w2 ⟨S2,q2,z2,rfl,K,V,X⟩;replace F:=F.stp V X;clear M;have bb:=F.x1.boxC;unfold pv;go_wp2;refine (F.x1.put ..).ret rfl rfl ?_;rw[Z.o];exact (F.put1 ..).done rfl K.o
theorem ztK {H:BA0} {Z:PS} {f J:Int} (V:Is2 X Z f R) (w:Is2 (bd X (asP D U)) h u H) (L:(decide (u<0)&&isT D h.pos 4 zbS)=false) (i:Is (bd (zbc (bd X (asP D U))) (zd D 4 zbE)) A J):
  Is3 (bd X fun a=>bd (asP D U a) fun b=>if isT D b.1.pos 4 zbS then zaC D U (adv b.1) (Q++[⟨0,b.2,a.2,sNone⟩]) else bd (zd D 4 zbE b.1) fun q'=>.ok (q',Q++[⟨0,b.2,a.2,sNone⟩])) A J (Q++[⟨0,H,R,sNone⟩]):=by
 cases X with
 |error e=>exact i
 |ok a=>
  obtain⟨_,_,rfl⟩:=V;rw[zJ] at w i ⊢;cases N:asP D U a with
  |error e=>rw[N] at i;exact i
  |ok b=>
   rw[N] at w i;obtain⟨rfl,rfl,rfl⟩:=w;rw[Bool.and_eq_false_iff] at L;rw[zJ,L.resolve_left (by decide)];have e:bd (zbc (.ok b)) (zd D 4 zbE)=zd D 4 zbE b.1:=rfl;rw[e] at i;show Is3 (bd (zd D 4 zbE b.1) _) _ _ _;cases I:zd D 4 zbE b.1 with
   |error e=>rw[I] at i;exact i
   |ok c=>rw[I] at i;exact⟨i.1,i.2,rfl⟩
theorem ztL {l:List Ep} {i I:PS} {M:BA0} (K:Is2 (bd (.ok h) (zq D true)) i u R) (f:Is2 (bd (bd (.ok h) (zq D true)) (asP D U)) I O M) (X:O<0) (Z:isT D I.pos 4 zbS=true):
  (bd (.ok h) fun q=>zaC D U q l)=(bd (.ok (adv I)) fun q=>zaC D U q (l++[⟨0,M,R,sNone⟩]))/\h.pos+1<=I.pos:=by
 rw[zJ] at K f ⊢;rw[zJ,zgU];cases J:zq D true h with
 |error e=>rw[J] at f;have:O=(e:Int):=f;omega
 |ok a=>
  rw[J] at K f;obtain⟨_,_,rfl⟩:=K;rw[zJ] at f ⊢;obtain⟨rfl,_⟩:=zbF J;cases L:asP D U (adv h,(ze D h.pos).text) with
  |error e=>rw[L] at f;have:O=(e:Int):=f;omega
  |ok b=>
   rw[L] at f;obtain⟨rfl,rfl,rfl⟩:=f;have:=zfZ L;rw[zJ,Z];exact⟨rfl,this⟩
theorem ztM {q:PS} {Z:Int} (I:Is N q u) (J: ¬u<0) (H:Is (bd N (zd D 4 zbE)) A Z):Is3 (bd N fun q=>zaC D U q Q) A Z Q:=by
 obtain⟨e,rfl,_⟩:=zdY I J;exact H
theorem ztN {q:PS} {Z:Int} {K:BA0} (I:Is2 X q u R) (J:(decide (u<0)&&isT D q.pos 1 sAs)=true) (L:Is2 (bd (.ok (adv q)) (zq D U)) A Z K):Is2 (bd X (asP D U)) A Z K:=by
 rw[Bool.and_eq_true,decide_eq_true_eq] at J;cases X with
 |error e=>have:u=(e:Int):=I;omega
 |ok a=>
  obtain⟨rfl,_,_⟩:=I;rw[zJ,asP,if_pos J.2];exact L
theorem ztO (I:Is2 X h u R) (J:(decide (u<0)&&isT D h.pos 1 sAs)=false) (K:((R.toList==[100,101,102,97,117,108,116])&& !U)=true):Is2 (bd X (asP D U)) h (zbK D h.pos u) R:=by
 cases X with
 |error e=>
  have Z:u=(e:Int):=I;show zbK D h.pos u=(e:Int);rw[zbK,if_neg (by omega)];exact Z
 |ok a=>
  obtain⟨rfl,rfl,rfl⟩:=I;rw[Bool.and_eq_false_iff] at J;rw[zJ,asP,J.resolve_left (by decide),K];rfl
theorem zmq {q:PS} (H:Is2 X q u R) (I:(decide (u<0)&&isT D q.pos 1 sAs)=false) (J:((R.toList==[100,101,102,97,117,108,116])&& !U)=false):Is2 (bd X (asP D U)) q u R:=by
 cases X with
 |error e=>exact H
 |ok a=>
  obtain⟨rfl,rfl,rfl⟩:=H;rw[Bool.and_eq_false_iff] at I;rw[zJ,asP,I.resolve_left (by decide),J];exact⟨rfl,rfl,rfl⟩
theorem zmr (O:Bool) (w:World) (hm:Mem C g b c S q w):
  Calls prog 161 #[pv C g b S q (-1) n,.bool O] w (ztI C g b c (zd2 C O q) n S w):=by
 obtain⟨i0,hi,au,az,aw⟩:=info_parts Tryz.infoExp;have HM:=zc hm;have U:=hm.few;clear hm;unfold pv;go_enter func161,ntmps161;go_wp2_with fail;refine (zao C g b c (.ok q) S q (-1) n zU _ (zah q) (((HM.o.alloc _).alloc _).alloc _)).mono ?_;rintro e w1 ⟨S1,q1,z1,rfl,ap,m1,s1⟩;obtain⟨X0,X1,R0,t1⟩:=HM.o.list3 s1;have F:=Fm.of2 X0 X1 m1 t1 (by omega) (by omega) (by omega);have h:=zc R0;clear m1 s1 X0 X1 R0 t1;have H:=F.x0.boxC;unfold pv;go_wp2;go_loopg [7,8] (C.ts.length+1) (fun k o an wr=>∃(x':PR) (M:Sv) (Y:PS) (z':Int) (r:Rw) (l:List Ep),Is x' Y z'/\bd x' (fun q=>zaC C O q l)=zd2 C O q/\(z'<0->C.ts.length-Y.pos<k)/\(l.length<=Y.pos∨l=[])/\o= .slice r.a l.length r.cap/\an= .bool (zaN l)/\Mem C g b c M Y wr/\SB w.heap.size S w M wr/\Bx g M wr w.heap.size #[.slice (some ⟨g,0,none⟩) C.ts.length b,.int .i64 Y.pos,.int .i64 C.fin,.bool C.scr,.slice M.rq.a Y.rq.length M.rq.cap,.slice M.im.a Y.im.length M.im.cap,.slice M.ep.a Y.ep.length M.ep.cap,.slice M.st.a Y.st.length M.st.cap,.slice M.ex.a Y.ex.length M.ex.cap,.slice M.la.a Y.la.length M.la.cap,.int .i64 z',.int .i64 n]/\Bx g M wr (w.heap.size+1) #[.slice none 0 0,.int .i64 0,.int .i64 0,.bool false,.slice none 0 0,.slice none 0 0,.slice none 0 0,.slice none 0 0,.slice none 0 0,.slice none 0 0,.int .i64 0,.int .i64 0]/\Row M wr c w.heap.size r l)
 case atStart=>exact⟨_,S1,q1,z1,_,[],ap.o,rfl,fun _=>by omega,.inr rfl,rfl,rfl,(F.put0 ..).m,(F.put0 ..).t,(F.put0 ..).x0,(F.put0 ..).x1,(h.o.put F.x0 ..)⟩
 case round=>
  obtain⟨x2,S2,q2,z2,r,l,i2,e2,l2,n2,rfl,rfl,m2,t2,X0,X1,R0⟩:=hrel;have F:=Fm.of2 X0 X1 m2 t2 (by omega) (by omega) (by omega);have ad:=zc i2;have ae:=zc e2;have av:=zc l2;have h:=zc R0;have aD:l.length<=4000:=n2.elim (fun f=>by have:=m2.inv.pos;omega) (fun f=>by rw[f];simp);have ar:=zc n2;clear X0 X1 i2 m2 t2 e2 l2 R0 n2;by_cases hz:z2<0
  ·skip
   obtain⟨rfl,rfl⟩:=zaP ad.o hz;have aE:=av.o hz;have H:=F.x0.boxC;go_wp2_with fail;refine (zb1 C g b c (.ok q2) S2 q2 (-1) n true _ (zah q2) F.m).mono ?_;rintro e w3 ⟨Z,V,z3,X,rfl,K,m3,s3⟩;replace h:=zc (h.o.stp s3);replace F:=F.stp m3 s3;clear H;have aC:w.heap.size+1<w3.heap.size:=F.x1.lt;unfold pv;go_upto_region 6 with fail;refine (F.new2 _).cutR (RW:=fun W=>Row Z W c w.heap.size r l) (h.o.alloc _) ?_;clear h;intro w4 F R0;have h:=zc R0;clear R0;have H:=F.x0.boxC;have cb:=F.x2.boxC;go_upto_region 7 with fail;refine (F.put0 ..).cutR (RW:=fun W=>Row Z W c w.heap.size r l) (h.o.put F.x0 ..) ?_;clear H cb;clear h;intro w5 F R0;have h:=zc R0;clear R0
   skip
   have H:=F.x0.boxC
   skip
   go_wp2_with fail;refine (zm C g b c Z V z3 n 1 sAs _ F.m.tok U (by decide)).mono ?_;rintro e w6 ⟨rfl,ag⟩;replace h:=zc (h.o.below ag);replace F:=F.below ag;clear H;go_upto_if 28 with fail
   go_cut [11] (fun ao wx=>∃(I:Sv) (L:PS) (z5:Int) (n5:BA0),ao= .string n5/\Is2 (bd (bd (.ok q2) (zq C true)) (asP C O)) L z5 n5/\Mem C g b c I L wx/\SB w.heap.size S w I wx/\Bx g I wx w.heap.size #[.slice (some ⟨g,0,none⟩) C.ts.length b,.int .i64 L.pos,.int .i64 C.fin,.bool C.scr,.slice I.rq.a L.rq.length I.rq.cap,.slice I.im.a L.im.length I.im.cap,.slice I.ep.a L.ep.length I.ep.cap,.slice I.st.a L.st.length I.st.cap,.slice I.ex.a L.ex.length I.ex.cap,.slice I.la.a L.la.length I.la.cap,.int .i64 z5,.int .i64 n]/\Bx g I wx (w.heap.size+1) #[.slice none 0 0,.int .i64 0,.int .i64 0,.bool false,.slice none 0 0,.slice none 0 0,.slice none 0 0,.slice none 0 0,.slice none 0 0,.slice none 0 0,.int .i64 0,.int .i64 0]/\Row I wx c w.heap.size r l)
   case first=>
    cases hb:(decide (z3<0)&&isT C V.pos 1 sAs) with
    |true=>
     have al:V.pos<C.ts.length:=by rw[Bool.and_eq_true] at hb;exact zaG hb.2 (by decide)
     have H:=F.x0.boxC;have am:z3= -1:=by rw[Bool.and_eq_true,decide_eq_true_eq] at hb;exact (zaP K.o.fst hb.1).2
     subst am;go_wp2_with fail;refine (zb1 C g b c (.ok (adv V)) Z (adv V) (-1) n O _ (zah _) ((F.adv al).set0_1 _).m).mono ?_;rintro e w7 ⟨S7,q7,z7,n7,rfl,aq,m7,s7⟩;replace h:=zc ((h.o.set F.x0 1 _).stp s7);replace F:=(F.set0_1 _).stp m7 s7;clear H;have aB:w.heap.size+1<w7.heap.size:=F.x1.lt;have aj:w3.heap.size<w7.heap.size:=F.x2.lt;unfold pv;go_upto_region 11 with fail;refine (F.new3 _).cutR (RW:=fun W=>Row S7 W c w.heap.size r l) (h.o.alloc _) ?_;clear h;intro w8 F R0;have h:=zc R0;clear R0;have H:=F.x0.boxC;have db:=F.x3.boxC;go_wp2;go_meet
     case rel=>exact⟨S7,q7,z7,n7,rfl,ztN K.o hb aq.o,(F.put0 ..).m,(F.put0 ..).t,(F.put0 ..).x0,(F.put0 ..).x1,(h.o.put F.x0 ..)⟩
    |false=>
     cases e3:(X.toList==[100,101,102,97,117,108,116]) with
     |true=>
      cases O with
      |false=>
       have H:=F.x0.boxC;go_wp2_with fail;refine (zdW C g b c Z V z3 n _ F.m.tok U).mono ?_;rintro e w7 ⟨rfl,N⟩;replace h:=zc (h.o.below N);replace F:=F.below N;clear H;have H:=F.x0.boxC;unfold pv;go_wp2;go_meet
       case rel=>exact⟨Z,V,(zbK C V.pos z3),X,rfl,ztO K.o hb (by rw[e3];rfl),(F.put0 ..).m,(F.put0 ..).t,(F.put0 ..).x0,(F.put0 ..).x1,(h.o.put F.x0 ..)⟩
      |true=>
       have H:=F.x0.boxC;go_wp2;go_meet
       case rel=>exact⟨Z,V,z3,X,rfl,zmq K.o hb (by rw[e3];rfl),F.m,F.t,F.x0,F.x1,h.o⟩
     |false=>
      have H:=F.x0.boxC;go_wp2;go_meet
      case rel=>exact⟨Z,V,z3,X,rfl,zmq K.o hb (by rw[e3];rfl),F.m,F.t,F.x0,F.x1,h.o⟩
   case rest=>
    obtain⟨I,L,z5,n5,rfl,i5,m5,t5,X0,X1,R0⟩:=hcut;clear h;have F:=Fm.of2 X0 X1 m5 t5 (by omega) (by omega) (by omega);have aa:=zc i5;have h:=zc R0;clear X0 X1 i5 m5 t5 R0;go_upto_region 15 with fail;go_cut [8] (fun s8 wx=>s8= .bool (zaN l||(X.toList==[100,101,102,97,117,108,116]))/\wx=wc)
    case first=>
     cases ha:zaN l with
     |true=>
      go_wp2;go_meet
      case rel=>exact⟨by rw[ha];rfl,rfl⟩
     |false=>
      cases e3:(X.toList==[100,101,102,97,117,108,116]) with
      |true=>
       go_wp2;go_meet
       case rel=>exact⟨by rw[ha,e3];rfl,rfl⟩
      |false=>
       go_wp2;go_meet
       case rel=>exact⟨by rw[ha,e3];rfl,rfl⟩
    case rest=>
     obtain⟨rfl,rfl⟩:=hcut;have ac:=fun o=>h.o.own.alloc o;have ak:=F.m.base;go_wp2_with (at_builtin;refine zbm _ rfl _ _ 55 rfl c 103 i0 _ 4 56 underlying55 hi au az aw rfl (by decide) (by decide) r l.length _ (by rfl) (ac _) wc.heap.size (epL ⟨0,n5,X,sNone⟩) (by rfl) (by exact hN0 wc _) rfl (by intro u hu;simp[epL] at hu;rcases hu with rfl|rfl|rfl|rfl<;>rfl) (by omega) (by rw[zh];omega) ?_);intro r' w6 hr hg ah;obtain⟨R6,m6⟩:=(h.o.alloc _).grow (x:=⟨0,n5,X,sNone⟩) (F.alloc _).m (by rw[zh];have:=F.t.size;omega) hg hr (by rw[zh];exact ah);replace F:=Fm.of2 ((h.o.alloc _).bx (F.x0.alloc _) hg) ((h.o.alloc _).bx (F.x1.alloc _) hg) m6 ((h.o.alloc _).sb (F.t.alloc _) hg) (by omega) (by omega) (by omega);clear h hr hg ah ac ak m6;have h:=zc R6;clear R6;cases hc:(decide (z5<0)&&isT C L.pos 4 zbS) with
     |true=>
      have H:=F.x0.boxC;go_wp2_with fail;refine (zm C g b c I L z5 n 4 zbS _ F.m.tok U (by decide)).mono ?_;rintro e w7 ⟨rfl,N⟩;rw[hc];replace h:=zc (h.o.below N);replace F:=F.below N;clear H;rw[Bool.and_eq_true,decide_eq_true_eq] at hc;obtain⟨af,ai⟩:=hc;have ax:L.pos<C.ts.length:=zaG ai (by decide);obtain⟨E5,P5⟩:=ztL (l:=l) K.o aa.o af ai;have HE:=zc E5;obtain rfl:z5= -1:=(zaP aa.o.fst af).2;have ay:Hid ((l++[(⟨0,n5,X,sNone⟩:Ep)]).length<=L.pos+1∨l++[(⟨0,n5,X,sNone⟩:Ep)]=[]):=.inl (by simp only[List.length_append,List.length_singleton];exact ar.o.elim (fun f=>by omega) (fun f=>by rw[f];simp));clear E5;have H:=F.x0.boxC;go_wp2;go_roundg (gk-1)
      case rel=>exact⟨.ok (adv L),I,adv L,-1,r',l++[⟨0,n5,X,sNone⟩],zah _,by rw[<-ae.o];exact HE.o.symm,fun _=>by rw[zH];omega,ay.o,by simp,by rw[zmo],((F.adv ax).set0_1 _).m,(F.t.set (by omega) 1 _),(F.x0.at1 _),(F.x1.set_other (by omega) 1 _),(h.o.set F.x0 1 _)⟩
      case measure=>omega
     |false=>
      have H:=F.x0.boxC;go_wp2_with fail;refine (zm C g b c I L z5 n 4 zbS _ F.m.tok U (by decide)).mono ?_;rintro e w7 ⟨rfl,N⟩;rw[hc];replace h:=zc (h.o.below N);replace F:=F.below N;clear H;have H:=F.x0.boxC;go_wp2_with fail;refine (zao C g b c _ I L z5 n zbE _ aa.o.fst F.m).mono ?_;rintro e w8 ⟨S8,q8,z8,rfl,aA,m8,s8⟩;replace h:=zc (h.o.stp s8);replace F:=F.stp m8 s8;clear H;have bb:=F.x1.boxC;unfold pv;go_wp2;refine bodyPost_ret (zmp rfl _ _ (w.heap.size+1) 127 _ (0,0) _ rfl ((F.x1.put ..)).heap underlying127 rfl (by kernel_rfl)) rfl ?_;exact⟨S8,q8,z8,r',l++[⟨0,n5,X,sNone⟩],by simp[pv,zmo],by rw[<-ae.o,zJ,zgU];exact ztK K.o aa.o hc aA.o,(F.put1 ..).m,(F.put1 ..).t.done,(h.o.put F.x1 ..),by simp;omega⟩
  ·skip
   have H:=F.x0.boxC;go_wp2_with fail;refine (zao C g b c _ S2 q2 z2 n zbE _ ad.o F.m).mono ?_;rintro e w3 ⟨Z,V,z3,rfl,K,m3,s3⟩;replace h:=zc (h.o.stp s3);replace F:=F.stp m3 s3;clear H;have bb:=F.x1.boxC;unfold pv;go_wp2;refine bodyPost_ret (zmp rfl _ _ (w.heap.size+1) 127 _ (0,0) _ rfl ((F.x1.put ..)).heap underlying127 rfl (by kernel_rfl)) rfl ?_;exact⟨Z,V,z3,r,l,rfl,by rw[<-ae.o];exact ztM ad.o (by omega) K.o,(F.put1 ..).m,(F.put1 ..).t.done,(h.o.put F.x1 ..),by omega⟩
def SumOK (C:Cx) (gt cap base m:Nat):Prop:=∀(x:PR) (S:Sv) (q:PS) (z:Int) (d:Nat) (w:World),Is x q z->Mem C gt cap base S q w->(z<0->C.ts.length-q.pos<m)->d<=20->
 Calls prog 129 #[pv C gt cap S q z d] w (Out C gt cap base (bd x (pE C .sum d)) d S w)
theorem zhE {e:Int} (Z:Is2 (bd (.ok h) (zq D U)) A e R) (I:zO D h.pos U=true):A=adv h/\e= -1/\R=(ze D h.pos).text:=by
 rw[zJ,zq,if_pos I] at Z;exact Z
theorem zhF (Z:Is2 (bd (.ok h) (zq D U)) A u R) (e:zO D h.pos U=false):u=(zz D h.pos:Int):=by
 rw[zJ,zq,e] at Z;exact Z
theorem zms {y:Except Nat (PS×BA0)} {f:BA0} (Z:Is2 y h u f) (w:(decide (u<0)&&isT D h.pos 4 zu)=true):bd (bd (bd (zbc y) (zd D 4 zu)) (zd D 4 zaF)) (zZ D ⟨5,0,R,f,0,0⟩)=bd y fun a=>zci D R a.2 a.1:=by
 rw[Bool.and_eq_true,decide_eq_true_eq] at w;cases y with
 |ok a=>
  obtain⟨rfl,_,rfl⟩:=Z;show _=zci D R a.2 a.1;rw[zci,if_pos w.2];rfl
 |error e=>rfl
theorem zmt {y:Except Nat (PS×BA0)} {f:BA0} (Z:Is2 y h u f) (w:(decide (u<0)&&isT D h.pos 4 zu)=false):bd (zbc y) (zZ D ⟨4,0,R,f,0,0⟩)=bd y fun a=>zci D R a.2 a.1:=by
 cases y with
 |ok a=>
  obtain⟨rfl,rfl,rfl⟩:=Z;rw[Bool.and_eq_false_iff] at w;show _=zci D R a.2 a.1;rw[zci,w.resolve_left (by decide)];rfl
 |error e=>rfl
theorem zmu (Z:Is2 (bd N (zq D U)) h u R):u<0->1<=h.pos:=by
 intro H;cases w:bd N (zq D U) with
 |error e=>rw[w] at Z;have:u=(e:Int):=Z;omega
 |ok a=>
  rw[w] at Z;obtain⟨rfl,_,_⟩:=Z;obtain⟨b,_,A⟩:=zr w;obtain⟨rfl,_⟩:=zbF A;simp[adv]
theorem ztP (J:Mem C g b c S q W) (M:((ze C q.pos).kind==2)=true):
  Calls prog 185 #[pv C g b S q (-1) n] W (Out C g b c (pE C .part n q) n S W):=by
 have HM:=zc J;have A:=J.tok;have Y:C.ts.length<=4000:=J.few;have O:=(za1 J.tok).1;clear J;have U:q.pos<C.ts.length:=zgO M (by decide);have X:Hid (pE C .part n q=bd (.ok (adv q)) (zZ C ⟨1,(ze C q.pos).num,sNone,sNone,0,0⟩)):=by show pE C .part n q=_;rw[zcc,if_pos M];rfl
 obtain⟨Z,_,V,_⟩:=A.cells U (d:=⟨0,sNone,0,C.fin⟩);change _=some (Value.int .i64 (ze C q.pos).kind) at Z;change _=some (Value.int .i64 (ze C q.pos).num) at V;have H:Hid (Mem C g b c S (adv q) W):=HM.o.adv U;generalize (ze C q.pos).kind=kd at Z M;have HN:Hid (∀f,f=(ze C q.pos).num->pE C .part n q=bd (.ok (adv q)) (zZ C ⟨1,f,sNone,sNone,0,0⟩)):=fun f e=>by rw[e];exact X.o
 generalize K:(ze C q.pos).num=nm at V;have N:Hid (nm=(ze C q.pos).num):=K.symm;clear K X A;unfold pv;go_enter func185,ntmps185;go_wp2_with fail;refine (zd6 C g b c (.ok (adv q)) S (adv q) (-1) n ⟨1,nm,sNone,sNone,0,0⟩ _ (zah _) ((H.o.alloc _).alloc _) (fun _=>by simp[adv])).mono ?_;rintro e w1 ⟨S1,q1,z1,rfl,L,m1,s1⟩;have F:=H.o.fm2 m1 s1;have bb:=F.x1.boxC;unfold pv;go_wp2;refine (F.x1.put ..).ret rfl rfl ?_;rw[HN.o nm N.o];exact (F.put1 ..).done rfl L.o
theorem ztQ (J:Mem C g b c S q W) (N:((ze C q.pos).kind==2)=false) (K:isT C q.pos 4 zu=true) (V:20<=n) (X:n<=20):
  Calls prog 185 #[pv C g b S q (-1) n] W (Out C g b c (pE C .part n q) n S W):=by
 have Y:=zc J;have A:=J.tok;have H:C.ts.length<=4000:=J.few;have O:=(za1 J.tok).1;clear J;have hp:q.pos<C.ts.length:=zaG K (by decide);have HV:Hid (pE C .part n q= .error (zz C q.pos)):=by show pE C .part n q=_;rw[zcc,N,K];simp[V]
 have qd:decide ((20:Int)<=(n:Int))=true:=dT (by omega);obtain⟨U,_,_,_⟩:=A.cells hp (d:=⟨0,sNone,0,C.fin⟩);change _=some (Value.int .i64 (ze C q.pos).kind) at U;generalize (ze C q.pos).kind=kd at U N;unfold pv;go_enter func185,ntmps185;go_wp2_with fail;refine (zm C g b c S q (-1) n 4 zu _ (zy (zy A _) _) H (by decide)).mono ?_;rintro e w1 ⟨rfl,M⟩;rw[K];have F:=Y.o.fm M;have Z:=F.x0.boxC;go_wp2_with fail;refine (zdW C g b c S q (-1) n _ F.m.tok H).mono ?_;rintro e w2 ⟨rfl,L⟩;replace F:=F.below L;clear Z;have bb:=F.x1.boxC;unfold pv;go_wp2;refine (F.x1.put ..).ret rfl rfl ?_;rw[HV.o];exact (F.put1 ..).done rfl (show Is (.error (zz C q.pos)) q _ from rfl)
theorem ztR (I:Mem C g b c S q W) (V:((ze C q.pos).kind==2)=false) (M:isT C q.pos 4 zu=true) (hd:n<20) (Z:SumOK C g b c (C.ts.length-q.pos)):
  Calls prog 185 #[pv C g b S q (-1) n] W (Out C g b c (pE C .part n q) n S W):=by
 have HM:=zc I;have A:=I.tok;have J:C.ts.length<=4000:=I.few;have X:=(za1 I.tok).1;clear I;have Y:q.pos<C.ts.length:=zaG M (by decide);have HV:Hid (pE C .part n q=bd (bd (.ok (adv q)) (pE C .sum (n+1))) (zd C 4 zaF)):=by show pE C .part n q=_;rw[zcc,V,M,if_neg (by decide),if_pos rfl,if_neg (by omega)];rfl
 have HS:=zc Z;clear Z;have qd:decide ((20:Int)<=(n:Int))=false:=dF (by omega);obtain⟨c0,_,_,_⟩:=A.cells Y (d:=⟨0,sNone,0,C.fin⟩);change _=some (Value.int .i64 (ze C q.pos).kind) at c0;generalize (ze C q.pos).kind=kd at c0 V;unfold pv;go_enter func185,ntmps185;go_wp2_with fail;refine (zm C g b c S q (-1) n 4 zu _ (zy (zy A _) _) J (by decide)).mono ?_;rintro e w1 ⟨rfl,O⟩;rw[M];have F:=HM.o.fm O;have K:=F.x0.boxC;go_wp2_with fail;refine (HS.o (.ok (adv q)) S (adv q) (-1) (n+1) _ (zah _) (((F.adv Y).set0_1 _).set0_11 _).m (fun _=>by show C.ts.length-(q.pos+1)<_;omega) (by omega)).mono ?_;rintro e w2 ⟨S2,q2,z2,rfl,L,m2,s2⟩;replace F:=((F.set0_1 _).set0_11 _).stp m2 s2;clear K;go_wp2_with fail;refine (zao C g b c _ S2 q2 z2 (n+1) zaF _ L.o F.m).mono ?_;rintro e w3 ⟨S3,q3,z3,rfl,N,m3,s3⟩;replace F:=F.stp m3 s3;have K:=F.x0.boxC;obtain⟨D,U⟩: ∃D:Nat,D=n+1:=⟨_,rfl⟩;rw[<-U];have ac:(D:Int)-1=n:=by omega
 have aa:D<=20:=by omega
 clear U hd qd;unfold pv;go_upto_region 11 with fail;refine (F.put0 ..).cut ?_;clear K;intro w4 F;have K:=F.x0.boxC;have bb:=F.x1.boxC;go_wp2;refine bodyPost_ret (results_cell_row rfl _ _ (W.heap.size+1) 127 _ (0,0) _ rfl (((F.x1.set_other (by omega) 11 _).put ..)).heap underlying127 rfl (by kernel_rfl)) rfl ?_;rw[HV.o];exact zmn rfl N.o ((F.set0_11 _).put1 ..).m ((F.set0_11 _).put1 ..).t
theorem ztS (i:Nat) (f:World) (L:Mem (Cx.mk w g true) b c d S q f) (M: ¬q.pos<(Cx.mk w g true).ts.length):
  Calls prog 185 #[pv (Cx.mk w g true) b c S q (-1) i] f (Out (Cx.mk w g true) b c d (pE (Cx.mk w g true) .part i q) i S f):=by
 have HM:=zc L;have K:=L.tok;have I:(Cx.mk w g true).ts.length<=4000:=L.few;have X:=(za1 L.tok).1;clear L;have hk:((ze (Cx.mk w g true) q.pos).kind==2)=false:=by rw[ze8 (by omega)];rfl
 have Y:isT (Cx.mk w g true) q.pos 4 zu=false:=zge M (by decide);have Z:isT (Cx.mk w g true) q.pos 1 zaM=false:=zge M (by decide);have hn:zO (Cx.mk w g true) q.pos false=false:=zi9 M;have HV:Hid (pE (Cx.mk w g true) .part i q= .error (zz (Cx.mk w g true) q.pos)):=by show pE (Cx.mk w g true) .part i q=_;rw[zcc,hk,Y,Z,zq,hn];rfl
 have ac: ¬q.pos<w.length:=M;unfold pv;go_enter func185,ntmps185;go_wp2_with fail;refine (zm (Cx.mk w g true) b c d S q (-1) i 4 zu _ (zy (zy K _) _) I (by decide)).mono ?_;rintro e w1 ⟨rfl,V⟩;rw[Y];have F:=HM.o.fm V;have N:=F.x0.boxC;go_wp2_with fail;refine (zm (Cx.mk w g true) b c d S q (-1) i 1 zaM _ F.m.tok I (by decide)).mono ?_;rintro e w2 ⟨rfl,O⟩;rw[Z];replace F:=F.below O;clear N;have N:=F.x0.boxC;go_wp2_with fail;refine (zb1 (Cx.mk w g true) b c d (.ok q) S q (-1) i false _ (zah q) F.m).mono ?_;rintro e w3 ⟨S3,q3,z3,n3,rfl,U,m3,s3⟩;replace F:=F.stp m3 s3;clear N;obtain rfl:=zhF U.o hn;have dz:decide ((0:Int)<=(zz (Cx.mk w g true) q.pos:Int))=true:=dT (by omega);have aa:f.heap.size+1<w3.heap.size:=F.x1.lt;unfold pv;go_upto_region 17 with fail;refine (F.new2 _).cut ?_;intro w4 F;have bb:=F.x1.boxC;have cb:=F.x2.boxC;go_wp2;refine (F.x1.put ..).ret rfl rfl ?_;rw[HV.o];exact (F.put1 ..).done rfl (show Is (.error (zz (Cx.mk w g true) q.pos)) q3 _ from rfl)
theorem ztT (i:Nat) (f:World) (L:Mem (Cx.mk w g true) b c d S q f) (X:((ze (Cx.mk w g true) q.pos).kind==2)=false) (ho:isT (Cx.mk w g true) q.pos 4 zu=false) (Z:q.pos<(Cx.mk w g true).ts.length) (hu:isT (Cx.mk w g true) q.pos 1 zaM=false) (hn:zO (Cx.mk w g true) q.pos false=false):
  Calls prog 185 #[pv (Cx.mk w g true) b c S q (-1) i] f (Out (Cx.mk w g true) b c d (pE (Cx.mk w g true) .part i q) i S f):=by
 have HM:=zc L;have I:=L.tok;have J:(Cx.mk w g true).ts.length<=4000:=L.few;have Y:=(za1 L.tok).1;clear L;have HV:Hid (pE (Cx.mk w g true) .part i q= .error (zz (Cx.mk w g true) q.pos)):=by show pE (Cx.mk w g true) .part i q=_;rw[zcc,X,ho,hu,zq,hn];rfl
 have ac:q.pos<w.length:=Z;obtain⟨V,_,_,_⟩:=I.cells Z (d:=⟨0,sNone,0,(Cx.mk w g true).fin⟩);change _=some (Value.int .i64 (ze (Cx.mk w g true) q.pos).kind) at V;generalize (ze (Cx.mk w g true) q.pos).kind=kd at V X;unfold pv;go_enter func185,ntmps185;go_wp2_with fail;refine (zm (Cx.mk w g true) b c d S q (-1) i 4 zu _ (zy (zy I _) _) J (by decide)).mono ?_;rintro e w1 ⟨rfl,U⟩;rw[ho];have F:=HM.o.fm U;have M:=F.x0.boxC;go_wp2_with fail;refine (zm (Cx.mk w g true) b c d S q (-1) i 1 zaM _ F.m.tok J (by decide)).mono ?_;rintro e w2 ⟨rfl,N⟩;rw[hu];replace F:=F.below N;clear M;have M:=F.x0.boxC;go_wp2_with fail;refine (zb1 (Cx.mk w g true) b c d (.ok q) S q (-1) i false _ (zah q) F.m).mono ?_;rintro e w3 ⟨S3,q3,z3,n3,rfl,O,m3,s3⟩;replace F:=F.stp m3 s3;clear M;obtain rfl:=zhF O.o hn;have dz:decide ((0:Int)<=(zz (Cx.mk w g true) q.pos:Int))=true:=dT (by omega);have aa:f.heap.size+1<w3.heap.size:=F.x1.lt;unfold pv;go_upto_region 17 with fail;refine (F.new2 _).cut ?_;intro w4 F;have bb:=F.x1.boxC;obtain⟨V,c1,c2,c3,c4,c5,c6,c7,c8,c9,ae,ad,cf⟩:=F.x2.box;go_wp2;refine (F.x1.put ..).ret rfl rfl ?_;rw[HV.o];exact (F.put1 ..).done rfl (show Is (.error (zz (Cx.mk w g true) q.pos)) q3 _ from rfl)
theorem zmv (i:Nat) (f:World) (L:Mem (Cx.mk w g true) b c d S q f) (e0:Nat):
  Calls prog 185 #[pv (Cx.mk w g true) b c S q (e0:Int) i] f (Out (Cx.mk w g true) b c d (.error e0) i S f):=by
 have HM:=zc L;have K:=L.tok;have I:(Cx.mk w g true).ts.length<=4000:=L.few;have V:=(za1 L.tok).1;clear L;have hz: ¬(e0:Int)<0:=by omega
 have X: ∀k s,(decide ((e0:Int)<0)&&isT (Cx.mk w g true) q.pos k s)=false:=fun k s=>by rw[dF hz];rfl
 unfold pv;go_enter func185,ntmps185;go_wp2_with fail;refine (zm (Cx.mk w g true) b c d S q (e0:Int) i 4 zu _ (zy (zy K _) _) I (by decide)).mono ?_;rintro e w1 ⟨rfl,U⟩;rw[X];have F:=HM.o.fm U;have M:=F.x0.boxC;go_wp2_with fail;refine (zm (Cx.mk w g true) b c d S q (e0:Int) i 1 zaM _ F.m.tok I (by decide)).mono ?_;rintro e w2 ⟨rfl,N⟩;rw[X];replace F:=F.below N;clear M;have M:=F.x0.boxC;go_wp2_with fail;refine (zb1 (Cx.mk w g true) b c d (.error e0) S q (e0:Int) i false _ (show Is (.error e0) q _ from rfl) F.m).mono ?_;rintro e w3 ⟨S3,q3,z3,n3,rfl,O,Z,s3⟩;replace F:=F.stp Z s3;clear M;obtain rfl:z3=(e0:Int):=O.o;have dz:decide ((0:Int)<=(e0:Int))=true:=dT (by omega);have Y:f.heap.size+1<w3.heap.size:=F.x1.lt;unfold pv;go_upto_region 17 with fail;refine (F.new2 _).cut ?_;intro w4 F;have bb:=F.x1.boxC;have cb:=F.x2.boxC;go_wp2;refine (F.x1.put ..).ret rfl rfl ?_;exact (F.put1 ..).done rfl (show Is (.error e0) q3 _ from rfl)
theorem ztU (i:Nat) (f:World) (L:Mem (Cx.mk w g true) b c d S q f) (X:((ze (Cx.mk w g true) q.pos).kind==2)=false) (Z:isT (Cx.mk w g true) q.pos 4 zu=false) (N:q.pos<(Cx.mk w g true).ts.length) (hu:isT (Cx.mk w g true) q.pos 1 zaM=true):
  Calls prog 185 #[pv (Cx.mk w g true) b c S q (-1) i] f (Out (Cx.mk w g true) b c d (pE (Cx.mk w g true) .part i q) i S f):=by
 have HM:=zc L;have I:=L.tok;have J:(Cx.mk w g true).ts.length<=4000:=L.few;have Y:=(za1 L.tok).1;clear L;have HV:Hid (pE (Cx.mk w g true) .part i q=zbT (Cx.mk w g true) zaM (adv q)):=by show pE (Cx.mk w g true) .part i q=_;rw[zcc,X,Z,hu];rfl
 have aa:q.pos<w.length:=N;obtain⟨c0,_,_,_⟩:=I.cells N (d:=⟨0,sNone,0,(Cx.mk w g true).fin⟩);change _=some (Value.int .i64 (ze (Cx.mk w g true) q.pos).kind) at c0;generalize (ze (Cx.mk w g true) q.pos).kind=kd at c0 X;unfold pv;go_enter func185,ntmps185;go_wp2_with fail;refine (zm (Cx.mk w g true) b c d S q (-1) i 4 zu _ (zy (zy I _) _) J (by decide)).mono ?_;rintro e w1 ⟨rfl,V⟩;rw[Z];have F:=HM.o.fm V;have M:=F.x0.boxC;go_wp2_with fail;refine (zm (Cx.mk w g true) b c d S q (-1) i 1 zaM _ F.m.tok J (by decide)).mono ?_;rintro e w2 ⟨rfl,O⟩;rw[hu];replace F:=F.below O;clear M;have M:=F.x0.boxC;go_wp2_with fail;refine (zjh (Cx.mk w g true) b c d S (adv q) i zaM _ ((F.adv N).set0_1 _).m (by simp[adv])).mono ?_;rintro e w3 ⟨S3,q3,z3,rfl,U,m3,s3⟩;replace F:=(F.set0_1 _).stp m3 s3;clear M;have bb:=F.x1.boxC;unfold pv;go_wp2;refine (F.x1.put ..).ret rfl rfl ?_;rw[HV.o];exact (F.put1 ..).done rfl U.o
theorem ztV (i:Nat) (f:World) (L:Mem (Cx.mk w g true) b c d S q f) (hk:((ze (Cx.mk w g true) q.pos).kind==2)=false) (ho:isT (Cx.mk w g true) q.pos 4 zu=false) (hp:q.pos<(Cx.mk w g true).ts.length) (hu:isT (Cx.mk w g true) q.pos 1 zaM=false) (hn:zO (Cx.mk w g true) q.pos false=true) (hd:isT (Cx.mk w g true) (q.pos+1) 4 cPoint=false):
  Calls prog 185 #[pv (Cx.mk w g true) b c S q (-1) i] f (Out (Cx.mk w g true) b c d (pE (Cx.mk w g true) .part i q) i S f):=by
 have HM:=zc L;have J:=L.tok;have I:(Cx.mk w g true).ts.length<=4000:=L.few;have ah:=(za1 L.tok).1;clear L;have HV:Hid (pE (Cx.mk w g true) .part i q=zbT (Cx.mk w g true) (ze (Cx.mk w g true) q.pos).text (adv q)):=by show pE (Cx.mk w g true) .part i q=_;rw[zcc,hk,ho,hu,zq,hn];show (if isT (Cx.mk w g true) (adv q).pos 4 cPoint then _ else _)=_;rw[zH,hd];rfl
 have aj:q.pos<w.length:=hp;obtain⟨V,_,_,_⟩:=J.cells hp (d:=⟨0,sNone,0,(Cx.mk w g true).fin⟩);change _=some (Value.int .i64 (ze (Cx.mk w g true) q.pos).kind) at V;generalize (ze (Cx.mk w g true) q.pos).kind=kd at V hk;unfold pv;go_enter func185,ntmps185;go_wp2_with fail;refine (zm (Cx.mk w g true) b c d S q (-1) i 4 zu _ (zy (zy J _) _) I (by decide)).mono ?_;rintro e w1 ⟨rfl,ag⟩;rw[ho];have F:=HM.o.fm ag;have ab:=F.x0.boxC;go_wp2_with fail;refine (zm (Cx.mk w g true) b c d S q (-1) i 1 zaM _ F.m.tok I (by decide)).mono ?_;rintro e w2 ⟨rfl,ad⟩;rw[hu];replace F:=F.below ad;clear ab;have ab:=F.x0.boxC;go_wp2_with fail;refine (zb1 (Cx.mk w g true) b c d (.ok q) S q (-1) i false _ (zah q) F.m).mono ?_;rintro e w3 ⟨S3,U,z3,n3,rfl,M,m3,s3⟩;replace F:=F.stp m3 s3;clear ab;obtain⟨X,rfl,N⟩:=zhE M.o hn;have HQ:=zc X;have aa:=zc N;have O:U.pos=q.pos+1:=by rw[X];rfl
 have af:isT (Cx.mk w g true) U.pos 4 cPoint=false:=by rw[O];exact hd
 clear X N M;have ai:f.heap.size+1<w3.heap.size:=F.x1.lt;unfold pv;clear O;go_wp2_with fail;refine (zm (Cx.mk w g true) b c d S3 U (-1) i 4 cPoint _ (F.alloc _).m.tok I (by decide)).mono ?_;rintro e w4 ⟨rfl,ae⟩;rw[af];replace F:=(F.new2 _).below ae;obtain⟨V,c1,c2,c3,c4,c5,c6,c7,c8,c9,ac,Z,cf⟩:=F.x2.box;go_wp2_with fail;refine (zjh (Cx.mk w g true) b c d S3 U i n3 _ F.m (by rw[HQ.o];simp[adv])).mono ?_;rintro e w5 ⟨S5,q5,z5,rfl,Y,m5,s5⟩;replace F:=F.stp m5 s5;clear V c1 c2 c3 c4 c5 c6 c7 c8 c9 ac Z cf;have bb:=F.x1.boxC;unfold pv;go_wp2;refine (F.x1.put ..).ret rfl rfl ?_;rw[HV.o,<-HQ.o,<-aa.o];exact (F.put1 ..).done rfl Y.o
theorem ztW (i:Nat) (f:World) (Z:Mem (Cx.mk w g true) b c d S q f) (hk:((ze (Cx.mk w g true) q.pos).kind==2)=false) (ho:isT (Cx.mk w g true) q.pos 4 zu=false) (hp:q.pos<(Cx.mk w g true).ts.length) (hu:isT (Cx.mk w g true) q.pos 1 zaM=false) (hn:zO (Cx.mk w g true) q.pos false=true) (hd:isT (Cx.mk w g true) (q.pos+1) 4 cPoint=true):
  Calls prog 185 #[pv (Cx.mk w g true) b c S q (-1) i] f (Out (Cx.mk w g true) b c d (pE (Cx.mk w g true) .part i q) i S f):=by
 have HM:=zc Z;have L:=Z.tok;have I:(Cx.mk w g true).ts.length<=4000:=Z.few;have ao:=(za1 Z.tok).1;clear Z;have HV:Hid (pE (Cx.mk w g true) .part i q=bd (bd (.ok (adv (adv q))) (zq (Cx.mk w g true) true)) fun y=>zci (Cx.mk w g true) (ze (Cx.mk w g true) q.pos).text y.2 y.1):=by show pE (Cx.mk w g true) .part i q=_;rw[zcc,hk,ho,hu,zq,hn];show (if isT (Cx.mk w g true) (adv q).pos 4 cPoint then _ else _)=_;rw[zH,hd];rfl
 have aq:q.pos<w.length:=hp;obtain⟨c0,_,_,_⟩:=L.cells hp (d:=⟨0,sNone,0,(Cx.mk w g true).fin⟩);change _=some (Value.int .i64 (ze (Cx.mk w g true) q.pos).kind) at c0;generalize (ze (Cx.mk w g true) q.pos).kind=kd at c0 hk;unfold pv;go_enter func185,ntmps185;go_wp2_with fail;refine (zm (Cx.mk w g true) b c d S q (-1) i 4 zu _ (zy (zy L _) _) I (by decide)).mono ?_;rintro e w1 ⟨rfl,al⟩;rw[ho];have F:=HM.o.fm al;have ab:=F.x0.boxC;go_wp2_with fail;refine (zm (Cx.mk w g true) b c d S q (-1) i 1 zaM _ F.m.tok I (by decide)).mono ?_;rintro e w2 ⟨rfl,ah⟩;rw[hu];replace F:=F.below ah;clear ab;have ab:=F.x0.boxC;go_wp2_with fail;refine (zb1 (Cx.mk w g true) b c d (.ok q) S q (-1) i false _ (zah q) F.m).mono ?_;rintro e w3 ⟨S3,M,z3,n3,rfl,ad,m3,s3⟩;replace F:=F.stp m3 s3;clear ab;obtain⟨hq,rfl,V⟩:=zhE ad.o hn;have HQ:=zc hq;have Y:=zc V;have ae:M.pos=q.pos+1:=by rw[hq];rfl
 have U:isT (Cx.mk w g true) M.pos 4 cPoint=true:=by rw[ae];exact hd
 clear hq V ad;have ap:f.heap.size+1<w3.heap.size:=F.x1.lt;unfold pv;clear ae;go_wp2_with fail;refine (zm (Cx.mk w g true) b c d S3 M (-1) i 4 cPoint _ (F.alloc _).m.tok I (by decide)).mono ?_;rintro e w4 ⟨rfl,ak⟩;rw[U];replace F:=(F.new2 _).below ak;obtain⟨c0,c1,c2,c3,c4,c5,c6,c7,c8,c9,ag,aj,cf⟩:=F.x2.box;have aa:M.pos<(Cx.mk w g true).ts.length:=zaG U (by decide);have am:M.pos<w.length:=aa;go_wp2_with fail;refine (zb1 (Cx.mk w g true) b c d (.ok (adv M)) S3 (adv M) (-1) i true _ (zah _) ((F.adv aa).set2_1 _).m).mono ?_;rintro e w5 ⟨S5,q5,X,n5,rfl,K,m5,s5⟩;replace F:=(F.set2_1 _).stp m5 s5;clear c0 c1 c2 c3 c4 c5 c6 c7 c8 c9 ag aj cf;have an:f.heap.size+1<w5.heap.size:=F.x1.lt;have af:w3.heap.size<w5.heap.size:=F.x2.lt;cases hc:(decide (X<0)&&isT (Cx.mk w g true) q5.pos 4 zu) with
 |true=>
  unfold pv;go_wp2_with fail;refine (zm (Cx.mk w g true) b c d S5 q5 X i 4 zu _ (F.alloc _).m.tok I (by decide)).mono ?_;rintro e w6 ⟨rfl,O⟩;rw[hc];replace F:=(F.new3 _).below O;have db:=F.x3.boxC;go_wp2_with fail;refine (zao (Cx.mk w g true) b c d _ S5 q5 X i zu _ K.o.fst F.m).mono ?_;rintro e w7 ⟨S7,q7,z7,rfl,N,m7,s7⟩;replace F:=F.stp m7 s7;clear db;go_wp2_with fail;refine (zao (Cx.mk w g true) b c d _ S7 q7 z7 i zaF _ N.o F.m).mono ?_;rintro e w8 ⟨S8,q8,z8,rfl,ac,m8,s8⟩;replace F:=F.stp m8 s8;have db:=F.x3.boxC;unfold pv;go_wp2_with fail;refine (zd6 (Cx.mk w g true) b c d _ S8 q8 z8 i ⟨5,0,n3,n5,0,0⟩ _ ac.o (F.put3 ..).m (zb9 ac.o)).mono ?_;rintro e w9 ⟨S9,q9,z9,rfl,ai,m9,s9⟩;replace F:=(F.put3 ..).stp m9 s9;clear db;have bb:=F.x1.boxC;unfold pv;go_wp2;refine (F.x1.put ..).ret rfl rfl ?_;rw[HV.o,<-HQ.o,<-Y.o,<-zms K.o hc];exact (F.put1 ..).done rfl ai.o
 |false=>
  unfold pv;go_wp2_with fail;refine (zm (Cx.mk w g true) b c d S5 q5 X i 4 zu _ (F.alloc _).m.tok I (by decide)).mono ?_;rintro e w6 ⟨rfl,O⟩;rw[hc];replace F:=(F.new3 _).below O;have db:=F.x3.boxC;go_wp2_with fail;refine (zd6 (Cx.mk w g true) b c d _ S5 q5 X i ⟨4,0,n3,n5,0,0⟩ _ K.o.fst F.m (zmu K.o)).mono ?_;rintro e w7 ⟨S7,q7,z7,rfl,N,m7,s7⟩;replace F:=F.stp m7 s7;clear db;have bb:=F.x1.boxC;unfold pv;go_wp2;refine (F.x1.put ..).ret rfl rfl ?_;rw[HV.o,<-HQ.o,<-Y.o,<-zmt K.o hc];exact (F.put1 ..).done rfl N.o
theorem ztX (i:Nat) (f:World) (K:Mem (Cx.mk w g false) b c d S q f) (M: ¬q.pos<(Cx.mk w g false).ts.length):
  Calls prog 185 #[pv (Cx.mk w g false) b c S q (-1) i] f (Out (Cx.mk w g false) b c d (pE (Cx.mk w g false) .part i q) i S f):=by
 have HM:=zc K;have I:=K.tok;have L:(Cx.mk w g false).ts.length<=4000:=K.few;have U:=(za1 K.tok).1;clear K;have hk:((ze (Cx.mk w g false) q.pos).kind==2)=false:=by rw[ze8 (by omega)];rfl
 have V:isT (Cx.mk w g false) q.pos 4 zu=false:=zge M (by decide);have hu:isT (Cx.mk w g false) q.pos 1 zaM=false:=zge M (by decide);have X:zO (Cx.mk w g false) q.pos false=false:=zi9 M;have HV:Hid (pE (Cx.mk w g false) .part i q= .error (zz (Cx.mk w g false) q.pos)):=by show pE (Cx.mk w g false) .part i q=_;rw[zcc,hk,V,zq,X];rfl
 have aa: ¬q.pos<w.length:=M;unfold pv;go_enter func185,ntmps185;go_wp2_with fail;refine (zm (Cx.mk w g false) b c d S q (-1) i 4 zu _ (zy (zy I _) _) L (by decide)).mono ?_;rintro e w1 ⟨rfl,O⟩;rw[V];have F:=HM.o.fm O;have ab:=F.x0.boxC;go_wp2_with fail;refine (zb1 (Cx.mk w g false) b c d (.ok q) S q (-1) i false _ (zah q) F.m).mono ?_;rintro e w2 ⟨S2,q2,z2,n2,rfl,N,Z,s2⟩;replace F:=F.stp Z s2;clear ab;obtain rfl:=zhF N.o X;have dz:decide ((0:Int)<=(zz (Cx.mk w g false) q.pos:Int))=true:=dT (by omega);have Y:f.heap.size+1<w2.heap.size:=F.x1.lt;unfold pv;go_upto_region 17 with fail;refine (F.new2 _).cut ?_;intro w3 F;have bb:=F.x1.boxC;have cb:=F.x2.boxC;go_wp2;refine (F.x1.put ..).ret rfl rfl ?_;rw[HV.o];exact (F.put1 ..).done rfl (show Is (.error (zz (Cx.mk w g false) q.pos)) q2 _ from rfl)
theorem ztY (i:Nat) (f:World) (K:Mem (Cx.mk w g false) b c d S q f) (U:((ze (Cx.mk w g false) q.pos).kind==2)=false) (Y:isT (Cx.mk w g false) q.pos 4 zu=false) (X:q.pos<(Cx.mk w g false).ts.length) (Z:zO (Cx.mk w g false) q.pos false=false):
  Calls prog 185 #[pv (Cx.mk w g false) b c S q (-1) i] f (Out (Cx.mk w g false) b c d (pE (Cx.mk w g false) .part i q) i S f):=by
 have HM:=zc K;have I:=K.tok;have L:(Cx.mk w g false).ts.length<=4000:=K.few;have V:=(za1 K.tok).1;clear K;have HV:Hid (pE (Cx.mk w g false) .part i q= .error (zz (Cx.mk w g false) q.pos)):=by show pE (Cx.mk w g false) .part i q=_;rw[zcc,U,Y,zq,Z];rfl
 have ac:q.pos<w.length:=X;obtain⟨O,_,_,_⟩:=I.cells X (d:=⟨0,sNone,0,(Cx.mk w g false).fin⟩);change _=some (Value.int .i64 (ze (Cx.mk w g false) q.pos).kind) at O;generalize (ze (Cx.mk w g false) q.pos).kind=kd at O U;unfold pv;go_enter func185,ntmps185;go_wp2_with fail;refine (zm (Cx.mk w g false) b c d S q (-1) i 4 zu _ (zy (zy I _) _) L (by decide)).mono ?_;rintro e w1 ⟨rfl,N⟩;rw[Y];have F:=HM.o.fm N;have ab:=F.x0.boxC;go_wp2_with fail;refine (zb1 (Cx.mk w g false) b c d (.ok q) S q (-1) i false _ (zah q) F.m).mono ?_;rintro e w2 ⟨S2,q2,z2,n2,rfl,M,m2,s2⟩;replace F:=F.stp m2 s2;clear ab;obtain rfl:=zhF M.o Z;have dz:decide ((0:Int)<=(zz (Cx.mk w g false) q.pos:Int))=true:=dT (by omega);have aa:f.heap.size+1<w2.heap.size:=F.x1.lt;unfold pv;go_upto_region 17 with fail;refine (F.new2 _).cut ?_;intro w3 F;have bb:=F.x1.boxC;obtain⟨O,c1,c2,c3,c4,c5,c6,c7,c8,c9,ae,ad,cf⟩:=F.x2.box;go_wp2;refine (F.x1.put ..).ret rfl rfl ?_;rw[HV.o];exact (F.put1 ..).done rfl (show Is (.error (zz (Cx.mk w g false) q.pos)) q2 _ from rfl)
theorem zmw (i:Nat) (f:World) (K:Mem (Cx.mk w g false) b c d S q f) (e0:Nat):
  Calls prog 185 #[pv (Cx.mk w g false) b c S q (e0:Int) i] f (Out (Cx.mk w g false) b c d (.error e0) i S f):=by
 have X:=zc K;have I:=K.tok;have L:(Cx.mk w g false).ts.length<=4000:=K.few;have O:=(za1 K.tok).1;clear K;have hz: ¬(e0:Int)<0:=by omega
 have hs: ∀k s,(decide ((e0:Int)<0)&&isT (Cx.mk w g false) q.pos k s)=false:=fun k s=>by rw[dF hz];rfl
 unfold pv;go_enter func185,ntmps185;go_wp2_with fail;refine (zm (Cx.mk w g false) b c d S q (e0:Int) i 4 zu _ (zy (zy I _) _) L (by decide)).mono ?_;rintro e w1 ⟨rfl,N⟩;rw[hs];have F:=X.o.fm N;have ab:=F.x0.boxC;go_wp2_with fail;refine (zb1 (Cx.mk w g false) b c d (.error e0) S q (e0:Int) i false _ (show Is (.error e0) q _ from rfl) F.m).mono ?_;rintro e w2 ⟨S2,q2,Y,n2,rfl,M,V,Z⟩;replace F:=F.stp V Z;clear ab;obtain rfl:Y=(e0:Int):=M.o;have dz:decide ((0:Int)<=(e0:Int))=true:=dT (by omega);have U:f.heap.size+1<w2.heap.size:=F.x1.lt;unfold pv;go_upto_region 17 with fail;refine (F.new2 _).cut ?_;intro w3 F;have bb:=F.x1.boxC;have cb:=F.x2.boxC;go_wp2;refine (F.x1.put ..).ret rfl rfl ?_;exact (F.put1 ..).done rfl (show Is (.error e0) q2 _ from rfl)
theorem ztZ (i:Nat) (f:World) (M:Mem (Cx.mk w g false) b c d S q f) (hk:((ze (Cx.mk w g false) q.pos).kind==2)=false) (ho:isT (Cx.mk w g false) q.pos 4 zu=false) (hp:q.pos<(Cx.mk w g false).ts.length) (hn:zO (Cx.mk w g false) q.pos false=true) (hd:isT (Cx.mk w g false) (q.pos+1) 4 cPoint=false):
  Calls prog 185 #[pv (Cx.mk w g false) b c S q (-1) i] f (Out (Cx.mk w g false) b c d (pE (Cx.mk w g false) .part i q) i S f):=by
 have HM:=zc M;have I:=M.tok;have J:(Cx.mk w g false).ts.length<=4000:=M.few;have ag:=(za1 M.tok).1;clear M;have HV:Hid (pE (Cx.mk w g false) .part i q=zbT (Cx.mk w g false) (ze (Cx.mk w g false) q.pos).text (adv q)):=by show pE (Cx.mk w g false) .part i q=_;rw[zcc,hk,ho,zq,hn];show (if isT (Cx.mk w g false) (adv q).pos 4 cPoint then _ else _)=_;rw[zH,hd];rfl
 have ai:q.pos<w.length:=hp;obtain⟨U,_,_,_⟩:=I.cells hp (d:=⟨0,sNone,0,(Cx.mk w g false).fin⟩);change _=some (Value.int .i64 (ze (Cx.mk w g false) q.pos).kind) at U;generalize (ze (Cx.mk w g false) q.pos).kind=kd at U hk;unfold pv;go_enter func185,ntmps185;go_wp2_with fail;refine (zm (Cx.mk w g false) b c d S q (-1) i 4 zu _ (zy (zy I _) _) J (by decide)).mono ?_;rintro e w1 ⟨rfl,ae⟩;rw[ho];have F:=HM.o.fm ae;have ab:=F.x0.boxC;go_wp2_with fail;refine (zb1 (Cx.mk w g false) b c d (.ok q) S q (-1) i false _ (zah q) F.m).mono ?_;rintro e w2 ⟨S2,V,z2,n2,rfl,L,m2,s2⟩;replace F:=F.stp m2 s2;clear ab;obtain⟨X,rfl,N⟩:=zhE L.o hn;have HQ:=zc X;have aa:=zc N;have O:V.pos=q.pos+1:=by rw[X];rfl
 have ad:isT (Cx.mk w g false) V.pos 4 cPoint=false:=by rw[O];exact hd
 clear X N L;have ah:f.heap.size+1<w2.heap.size:=F.x1.lt;unfold pv;clear O;go_wp2_with fail;refine (zm (Cx.mk w g false) b c d S2 V (-1) i 4 cPoint _ (F.alloc _).m.tok J (by decide)).mono ?_;rintro e w3 ⟨rfl,af⟩;rw[ad];replace F:=(F.new2 _).below af;obtain⟨U,c1,c2,c3,c4,c5,c6,c7,c8,c9,ac,Y,cf⟩:=F.x2.box;go_wp2_with fail;refine (zjh (Cx.mk w g false) b c d S2 V i n2 _ F.m (by rw[HQ.o];simp[adv])).mono ?_;rintro e w4 ⟨S4,q4,z4,rfl,Z,m4,s4⟩;replace F:=F.stp m4 s4;clear U c1 c2 c3 c4 c5 c6 c7 c8 c9 ac Y cf;have bb:=F.x1.boxC;unfold pv;go_wp2;refine (F.x1.put ..).ret rfl rfl ?_;rw[HV.o,<-HQ.o,<-aa.o];exact (F.put1 ..).done rfl Z.o
theorem zua (i:Nat) (f:World) (hm:Mem (Cx.mk w g false) b c d S q f) (hk:((ze (Cx.mk w g false) q.pos).kind==2)=false) (ho:isT (Cx.mk w g false) q.pos 4 zu=false) (hp:q.pos<(Cx.mk w g false).ts.length) (hn:zO (Cx.mk w g false) q.pos false=true) (hd:isT (Cx.mk w g false) (q.pos+1) 4 cPoint=true):
  Calls prog 185 #[pv (Cx.mk w g false) b c S q (-1) i] f (Out (Cx.mk w g false) b c d (pE (Cx.mk w g false) .part i q) i S f):=by
 have HM:=zc hm;have L:=hm.tok;have I:(Cx.mk w g false).ts.length<=4000:=hm.few;have am:=(za1 hm.tok).1;clear hm;have HV:Hid (pE (Cx.mk w g false) .part i q=bd (bd (.ok (adv (adv q))) (zq (Cx.mk w g false) true)) fun y=>zci (Cx.mk w g false) (ze (Cx.mk w g false) q.pos).text y.2 y.1):=by show pE (Cx.mk w g false) .part i q=_;rw[zcc,hk,ho,zq,hn];show (if isT (Cx.mk w g false) (adv q).pos 4 cPoint then _ else _)=_;rw[zH,hd];rfl
 have ao:q.pos<w.length:=hp;obtain⟨c0,_,_,_⟩:=L.cells hp (d:=⟨0,sNone,0,(Cx.mk w g false).fin⟩);change _=some (Value.int .i64 (ze (Cx.mk w g false) q.pos).kind) at c0;generalize (ze (Cx.mk w g false) q.pos).kind=kd at c0 hk;unfold pv;go_enter func185,ntmps185;go_wp2_with fail;refine (zm (Cx.mk w g false) b c d S q (-1) i 4 zu _ (zy (zy L _) _) I (by decide)).mono ?_;rintro e w1 ⟨rfl,aj⟩;rw[ho];have F:=HM.o.fm aj;have ab:=F.x0.boxC;go_wp2_with fail;refine (zb1 (Cx.mk w g false) b c d (.ok q) S q (-1) i false _ (zah q) F.m).mono ?_;rintro e w2 ⟨S2,N,z2,n2,rfl,V,m2,s2⟩;replace F:=F.stp m2 s2;clear ab;obtain⟨hq,rfl,Y⟩:=zhE V.o hn;have HQ:=zc hq;have aa:=zc Y;have ad:N.pos=q.pos+1:=by rw[hq];rfl
 have X:isT (Cx.mk w g false) N.pos 4 cPoint=true:=by rw[ad];exact hd
 clear hq Y V;have an:f.heap.size+1<w2.heap.size:=F.x1.lt;unfold pv;clear ad;go_wp2_with fail;refine (zm (Cx.mk w g false) b c d S2 N (-1) i 4 cPoint _ (F.alloc _).m.tok I (by decide)).mono ?_;rintro e w3 ⟨rfl,ag⟩;rw[X];replace F:=(F.new2 _).below ag;obtain⟨c0,c1,c2,c3,c4,c5,c6,c7,c8,c9,af,ah,cf⟩:=F.x2.box;have ac:N.pos<(Cx.mk w g false).ts.length:=zaG X (by decide);have ak:N.pos<w.length:=ac;go_wp2_with fail;refine (zb1 (Cx.mk w g false) b c d (.ok (adv N)) S2 (adv N) (-1) i true _ (zah _) ((F.adv ac).set2_1 _).m).mono ?_;rintro e w4 ⟨S4,q4,U,n4,rfl,K,m4,s4⟩;replace F:=(F.set2_1 _).stp m4 s4;clear c0 c1 c2 c3 c4 c5 c6 c7 c8 c9 af ah cf;have al:f.heap.size+1<w4.heap.size:=F.x1.lt;have ae:w2.heap.size<w4.heap.size:=F.x2.lt;cases hc:(decide (U<0)&&isT (Cx.mk w g false) q4.pos 4 zu) with
 |true=>
  unfold pv;go_wp2_with fail;refine (zm (Cx.mk w g false) b c d S4 q4 U i 4 zu _ (F.alloc _).m.tok I (by decide)).mono ?_;rintro e w5 ⟨rfl,O⟩;rw[hc];replace F:=(F.new3 _).below O;have db:=F.x3.boxC;go_wp2_with fail;refine (zao (Cx.mk w g false) b c d _ S4 q4 U i zu _ K.o.fst F.m).mono ?_;rintro e w6 ⟨S6,q6,z6,rfl,M,m6,s6⟩;replace F:=F.stp m6 s6;clear db;go_wp2_with fail;refine (zao (Cx.mk w g false) b c d _ S6 q6 z6 i zaF _ M.o F.m).mono ?_;rintro e w7 ⟨S7,q7,z7,rfl,Z,m7,s7⟩;replace F:=F.stp m7 s7;have db:=F.x3.boxC;unfold pv;go_wp2_with fail;refine (zd6 (Cx.mk w g false) b c d _ S7 q7 z7 i ⟨5,0,n2,n4,0,0⟩ _ Z.o (F.put3 ..).m (zb9 Z.o)).mono ?_;rintro e w8 ⟨S8,q8,z8,rfl,ai,m8,s8⟩;replace F:=(F.put3 ..).stp m8 s8;clear db;have bb:=F.x1.boxC;unfold pv;go_wp2;refine (F.x1.put ..).ret rfl rfl ?_;rw[HV.o,<-HQ.o,<-aa.o,<-zms K.o hc];exact (F.put1 ..).done rfl ai.o
 |false=>
  unfold pv;go_wp2_with fail;refine (zm (Cx.mk w g false) b c d S4 q4 U i 4 zu _ (F.alloc _).m.tok I (by decide)).mono ?_;rintro e w5 ⟨rfl,O⟩;rw[hc];replace F:=(F.new3 _).below O;have db:=F.x3.boxC;go_wp2_with fail;refine (zd6 (Cx.mk w g false) b c d _ S4 q4 U i ⟨4,0,n2,n4,0,0⟩ _ K.o.fst F.m (zmu K.o)).mono ?_;rintro e w6 ⟨S6,q6,z6,rfl,M,m6,s6⟩;replace F:=F.stp m6 s6;clear db;have bb:=F.x1.boxC;unfold pv;go_wp2;refine (F.x1.put ..).ret rfl rfl ?_;rw[HV.o,<-HQ.o,<-aa.o,<-zmt K.o hc];exact (F.put1 ..).done rfl M.o
def zji (C:Cx) (gt cap base m:Nat):Prop:=∀(x:PR) (S:Sv) (q:PS) (z:Int) (d:Nat) (w:World),Is x q z->Mem C gt cap base S q w->(z<0->C.ts.length-q.pos<m)->d<=20->
 Calls prog 185 #[pv C gt cap S q z d] w (Out C gt cap base (bd x (pE C .part d)) d S w)
def zmx (C:Cx) (gt cap base m:Nat):Prop:=∀(x:PR) (S:Sv) (q:PS) (z:Int) (d:Nat) (w:World),Is x q z->Mem C gt cap base S q w->(z<0->C.ts.length-q.pos<m)->d<=20->
 Calls prog 167 #[pv C gt cap S q z d] w (Out C gt cap base (bd x (pE C .prod d)) d S w)
theorem SumOK.mono {e Z:Nat} (h:SumOK D k m s e) (I:Z<=e):SumOK D k m s Z:=fun x S q z d w L J M K=>h x S q z d w L J (fun g=>Nat.lt_of_lt_of_le (M g) I) K
theorem zub {f:Nat} (hS:SumOK D k m s f):zji D k m s (f+1):=by
 intro x S q z d w hx J hl N;by_cases Z:z<0
 ·obtain⟨rfl,rfl⟩:=zaP hx Z;rw[zJ];have Y:SumOK D k m s (D.ts.length-q.pos):=hS.mono (by have:=hl Z;omega);cases L:((ze D q.pos).kind==2) with
  |true=>exact ztP D k m s S q d w J L
  |false=>
   cases M:isT D q.pos 4 zu with
   |true=>
    by_cases X:20<=d
    ·exact ztQ D k m s S q d w J L M X N
    ·exact ztR D k m s S q d w J L M (by omega) Y
   |false=>
    obtain⟨H,A,O⟩:=D;cases O with
    |true=>
     by_cases K:q.pos<H.length
     ·cases V:isT (Cx.mk H A true) q.pos 1 zaM with
      |true=>exact ztU H A k m s S q d w J L M K V
      |false=>
       cases U:zO (Cx.mk H A true) q.pos false with
       |false=>exact ztT H A k m s S q d w J L M K V U
       |true=>
        cases N:isT (Cx.mk H A true) (q.pos+1) 4 cPoint with
        |false=>exact ztV H A k m s S q d w J L M K V U N
        |true=>exact ztW H A k m s S q d w J L M K V U N
     ·exact ztS H A k m s S q d w J K
    |false=>
     by_cases K:q.pos<H.length
     ·cases U:zO (Cx.mk H A false) q.pos false with
      |false=>exact ztY H A k m s S q d w J L M K U
      |true=>
       cases N:isT (Cx.mk H A false) (q.pos+1) 4 cPoint with
       |false=>exact ztZ H A k m s S q d w J L M K U N
       |true=>exact zua H A k m s S q d w J L M K U N
     ·exact ztX H A k m s S q d w J K
 ·obtain⟨e,rfl,rfl⟩:=zdY hx Z;rw[zfl];obtain⟨H,A,O⟩:=D;cases O with
  |true=>exact zmv H A k m s S q d w J e
  |false=>exact zmw H A k m s S q d w J e
theorem zjj (Z:Is N h u) (F:PS->Ex):bd N (zZ D (F h))=bd N fun q'=>zZ D (F q') q':=by
 cases N with
 |ok a=>obtain⟨rfl,_⟩:=Z;rfl
 |error e=>rfl
theorem zmy (H: ∀a,N= .ok a->k<=a.pos) (Z:(bd N fun q'=>zZ D (Y q') q')= .ok h):k<=h.pos:=by
 obtain⟨a,w,A⟩:=zr Z;obtain⟨rfl,_⟩:=zbG A;exact H a w
theorem zuc {Z:Int} (K:Is N h u) (I:Is (bd N (pE D .part k)) A Z) (H:u<0->D.ts.length-h.pos<m) (L:Z<0):D.ts.length-A.pos<m:=by
 obtain⟨e,_⟩:=zaP I L;obtain⟨a,f,J⟩:=zr e;subst f;obtain⟨rfl,rfl⟩:=K;have:=zbt J;have:=H (by decide);omega
theorem zud {Z:Int} (K:Is N h u) (I:Is (bd N (pE D .prod k)) A Z) (H:u<0->D.ts.length-h.pos<m) (L:Z<0):D.ts.length-A.pos<m:=by
 obtain⟨e,_⟩:=zaP I L;obtain⟨a,f,J⟩:=zr e;subst f;obtain⟨rfl,rfl⟩:=K;have:=zbt J;have:=H (by decide);omega
theorem zue (Z:Is (bd (.ok (adv h)) (pE D .part k)) A u) (f:u<0):1<=A.pos:=by
 obtain⟨e,_⟩:=zaP Z f;have:=zbt (show pE D .part k (adv h)= .ok A from e);rw[zH] at this;omega
theorem zmz (Z:Is (bd (.ok (adv h)) (pE D .prod k)) A u) (f:u<0):1<=A.pos:=by
 obtain⟨e,_⟩:=zaP Z f;have:=zbt (show pE D .prod k (adv h)= .ok A from e);rw[zH] at this;omega
theorem zuf (Z:Is (bd (bd (.ok (adv h)) (pE D .part k)) fun q'=>zZ D (Y q') q') A u) (H:u<0):h.pos+1<=A.pos:=by
 obtain⟨e,_⟩:=zaP Z H;exact zmy (fun a f=>by have:=zbt (show pE D .part k (adv h)= .ok a from f);rw[zH] at this;exact this) e
theorem zm0 (Z:Is (bd (bd (.ok (adv h)) (pE D .prod k)) fun q'=>zZ D (Y q') q') A u) (H:u<0):h.pos+1<=A.pos:=by
 obtain⟨e,_⟩:=zaP Z H;exact zmy (fun a f=>by have:=zbt (show pE D .prod k (adv h)= .ok a from f);rw[zH] at this;exact this) e
theorem zug {d:Nat} (Z:isT D h.pos 4 zG=true) (_:h.pos<D.ts.length):
  bd (.ok h) (pE D .prodT d)=bd (bd (bd (.ok (adv h)) (pE D .part d)) fun q'=>zZ D ⟨8,0,sNone,sNone,(h.ex.length:Int)-1,(q'.ex.length:Int)-1⟩ q') (pE D .prodT d):=by
 show pE D .prodT d h=_;rw[zgP,if_pos Z];rfl
theorem zm1 {d:Nat} (Z:(isT D h.pos 4 zcF||isT D h.pos 4 zb0)=true) (w:zdR D h.pos=u) (_:h.pos<D.ts.length):
  bd (.ok h) (pE D .sumT d)=bd (bd (bd (.ok (adv h)) (pE D .prod d)) fun q'=>zZ D ⟨u,0,sNone,sNone,(h.ex.length:Int)-1,(q'.ex.length:Int)-1⟩ q') (pE D .sumT d):=by
 show pE D .sumT d h=_;rw[zfW,if_pos Z,w];rfl
theorem zuh (w:Is N h u) (Z:(decide (u<0)&&isT D h.pos 4 zG)=false):Is (bd N (pE D .prodT k)) h u:=by
 cases N with
 |ok a=>
  obtain⟨rfl,rfl⟩:=w;rw[Bool.and_eq_false_iff] at Z;rw[zJ,zgP,Z.resolve_left (by decide)];exact⟨rfl,rfl⟩
 |error e=>exact w
theorem zui (A:Is N h u) (w:(decide (u<0)&&isT D h.pos 4 zcF)=false) (Z:(decide (u<0)&&isT D h.pos 4 zb0)=false):Is (bd N (pE D .sumT k)) h u:=by
 cases N with
 |ok a=>
  obtain⟨rfl,rfl⟩:=A;rw[Bool.and_eq_false_iff] at w Z;rw[zJ,zfW,w.resolve_left (by decide),Z.resolve_left (by decide)];exact⟨rfl,rfl⟩
 |error e=>exact A
theorem zuj (h:isT D k 4 zcF=true):isT D k 4 zb0=false:=by
 simp only[isT,Bool.and_eq_true,beq_iff_eq] at h;simp only[isT,h.2];rw[Bool.and_eq_false_iff];exact .inr (by simp)
theorem zm2 {i:Nat} (hP:zji D k m s i):zmx D k m s i:=by
 intro x S q z d w hx hm hl M;have HP:=zc hP;have HM:=zc hm;have HX:=zc hx;have HL:=zc hl;have O:=hm.few;clear hP hm hx hl;unfold pv;go_enter func167,ntmps167;go_wp2_with fail;refine (HP.o x S q z d _ HX.o ((HM.o.alloc _).alloc _) HL.o M).mono ?_;rintro e w1 ⟨S1,q1,z1,rfl,aa,m1,s1⟩;have F:=HM.o.fm2 m1 s1;have J:=F.x0.boxC;unfold pv;go_wp2;go_loopg [] (D.ts.length+1) (fun f wr=>∃(x':PR) (H:Sv) (A:PS) (z':Int),Is x' A z'/\bd x' (pE D .prodT d)=bd x (pE D .prod d)/\(z'<0->D.ts.length-A.pos<f)/\(z'<0->D.ts.length-A.pos<i)/\Mem D k m s H A wr/\SB w.heap.size S w H wr/\Bx k H wr w.heap.size #[.slice (some ⟨k,0,none⟩) D.ts.length m,.int .i64 A.pos,.int .i64 D.fin,.bool D.scr,.slice H.rq.a A.rq.length H.rq.cap,.slice H.im.a A.im.length H.im.cap,.slice H.ep.a A.ep.length H.ep.cap,.slice H.st.a A.st.length H.st.cap,.slice H.ex.a A.ex.length H.ex.cap,.slice H.la.a A.la.length H.la.cap,.int .i64 z',.int .i64 d]/\Bx k H wr (w.heap.size+1) #[.slice none 0 0,.int .i64 0,.int .i64 0,.bool false,.slice none 0 0,.slice none 0 0,.slice none 0 0,.slice none 0 0,.slice none 0 0,.slice none 0 0,.int .i64 0,.int .i64 0])
 case atStart=>exact⟨_,S1,q1,z1,aa.o,by rw[zX];exact zam fun a _=>(zkx D d a).symm,fun _=>by omega,fun Y=>zuc HX.o aa.o HL.o Y,(F.put0 ..).m,(F.put0 ..).t,(F.put0 ..).x0,(F.put0 ..).x1⟩
 case round=>
  obtain⟨x2,S2,K,z2,i2,e2,l2,b2,m2,t2,X0,X1⟩:=hrel;have F:=Fm.of2 X0 X1 m2 t2 (by omega) (by omega) (by omega);have X:=zc i2;have ac:=zc e2;have af:=zc l2;have ae:=zc b2;have ak:=m2.inv.ex;clear X0 X1 i2 m2 t2 e2 l2 b2;cases Z:(decide (z2<0)&&isT D K.pos 4 zG) with
  |true=>
   have J:=F.x0.boxC;go_wp2_with fail;refine (zm D k m s S2 K z2 d 4 zG _ F.m.tok O (by decide)).mono ?_;rintro e w3 ⟨rfl,V⟩;rw[Z];replace F:=F.below V;clear J;rw[Bool.and_eq_true,decide_eq_true_eq] at Z;obtain⟨Y,hs⟩:=Z;have hp:K.pos<D.ts.length:=zaG hs (by decide);obtain⟨rfl,rfl⟩:=zaP X.o Y;have ah:=af.o Y;have al:=ae.o Y
   skip
   have J:=F.x0.boxC;go_wp2_with fail;refine (HP.o (.ok (adv K)) S2 (adv K) (-1) d _ (zah _) ((F.adv hp).set0_1 _).m (fun _=>by rw[zH];omega) M).mono ?_;rintro e w4 ⟨S4,q4,z4,rfl,U,m4,s4⟩;replace F:=(F.set0_1 _).stp m4 s4;clear J;have J:=F.x0.boxC;unfold pv;go_upto_region 6 with fail;refine (F.put0 ..).cut ?_;clear J;intro w5 F;have J:=F.x0.boxC;have ag:=F.m.inv.ex;go_wp2_with fail;refine (zd6 D k m s _ S4 q4 z4 d ⟨8,0,sNone,sNone,(K.ex.length:Int)-1,(q4.ex.length:Int)-1⟩ _ U.o F.m (fun h=>zue U.o h)).mono ?_;rintro e w6 ⟨S6,q6,z6,rfl,ad,m6,s6⟩;replace F:=F.stp m6 s6;clear J;have HI:Hid (Is (bd (bd (.ok (adv K)) (pE D .part d)) fun A=>zZ D ⟨8,0,sNone,sNone,(K.ex.length:Int)-1,(A.ex.length:Int)-1⟩ A) q6 z6):=by rw[<-zjj U.o (fun A=>⟨8,0,sNone,sNone,(K.ex.length:Int)-1,(A.ex.length:Int)-1⟩)];exact ad.o
   have N:Hid (z6<0->K.pos+1<=q6.pos):=fun h=>zuf HI.o h;have J:=F.x0.boxC;unfold pv;go_wp2;go_roundg (gk-1)
   case rel=>exact⟨_,S6,q6,z6,HI.o,by rw[<-ac.o];exact (zug (d:=d) hs hp).symm,fun h=>by have:=N.o h;omega,fun h=>by have:=N.o h;omega,(F.put0 ..).m,(F.put0 ..).t,(F.put0 ..).x0,(F.put0 ..).x1⟩
   case measure=>omega
  |false=>
   have J:=F.x0.boxC;go_wp2_with fail;refine (zm D k m s S2 K z2 d 4 zG _ F.m.tok O (by decide)).mono ?_;rintro e w3 ⟨rfl,V⟩;rw[Z];replace F:=F.below V;clear J;have J:=F.x0.boxC;obtain⟨b0,b1,b2,b3,b4,b5,b6,b7,b8,b9,aj,ai,bf⟩:=F.x1.box;go_wp2;refine (F.x1.put ..).ret rfl rfl ?_;exact (F.put1 ..).done rfl (show Is (bd x (pE D .prod d)) K z2 from by rw[<-ac.o];exact zuh X.o Z)
theorem zm3 {i:Nat} (hP:zmx D k m s i):SumOK D k m s i:=by
 intro x S q z d w hx hm hl U;have HP:=zc hP;have HM:=zc hm;have HX:=zc hx;have HL:=zc hl;have K:=hm.few;clear hP hm hx hl;unfold pv;go_enter func129,ntmps129;go_wp2_with fail;refine (HP.o x S q z d _ HX.o ((HM.o.alloc _).alloc _) HL.o U).mono ?_;rintro e w1 ⟨S1,q1,z1,rfl,ag,m1,s1⟩;have F:=HM.o.fm2 m1 s1;have H:=F.x0.boxC;unfold pv;go_wp2;go_loopg [] (D.ts.length+1) (fun f wr=>∃(x':PR) (N:Sv) (J:PS) (z':Int),Is x' J z'/\bd x' (pE D .sumT d)=bd x (pE D .sum d)/\(z'<0->D.ts.length-J.pos<f)/\(z'<0->D.ts.length-J.pos<i)/\Mem D k m s N J wr/\SB w.heap.size S w N wr/\Bx k N wr w.heap.size #[.slice (some ⟨k,0,none⟩) D.ts.length m,.int .i64 J.pos,.int .i64 D.fin,.bool D.scr,.slice N.rq.a J.rq.length N.rq.cap,.slice N.im.a J.im.length N.im.cap,.slice N.ep.a J.ep.length N.ep.cap,.slice N.st.a J.st.length N.st.cap,.slice N.ex.a J.ex.length N.ex.cap,.slice N.la.a J.la.length N.la.cap,.int .i64 z',.int .i64 d]/\Bx k N wr (w.heap.size+1) #[.slice none 0 0,.int .i64 0,.int .i64 0,.bool false,.slice none 0 0,.slice none 0 0,.slice none 0 0,.slice none 0 0,.slice none 0 0,.slice none 0 0,.int .i64 0,.int .i64 0])
 case atStart=>exact⟨_,S1,q1,z1,ag.o,by rw[zX];exact zam fun a _=>(zkw D d a).symm,fun _=>by omega,fun Y=>zud HX.o ag.o HL.o Y,(F.put0 ..).m,(F.put0 ..).t,(F.put0 ..).x0,(F.put0 ..).x1⟩
 case round=>
  obtain⟨x2,Z,A,X,i2,e2,l2,b2,m2,t2,X0,X1⟩:=hrel;have F:=Fm.of2 X0 X1 m2 t2 (by omega) (by omega) (by omega);have aa:=zc i2;have af:=zc e2;have ai:=zc l2;have ah:=zc b2;have au:=m2.inv.ex;clear X0 X1 i2 m2 t2 e2 l2 b2;cases hc:(decide (X<0)&&isT D A.pos 4 zcF) with
  |true=>
   have H:=F.x0.boxC;go_wp2_with fail;refine (zm D k m s Z A X d 4 zcF _ F.m.tok K (by decide)).mono ?_;rintro e w3 ⟨rfl,ad⟩;rw[hc];replace F:=F.below ad;clear H;rw[Bool.and_eq_true,decide_eq_true_eq] at hc;obtain⟨Y,hs⟩:=hc;have aj:isT D A.pos 4 zb0=false:=zuj hs;have L:(decide (X<0)&&isT D A.pos 4 zb0)=false:=by rw[aj,Bool.and_false]
   have H:=F.x0.boxC;go_wp2_with fail;refine (zm D k m s Z A X d 4 zb0 _ F.m.tok K (by decide)).mono ?_;rintro e w4 ⟨rfl,V⟩;rw[L];replace F:=F.below V;clear H;clear L;have hp:A.pos<D.ts.length:=zaG hs (by decide);obtain⟨rfl,rfl⟩:=zaP aa.o Y;have al:=ai.o Y;have ap:=ah.o Y
   skip
   have H:=F.x0.boxC;go_wp2_with fail;refine (HP.o (.ok (adv A)) Z (adv A) (-1) d _ (zah _) ((F.adv hp).set0_1 _).m (fun _=>by rw[zH];omega) U).mono ?_;rintro e w5 ⟨S5,q5,z5,rfl,ae,m5,s5⟩;replace F:=(F.set0_1 _).stp m5 s5;clear H;have H:=F.x0.boxC;unfold pv;go_upto_region 9 with fail;refine (F.put0 ..).cut ?_;clear H;intro w6 F;have H:=F.x0.boxC;have ak:=F.m.inv.ex;go_wp2_with fail;refine (zd6 D k m s _ S5 q5 z5 d ⟨6,0,sNone,sNone,(A.ex.length:Int)-1,(q5.ex.length:Int)-1⟩ _ ae.o F.m (fun h=>zmz ae.o h)).mono ?_;rintro e w7 ⟨S7,q7,z7,rfl,am,m7,s7⟩;replace F:=F.stp m7 s7;clear H;have HI:Hid (Is (bd (bd (.ok (adv A)) (pE D .prod d)) fun J=>zZ D ⟨6,0,sNone,sNone,(A.ex.length:Int)-1,(J.ex.length:Int)-1⟩ J) q7 z7):=by rw[<-zjj ae.o (fun J=>⟨6,0,sNone,sNone,(A.ex.length:Int)-1,(J.ex.length:Int)-1⟩)];exact am.o
   have M:Hid (z7<0->A.pos+1<=q7.pos):=fun h=>zm0 HI.o h;have H:=F.x0.boxC;unfold pv;go_wp2;go_roundg (gk-1)
   case rel=>exact⟨_,S7,q7,z7,HI.o,by rw[<-af.o];exact (zm1 (d:=d) (by rw[hs];rfl) (show zdR D A.pos=6 by rw[zdR,aj];rfl) hp).symm,fun h=>by have:=M.o h;omega,fun h=>by have:=M.o h;omega,(F.put0 ..).m,(F.put0 ..).t,(F.put0 ..).x0,(F.put0 ..).x1⟩
   case measure=>omega
  |false=>
   have H:=F.x0.boxC;go_wp2_with fail;refine (zm D k m s Z A X d 4 zcF _ F.m.tok K (by decide)).mono ?_;rintro e w3 ⟨rfl,ad⟩;rw[hc];replace F:=F.below ad;clear H;cases L:(decide (X<0)&&isT D A.pos 4 zb0) with
   |true=>
    have H:=F.x0.boxC;go_wp2_with fail;refine (zm D k m s Z A X d 4 zb0 _ F.m.tok K (by decide)).mono ?_;rintro e w4 ⟨rfl,V⟩;rw[L];replace F:=F.below V;clear H;have H:=F.x0.boxC;go_wp2_with fail;refine (zm D k m s Z A X d 4 zb0 _ F.m.tok K (by decide)).mono ?_;rintro e w5 ⟨rfl,an⟩;rw[L];replace F:=F.below an;clear H;rw[Bool.and_eq_true,decide_eq_true_eq] at L;obtain⟨Y,hs⟩:=L;have hp:A.pos<D.ts.length:=zaG hs (by decide);obtain⟨rfl,rfl⟩:=zaP aa.o Y;have al:=ai.o Y;have ap:=ah.o Y
    skip
    have H:=F.x0.boxC;go_wp2_with fail;refine (HP.o (.ok (adv A)) Z (adv A) (-1) d _ (zah _) ((F.adv hp).set0_1 _).m (fun _=>by rw[zH];omega) U).mono ?_;rintro e w6 ⟨S6,q6,z6,rfl,ac,m6,s6⟩;replace F:=(F.set0_1 _).stp m6 s6;clear H;have H:=F.x0.boxC;unfold pv;go_upto_region 9 with fail;refine (F.put0 ..).cut ?_;clear H;intro w7 F;have H:=F.x0.boxC;have ak:=F.m.inv.ex;go_wp2_with fail;refine (zd6 D k m s _ S6 q6 z6 d ⟨7,0,sNone,sNone,(A.ex.length:Int)-1,(q6.ex.length:Int)-1⟩ _ ac.o F.m (fun h=>zmz ac.o h)).mono ?_;rintro e w8 ⟨S8,q8,z8,rfl,ao,m8,s8⟩;replace F:=F.stp m8 s8;clear H;have HI:Hid (Is (bd (bd (.ok (adv A)) (pE D .prod d)) fun J=>zZ D ⟨7,0,sNone,sNone,(A.ex.length:Int)-1,(J.ex.length:Int)-1⟩ J) q8 z8):=by rw[<-zjj ac.o (fun J=>⟨7,0,sNone,sNone,(A.ex.length:Int)-1,(J.ex.length:Int)-1⟩)];exact ao.o
    have M:Hid (z8<0->A.pos+1<=q8.pos):=fun h=>zm0 HI.o h;have H:=F.x0.boxC;unfold pv;go_wp2;go_roundg (gk-1)
    case rel=>exact⟨_,S8,q8,z8,HI.o,by rw[<-af.o];exact (zm1 (d:=d) (by rw[hs,Bool.or_true]) (show zdR D A.pos=7 by rw[zdR,hs];rfl) hp).symm,fun h=>by have:=M.o h;omega,fun h=>by have:=M.o h;omega,(F.put0 ..).m,(F.put0 ..).t,(F.put0 ..).x0,(F.put0 ..).x1⟩
    case measure=>omega
   |false=>
    have H:=F.x0.boxC;go_wp2_with fail;refine (zm D k m s Z A X d 4 zb0 _ F.m.tok K (by decide)).mono ?_;rintro e w4 ⟨rfl,V⟩;rw[L];replace F:=F.below V;clear H;have H:=F.x0.boxC;obtain⟨b0,b1,b2,b3,b4,b5,b6,b7,b8,b9,ar,aq,bf⟩:=F.x1.box;go_wp2;refine (F.x1.put ..).ret rfl rfl ?_;exact (F.put1 ..).done rfl (show Is (bd x (pE D .sum d)) A X from by rw[<-af.o];exact zui aa.o hc L)
theorem zuk:zji C g b c 0:=by
 intro x S q z d w N J M O;by_cases L:z<0
 ·have:=M L;omega
 ·obtain⟨e,rfl,rfl⟩:=zdY N L;rw[zfl];obtain⟨K,A,H⟩:=C;cases H with
  |true=>exact zmv K A g b c S q d w J e
  |false=>exact zmw K A g b c S q d w J e
theorem zul:SumOK C g b c d:=by
 induction d with
 |zero=>exact zm3 (zm2 (zuk C g b c))
 |succ d w=>exact zm3 (zm2 (zub w))
theorem zdI (x:PR) (S:Sv) (q:PS) (z:Int) (w:World) (I:Is x q z) (H:Mem C g b c S q w):
  Calls prog 129 #[pv C g b S q z 0] w (Out C g b c (bd x (pE C .sum 0)) 0 S w):=
 zul C g b c (C.ts.length+1) x S q z 0 w I H (fun _=>by omega) (by omega)
theorem Is2.withN {y:PRN} {q q':PS} {z z':Int} {n:BA0} {F:PR->BA0->PR} (h:Is2 y q z n) (H: ∀e n,F (.error e) n= .error e) (w:Is (F (zbc y) n) q' z'):Is2 (withN y F) q' z' n:=by
 cases y with
 |ok a=>
  obtain⟨_,_,rfl⟩:=h;have e:zbc (.ok a)= .ok a.1:=rfl;rw[e] at w;show Is2 (bd (F (.ok a.1) a.2) fun q=>.ok (q,a.2)) q' z' a.2;cases A:F (.ok a.1) a.2 with
  |ok b=>rw[A] at w;exact⟨w.1,w.2,rfl⟩
  |error e=>rw[A] at w;exact w
 |error e=>
  have I:zbc (.error e)= .error e:=rfl;rw[I,H] at w;exact w
theorem zm4 {q':PS} (J:B=pv D k m p q' u x) (L:Is2 X q' u R) (I:Mem D k m s p q' z) (K:SB V.heap.size T V p z):zep D k m s X x T V (.returned (.tuple #[B,.string R])) z:=
 ⟨p,q',u,R,by rw[J],L,I,K.done⟩
theorem zjk (V:Mem C g b c S q W):
  Calls prog 126 #[pv C g b S q (-1) 0] W (zep C g b c (zdh C q) 0 S W):=by
 have O:=zc V;clear V;unfold pv;go_enter func126,ntmps126;go_wp2_with fail;refine (zaX C g b c (.ok q) S q (-1) 0 zN _ (zah q) ((O.o.alloc _).alloc _)).mono ?_;rintro e w1 ⟨S1,q1,z1,rfl,J,m1,s1⟩;have F:=O.o.fm2 m1 s1;go_wp2_with fail;refine (zb1 C g b c _ S1 q1 z1 0 false _ J.o F.m).mono ?_;rintro e w2 ⟨S2,q2,z2,n2,rfl,I,Y,s2⟩;replace F:=F.stp Y s2;have U:W.heap.size+1<w2.heap.size:=F.x1.lt;unfold pv;go_wp2_with fail;refine (zao C g b c _ S2 q2 z2 0 cEq _ I.o.fst (F.alloc _).m).mono ?_;rintro e w3 ⟨S3,q3,z3,rfl,N,Z,s3⟩;replace F:=(F.new2 _).stp Z s3;go_wp2_with fail;refine (zdI C g b c _ S3 q3 z3 _ N.o F.m).mono ?_;rintro e w4 ⟨S4,q4,z4,rfl,L,m4,X⟩;replace F:=F.stp m4 X;go_wp2_with fail;refine (zao C g b c _ S4 q4 z4 0 cSemi _ L.o F.m).mono ?_;rintro e w5 ⟨S5,q5,z5,rfl,H,m5,s5⟩;replace F:=F.stp m5 s5;have M:=F.x2.boxC;unfold pv;go_upto_region 3 with fail;refine (F.put2 ..).cut ?_;clear M;intro w6 F;have M:=F.x2.boxC;go_wp2_with fail;refine (zd7 C g b c _ S5 q5 z5 0 1 n2 _ H.o F.m (zb9 H.o)).mono ?_;rintro e w7 ⟨S7,q7,z7,rfl,K,m7,s7⟩;replace F:=F.stp m7 s7;clear M;have bb:=F.x1.boxC;unfold pv;go_wp2;refine bodyPost_ret (zaH rfl _ _ (W.heap.size+1) 127 _ (0,0) _ rfl ((F.x1.put ..)).heap underlying127 rfl (by kernel_rfl)) rfl ?_;exact zm4 rfl (I.o.withN (F:=fun x n=>_) (fun _ _=>rfl) K.o) (F.put1 ..).m (F.put1 ..).t
theorem zjl (hm:Mem C g b c S q W):
  Calls prog 127 #[pv C g b S q (-1) 0] W (zep C g b c (fnP C q) 0 S W):=by
 have HM:=zc hm;clear hm;unfold pv;go_enter func127,ntmps127;go_wp2_with fail;refine (zaX C g b c (.ok q) S q (-1) 0 zab _ (zah q) ((HM.o.alloc _).alloc _)).mono ?_;rintro e w1 ⟨S1,q1,z1,rfl,V,m1,s1⟩;have F:=HM.o.fm2 m1 s1;go_wp2_with fail;refine (zb1 C g b c _ S1 q1 z1 0 false _ V.o F.m).mono ?_;rintro e w2 ⟨S2,q2,z2,n2,rfl,J,m2,s2⟩;replace F:=F.stp m2 s2;have ak:W.heap.size+1<w2.heap.size:=F.x1.lt;unfold pv;go_wp2_with fail;refine (zao C g b c _ S2 q2 z2 0 zu _ J.o.fst (F.alloc _).m).mono ?_;rintro e w3 ⟨S3,q3,z3,rfl,ah,m3,s3⟩;replace F:=(F.new2 _).stp m3 s3;go_wp2_with fail;refine (zao C g b c _ S3 q3 z3 0 zaF _ ah.o F.m).mono ?_;rintro e w4 ⟨S4,q4,z4,rfl,Y,m4,s4⟩;replace F:=F.stp m4 s4;go_wp2_with fail;refine (zao C g b c _ S4 q4 z4 0 zU _ Y.o F.m).mono ?_;rintro e w5 ⟨S5,q5,z5,rfl,ad,m5,s5⟩;replace F:=F.stp m5 s5;have H:=F.x2.boxC;unfold pv;go_upto_region 3 with fail;refine (F.put2 ..).cut ?_;clear H;intro w6 F;have H:=F.x2.boxC;go_wp2_with fail;refine (zaX C g b c _ S5 q5 z5 0 zfk _ ad.o F.m).mono ?_;rintro e w7 ⟨S7,q7,z7,rfl,X,m7,s7⟩;replace F:=F.stp m7 s7;clear H;go_wp2_with fail;refine (zdI C g b c _ S7 q7 z7 _ X.o F.m).mono ?_;rintro e w8 ⟨S8,q8,z8,rfl,ag,m8,s8⟩;replace F:=F.stp m8 s8;have H:=F.x2.boxC;unfold pv;go_upto_region 4 with fail;refine (F.put2 ..).cut ?_;clear H;intro w9 F;have H:=F.x2.boxC;go_wp2_with fail;refine (zao C g b c _ S8 q8 z8 0 cSemi _ ag.o F.m).mono ?_;rintro e aq ⟨ac,aj,M,rfl,L,ae,N⟩;replace F:=F.stp ae N;clear H;go_wp2_with fail;refine (zao C g b c _ ac aj M 0 zbE _ L.o F.m).mono ?_;rintro e am ⟨Z,af,ai,rfl,I,O,U⟩;replace F:=F.stp O U;have H:=F.x2.boxC;unfold pv;go_upto_region 5 with fail;refine (F.put2 ..).cut ?_;clear H;intro ar F;have H:=F.x2.boxC;go_wp2_with fail;refine (zd7 C g b c _ Z af ai 0 2 n2 _ I.o F.m (zb9 I.o)).mono ?_;rintro e ap ⟨ao,an,al,rfl,K,ab,aa⟩;replace F:=F.stp ab aa;clear H;have bb:=F.x1.boxC;unfold pv;go_wp2;refine bodyPost_ret (zaH rfl _ _ (W.heap.size+1) 127 _ (0,0) _ rfl ((F.x1.put ..)).heap underlying127 rfl (by kernel_rfl)) rfl ?_;exact zm4 rfl (J.o.withN (F:=fun x n=>_) (fun _ _=>rfl) K.o) (F.put1 ..).m (F.put1 ..).t
