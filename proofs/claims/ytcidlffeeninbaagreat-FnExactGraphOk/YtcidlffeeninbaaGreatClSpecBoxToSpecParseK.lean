/-
  Boxes of a program under way,through calls and stores. No program is spoken of but for the numbers of its types.
  A row of pairs of names beside a program under way. No program is spoken of but for the numbers of its types.
  What spec's l4Tail answers: the walk.
  What spec's l4List answers: the walk.
  What spec's l4Part answers,if l4Sum answers so behind it: the walks.
  What spec's l4Part answers where no number and no bracket stands,in a script: the walks.
  What spec's l4Part answers where no number and no bracket stands: the walks.
  What spec's l4Part,l4Product and l4Sum answer: the walks of the two loops,and the three together.
  What spec's l4Let and l4Fn answer: the walks.
-/
import Derived.Test.YtcidlffeeninbaaGreatClSpecTreeToSpecParseE
import Derived.Deep.DeepCutAuto
namespace Go.Proofs.YtcidlffeeninbaaGreat
set_option maxRecDepth 100000
set_option maxHeartbeats 6400000
open Go.RowKit Go.PlainAid
abbrev set12 (w:World) (b:Nat) (x0 x1 x2 x3 x4 x5 x6 x7 x8 x9 x10 x11:Value):World:=
 ((((((((((((w.setCell ⟨b,0,none⟩ x0).setCell ⟨b,1,none⟩ x1).setCell ⟨b,2,none⟩ x2).setCell ⟨b,3,none⟩ x3).setCell ⟨b,4,none⟩ x4).setCell ⟨b,5,none⟩ x5).setCell ⟨b,6,none⟩ x6).setCell ⟨b,7,none⟩ x7).setCell ⟨b,8,none⟩ x8).setCell ⟨b,9,none⟩ x9).setCell ⟨b,10,none⟩ x10).setCell ⟨b,11,none⟩ x11)
theorem zhL (w:World) (a:Addr) (u:Value):(w.setCell a u).heap.size=w.heap.size:=by show (w.heap.modify _ _).size=_;simp
theorem zqS (w:World) (b:Nat) (I M H L J A z D E K q h:Value):(set12 w b I M H L J A z D E K q h).heap.size=w.heap.size:=by
 unfold set12
 simp only[zhL]
theorem zf8 {w:World} {b k:Nat} (h:k≠b) (K N I M J D A E H L z q:Value):(set12 w b K N I M J D A E H L z q).heap[k]? =w.heap[k]?:=by
 unfold set12
 rw[zv h,zv h,zv h,zv h,zv h,zv h,zv h,zv h,zv h,zv h,zv h,zv h]
structure Bx (gt:Nat) (S:Sv) (w:World) (b:Nat) (cs:Array Value):Prop where
 heap:w.heap[b]? =some (.cells cs 101 (0,0))
 free: ¬S.has b
 ne:b≠gt
theorem Bx.lt {q b:Nat} {S:Sv} {w:World} {z:Array Value} (h:Bx q S w b z):b<w.heap.size:=(Array.getElem?_eq_some_iff.1 h.heap).1
theorem Bx.stp {D b:Nat} {S A:Sv} {w q:World} {z:Array Value} (h:Bx D S w b z) (k:Stp S w A q):Bx D A q b z:=
 ⟨(k.block b h.lt h.free).trans h.heap,fun g=>(k.sub b g).elim h.free fun E=>by have:=h.lt;omega,h.ne⟩
theorem Bx.below {q b:Nat} {S:Sv} {w A:World} {z:Array Value} (h:Bx q S w b z) (k:Below w.heap.size w A):Bx q S A b z:=⟨(k.block b h.lt).trans h.heap,h.free,h.ne⟩
theorem Bx.alloc {q b:Nat} {S:Sv} {w:World} {z:Array Value} (h:Bx q S w b z) (o:Obj):Bx q S (w.alloc o) b z:=h.below ((Below.refl _ _).alloc (Nat.le_refl _) _)
theorem Bx.new {C:Cx} {D A z:Nat} {S:Sv} {q:PS} {w:World} (h:Mem C D A z S q w) (E:Array Value):Bx D S (w.alloc (.cells E 101 (0,0))) w.heap.size E:=
 ⟨heap_alloc_new w _,fun g=>by have:=(h.own.has g).2;omega,by have:=(zau h.tok).1;omega⟩
theorem Bx.set {q b:Nat} {S:Sv} {w:World} {z:Array Value} (h:Bx q S w b z) (i:Nat) (u:Value):Bx q S (w.setCell ⟨b,i,none⟩ u) b (z.setIfInBounds i u):=⟨zcy h.heap,h.free,h.ne⟩
theorem Bx.set_other {q b c:Nat} {S:Sv} {w:World} {z:Array Value} (h:Bx q S w b z) (A:b≠c) (i:Nat) (u:Value):Bx q S (w.setCell ⟨c,i,none⟩ u) b z:=⟨(zv A).trans h.heap,h.free,h.ne⟩
theorem Bx.put {L b:Nat} {S:Sv} {w:World} {X Y v2 Z v4 v5 v6 v7 v8 v9 A D:Value} (h:Bx L S w b #[X,Y,v2,Z,v4,v5,v6,v7,v8,v9,A,D]) (O H N U K E M J I V q z:Value):
  Bx L S (set12 w b O H N U K E M J I V q z) b #[O,H,N,U,K,E,M,J,I,V,q,z]:=⟨zbb h.heap,h.free,h.ne⟩
theorem Bx.other {D b c:Nat} {S:Sv} {w:World} {A:Array Value} (h:Bx D S w b A) (J:b≠c) (O V M U N H E I L K z q:Value):Bx D S (set12 w c O V M U N H E I L K z q) b A:=⟨(zf8 J ..).trans h.heap,h.free,h.ne⟩
theorem Bx.at1 {N b:Nat} {S:Sv} {w:World} {D O H K L A E M I J q z:Value} (h:Bx N S w b #[D,O,H,K,L,A,E,M,I,J,q,z]) (u:Value):Bx N S (w.setCell ⟨b,1,none⟩ u) b #[D,u,H,K,L,A,E,M,I,J,q,z]:=by simpa using h.set 1 u
theorem Bx.at11 {O b:Nat} {S:Sv} {w:World} {D K H L M A E N I J q z:Value} (h:Bx O S w b #[D,K,H,L,M,A,E,N,I,J,q,z]) (u:Value):Bx O S (w.setCell ⟨b,11,none⟩ u) b #[D,K,H,L,M,A,E,N,I,J,q,u]:=by simpa using h.set 11 u
theorem Bx.box {O b:Nat} {S:Sv} {w:World} {D K H L M A E N I J q z:Value} (h:Bx O S w b #[D,K,H,L,M,A,E,N,I,J,q,z]):Box w b D K H L M A E N I J q z:=zan h.heap
theorem Mem.set {C:Cx} {D A z b:Nat} {S:Sv} {q:PS} {w:World} (h:Mem C D A z S q w) {H:Array Value} (E:Bx D S w b H) (i:Nat) (u:Value):Mem C D A z S q (w.setCell ⟨b,i,none⟩ u):=
 ⟨h.own.keep fun k g=>zv (b:=k) fun e=>E.free (by rw[←e];exact g),h.inv,zbE h.tok (zv E.ne.symm),h.few,by rw[zhL];exact h.base⟩
theorem Mem.put {C:Cx} {H A z b:Nat} {S:Sv} {q:PS} {w:World} (h:Mem C H A z S q w) {O:Array Value} (I:Bx H S w b O) (X Z U Y V K J L N M E D:Value):Mem C H A z S q (set12 w b X Z U Y V K J L N M E D):=
 ⟨h.own.keep fun k g=>zf8 (k:=k) (fun e=>I.free (by rw[←e];exact g)) _ _ _ _ _ _ _ _ _ _ _ _,h.inv,zbE h.tok (zf8 I.ne.symm ..),h.few,by rw[zqS];exact h.base⟩
structure SB (B:Nat) (S:Sv) (w:World) (S':Sv) (w':World):Prop where
 os:w'.os=w.os
 tape:w'.tape=w.tape
 output:w'.output=w.output
 size:w.heap.size≤w'.heap.size
 low:B≤w.heap.size
 block: ∀k,k<B→¬S.has k→w'.heap[k]? =w.heap[k]?
 sub: ∀k,S'.has k→S.has k∨B≤k
theorem SB.start {S:Sv} {w q:World} (h:Below w.heap.size w q):SB w.heap.size S w S q:=⟨h.os,h.tape,h.output,h.size,Nat.le_refl _,fun k z _=>h.block k z,fun _ g=>.inl g⟩
theorem SB.step {B:Nat} {S H A:Sv} {w z D:World} (h:SB B S w H z) (k:Stp H z A D):SB B S w A D:=
 ⟨k.os.trans h.os,k.tape.trans h.tape,k.output.trans h.output,Nat.le_trans h.size k.size,h.low,
  fun i q E=>(k.block i (by have:=h.size;have:=h.low;omega) fun g=>(h.sub i g).elim E fun I=>by omega).trans (h.block i q E),
  fun i q=>(k.sub i q).elim (h.sub i) fun g=>.inr (by have:=h.size;have:=h.low;omega)⟩
theorem SB.below {B:Nat} {S z:Sv} {w q A:World} (h:SB B S w z q) (k:Below q.heap.size q A):SB B S w z A:=h.step (Stp.below k)
theorem SB.alloc {B:Nat} {S z:Sv} {w q:World} (h:SB B S w z q) (o:Obj):SB B S w z (q.alloc o):=h.below ((Below.refl _ _).alloc (Nat.le_refl _) _)
theorem SB.set {B:Nat} {S z:Sv} {w q:World} (h:SB B S w z q) {b:Nat} (E:B≤b) (i:Nat) (u:Value):SB B S w z (q.setCell ⟨b,i,none⟩ u):=
 ⟨h.os,h.tape,h.output,by rw[zhL];exact h.size,h.low,fun k D A=>(zv (by omega)).trans (h.block k D A),h.sub⟩
theorem SB.put {B:Nat} {S J:Sv} {w D:World} (h:SB B S w J D) {b:Nat} (q:B≤b) (N V L U M H E I K O A z:Value):SB B S w J (set12 D b N V L U M H E I K O A z):=
 (((((((((((h.set q 0 N).set q 1 V).set q 2 L).set q 3 U).set q 4 M).set q 5 H).set q 6 E).set q 7 I).set q 8 K).set q 9 O).set q 10 A).set q 11 z
theorem SB.done {S z:Sv} {w q:World} (h:SB w.heap.size S w z q):Stp S w z q:=⟨h.os,h.tape,h.output,h.size,h.block,h.sub⟩
theorem Mem.two {C:Cx} {J D z:Nat} {S:Sv} {q:PS} {w A:World} {I E:Array Value} (h:Mem C J D z S q w) (H:Below ((w.alloc (.cells I 101 (0,0))).alloc (.cells E 101 (0,0))).heap.size ((w.alloc (.cells I 101 (0,0))).alloc (.cells E 101 (0,0))) A):
  Bx J S A w.heap.size I∧Bx J S A (w.heap.size+1) E∧Mem C J D z S q A∧SB w.heap.size S w S A:=
 ⟨((Bx.new h _).alloc _).below H,by have:=(Bx.new (h.alloc (.cells I 101 (0,0))) E).below H;rw[zg] at this;exact this,h.later (zbg H),SB.start (zbg H)⟩
theorem Mem.two2 {C:Cx} {J I z:Nat} {S D:Sv} {q:PS} {w A:World} {H E:Array Value} (h:Mem C J I z S q w) (s:Stp S ((w.alloc (.cells H 101 (0,0))).alloc (.cells E 101 (0,0))) D A):
  Bx J D A w.heap.size H∧Bx J D A (w.heap.size+1) E∧SB w.heap.size S w D A:=
 ⟨((Bx.new h _).alloc _).stp s,by have:=(Bx.new (h.alloc (.cells H 101 (0,0))) E).stp s;rw[zg] at this;exact this,(SB.start (zbc w _ _)).step s⟩
theorem Bx.boxC {O b:Nat} {S:Sv} {w:World} {D K H L M A E N I J q z:Value} (h:Bx O S w b #[D,K,H,L,M,A,E,N,I,J,q,z]):w.cell? ⟨b,0,none⟩=some D∧w.cell? ⟨b,1,none⟩=some K∧w.cell? ⟨b,2,none⟩=some H∧w.cell? ⟨b,3,none⟩=some L∧w.cell? ⟨b,4,none⟩=some M∧w.cell? ⟨b,5,none⟩=some A∧w.cell? ⟨b,6,none⟩=some E∧w.cell? ⟨b,7,none⟩=some N∧w.cell? ⟨b,8,none⟩=some I∧w.cell? ⟨b,9,none⟩=some J∧w.cell? ⟨b,10,none⟩=some q∧w.cell? ⟨b,11,none⟩=some z∧∀i,w.frozen? ⟨b,i,none⟩=false:=
 have k:=h.box
 ⟨k.c0,k.c1,k.c2,k.c3,k.c4,k.c5,k.c6,k.c7,k.c8,k.c9,k.c10,k.c11,k.fz⟩
structure Fm (C:Cx) (gt cap base:Nat) (S0:Sv) (w0:World) (S:Sv) (q:PS) (bs:List (Nat×Array Value)) (w:World):Prop where
 x: ∀b∈bs,Bx gt S w b.1 b.2
 d:bs.Pairwise fun a b=>a.1≠b.1
 g: ∀b∈bs,w0.heap.size≤b.1
 m:Mem C gt cap base S q w
 t:SB w0.heap.size S0 w0 S w
section
variable {C:Cx} {gt cap base b b0 b1 b2 b3:Nat} {S0 S S1:Sv} {w0 w w1:World} {q q1:PS} {bs l1:List (Nat×Array Value)} {cs c0 c1 c2 c3:Array Value} {v0 v1 v2 v3 v4 v5 v6 v7 v8 v9 v10 v11:Value}
theorem Fm.x0 (F:Fm C gt cap base S0 w0 S q ((b0,c0)::bs) w):Bx gt S w b0 c0:=F.x _ (List.mem_cons_self ..)
theorem Fm.x1 (F:Fm C gt cap base S0 w0 S q ((b0,c0)::(b1,c1)::bs) w):Bx gt S w b1 c1:=F.x (b1,c1) (by simp)
theorem Fm.x2 (F:Fm C gt cap base S0 w0 S q ((b0,c0)::(b1,c1)::(b2,c2)::bs) w):Bx gt S w b2 c2:=F.x (b2,c2) (by simp)
theorem Fm.x3 (F:Fm C gt cap base S0 w0 S q ((b0,c0)::(b1,c1)::(b2,c2)::(b3,c3)::bs) w):Bx gt S w b3 c3:=F.x (b3,c3) (by simp)
theorem Fm.below (F:Fm C gt cap base S0 w0 S q bs w) (k:Below w.heap.size w w1):Fm C gt cap base S0 w0 S q bs w1:=⟨fun b h=>(F.x b h).below k,F.d,F.g,F.m.later k,F.t.below k⟩
theorem Fm.stp (F:Fm C gt cap base S0 w0 S q bs w) (m:Mem C gt cap base S1 q1 w1) (k:Stp S w S1 w1):Fm C gt cap base S0 w0 S1 q1 bs w1:=⟨fun b h=>(F.x b h).stp k,F.d,F.g,m,F.t.step k⟩
theorem Fm.alloc (F:Fm C gt cap base S0 w0 S q bs w) (o:Obj):Fm C gt cap base S0 w0 S q bs (w.alloc o):=F.below ((Below.refl _ _).alloc (Nat.le_refl _) _)
theorem Fm.adv (F:Fm C gt cap base S0 w0 S q bs w) (h:q.pos<C.ts.length):Fm C gt cap base S0 w0 S (adv q) bs w:=⟨F.x,F.d,F.g,F.m.adv h,F.t⟩
theorem Fm.new (F:Fm C gt cap base S0 w0 S q bs w) (z:Array Value):Fm C gt cap base S0 w0 S q (bs++[(w.heap.size,z)]) (w.alloc (.cells z 101 (0,0))):=by
 refine⟨fun b h=>?_,?_,fun b h=>?_,F.m.alloc _,F.t.alloc _⟩
 ·rcases List.mem_append.1 h with h|h
  ·exact (F.x b h).alloc _
  ·rw[List.mem_singleton.1 h];exact Bx.new F.m z
 ·refine List.pairwise_append.2 ⟨F.d,List.pairwise_singleton _ _,fun a A b D=>?_⟩
  rw[List.mem_singleton.1 D]
  exact Nat.ne_of_lt (F.x a A).lt
 ·rcases List.mem_append.1 h with h|h
  ·exact F.g b h
  ·rw[List.mem_singleton.1 h];exact F.t.size
theorem Fm.new2 (F:Fm C gt cap base S0 w0 S q [(b0,c0),(b1,c1)] w) (h:Array Value):Fm C gt cap base S0 w0 S q [(b0,c0),(b1,c1),(w.heap.size,h)] (w.alloc (.cells h 101 (0,0))):=F.new h
theorem Fm.new3 (F:Fm C gt cap base S0 w0 S q [(b0,c0),(b1,c1),(b2,c2)] w) (h:Array Value):Fm C gt cap base S0 w0 S q [(b0,c0),(b1,c1),(b2,c2),(w.heap.size,h)] (w.alloc (.cells h 101 (0,0))):=F.new h
theorem Fm.turn (F:Fm C gt cap base S0 w0 S q (l1++(b,cs)::bs) w) (K:Bx gt S w1 b c0) (A: ∀k,k≠b→∀c,Bx gt S w k c→Bx gt S w1 k c) (N:Mem C gt cap base S q w1) (I:SB w0.heap.size S0 w0 S w1):Fm C gt cap base S0 w0 S q (l1++(b,c0)::bs) w1:=by
 obtain⟨J,M,z⟩:=List.pairwise_append.1 F.d
 obtain⟨E,L⟩:=List.pairwise_cons.1 M
 refine⟨fun a h=>?_,List.pairwise_append.2 ⟨J,List.pairwise_cons.2 ⟨E,L⟩,fun a D c H=>?_⟩,fun a h=>?_,N,I⟩
 ·rcases List.mem_append.1 h with h|h
  ·exact A _ (z a h _ (List.mem_cons_self ..)) _ (F.x a (List.mem_append_left _ h))
  ·rcases List.mem_cons.1 h with h|h
   ·rw[h];exact K
   ·exact A _ (E a h).symm _ (F.x a (List.mem_append_right _ (List.mem_cons_of_mem _ h)))
 ·rcases List.mem_cons.1 H with h|h
  ·rw[h];exact z a D (b,cs) (List.mem_cons_self ..)
  ·exact z a D c (List.mem_cons_of_mem _ h)
 ·rcases List.mem_append.1 h with h|h
  ·exact F.g a (List.mem_append_left _ h)
  ·rcases List.mem_cons.1 h with h|h
   ·rw[h];exact F.g (b,cs) (List.mem_append_right _ (List.mem_cons_self ..))
   ·exact F.g a (List.mem_append_right _ (List.mem_cons_of_mem _ h))
theorem Fm.put (F:Fm C gt cap base S0 w0 S q (l1++(b,#[v0,v1,v2,v3,v4,v5,v6,v7,v8,v9,v10,v11])::bs) w) (K O J N L E D H I M A z:Value):Fm C gt cap base S0 w0 S q (l1++(b,#[K,O,J,N,L,E,D,H,I,M,A,z])::bs) (set12 w b K O J N L E D H I M A z):=
 have h:Bx gt S w b #[v0,v1,v2,v3,v4,v5,v6,v7,v8,v9,v10,v11]:=F.x (b,_) (List.mem_append_right _ (List.mem_cons_self ..))
 F.turn (h.put ..) (fun _ V _ U=>U.other V ..) (F.m.put h ..) (F.t.put (F.g (b,_) (List.mem_append_right _ (List.mem_cons_self ..))) ..)
theorem Fm.put0 (F:Fm C gt cap base S0 w0 S q ((b,#[v0,v1,v2,v3,v4,v5,v6,v7,v8,v9,v10,v11])::bs) w) (J N I M K D A E H L z h:Value):Fm C gt cap base S0 w0 S q ((b,#[J,N,I,M,K,D,A,E,H,L,z,h])::bs) (set12 w b J N I M K D A E H L z h):=Fm.put (l1:=[]) F ..
theorem Fm.put1 (F:Fm C gt cap base S0 w0 S q ((b0,c0)::(b,#[v0,v1,v2,v3,v4,v5,v6,v7,v8,v9,v10,v11])::bs) w) (J N I M K D A E H L z h:Value):Fm C gt cap base S0 w0 S q ((b0,c0)::(b,#[J,N,I,M,K,D,A,E,H,L,z,h])::bs) (set12 w b J N I M K D A E H L z h):=Fm.put (l1:=[(b0,c0)]) F ..
theorem Fm.put2 (F:Fm C gt cap base S0 w0 S q ((b0,c0)::(b1,c1)::(b,#[v0,v1,v2,v3,v4,v5,v6,v7,v8,v9,v10,v11])::bs) w) (J N I M K D A E H L z h:Value):Fm C gt cap base S0 w0 S q ((b0,c0)::(b1,c1)::(b,#[J,N,I,M,K,D,A,E,H,L,z,h])::bs) (set12 w b J N I M K D A E H L z h):=Fm.put (l1:=[(b0,c0),(b1,c1)]) F ..
theorem Fm.put3 (F:Fm C gt cap base S0 w0 S q ((b0,c0)::(b1,c1)::(b2,c2)::(b,#[v0,v1,v2,v3,v4,v5,v6,v7,v8,v9,v10,v11])::bs) w) (J N I M K D A E H L z h:Value):Fm C gt cap base S0 w0 S q ((b0,c0)::(b1,c1)::(b2,c2)::(b,#[J,N,I,M,K,D,A,E,H,L,z,h])::bs) (set12 w b J N I M K D A E H L z h):=Fm.put (l1:=[(b0,c0),(b1,c1),(b2,c2)]) F ..
theorem Fm.set0_1 (F:Fm C gt cap base S0 w0 S q ((b,#[v0,v1,v2,v3,v4,v5,v6,v7,v8,v9,v10,v11])::bs) w) (u:Value):Fm C gt cap base S0 w0 S q ((b,#[v0,u,v2,v3,v4,v5,v6,v7,v8,v9,v10,v11])::bs) (w.setCell ⟨b,1,none⟩ u):=
 have h:Bx gt S w b #[v0,v1,v2,v3,v4,v5,v6,v7,v8,v9,v10,v11]:=F.x (b,_) (by simp)
 Fm.turn (l1:=[]) F (h.at1 u) (fun _ A _ z=>z.set_other A 1 u) (F.m.set h 1 u) (F.t.set (F.g (b,#[v0,v1,v2,v3,v4,v5,v6,v7,v8,v9,v10,v11]) (by simp)) 1 u)
theorem Fm.set0_11 (F:Fm C gt cap base S0 w0 S q ((b,#[v0,v1,v2,v3,v4,v5,v6,v7,v8,v9,v10,v11])::bs) w) (u:Value):Fm C gt cap base S0 w0 S q ((b,#[v0,v1,v2,v3,v4,v5,v6,v7,v8,v9,v10,u])::bs) (w.setCell ⟨b,11,none⟩ u):=
 have h:Bx gt S w b #[v0,v1,v2,v3,v4,v5,v6,v7,v8,v9,v10,v11]:=F.x (b,_) (by simp)
 Fm.turn (l1:=[]) F (h.at11 u) (fun _ A _ z=>z.set_other A 11 u) (F.m.set h 11 u) (F.t.set (F.g (b,#[v0,v1,v2,v3,v4,v5,v6,v7,v8,v9,v10,v11]) (by simp)) 11 u)
theorem Fm.set2_1 (F:Fm C gt cap base S0 w0 S q ((b0,c0)::(b1,c1)::(b,#[v0,v1,v2,v3,v4,v5,v6,v7,v8,v9,v10,v11])::bs) w) (u:Value):Fm C gt cap base S0 w0 S q ((b0,c0)::(b1,c1)::(b,#[v0,u,v2,v3,v4,v5,v6,v7,v8,v9,v10,v11])::bs) (w.setCell ⟨b,1,none⟩ u):=
 have h:Bx gt S w b #[v0,v1,v2,v3,v4,v5,v6,v7,v8,v9,v10,v11]:=F.x (b,_) (by simp)
 Fm.turn (l1:=[(b0,c0),(b1,c1)]) F (h.at1 u) (fun _ A _ z=>z.set_other A 1 u) (F.m.set h 1 u) (F.t.set (F.g (b,#[v0,v1,v2,v3,v4,v5,v6,v7,v8,v9,v10,v11]) (by simp)) 1 u)
theorem Fm.of2 (D:Bx gt S w b0 c0) (H:Bx gt S w b1 c1) (m:Mem C gt cap base S q w) (t:SB w0.heap.size S0 w0 S w) (h:b0≠b1) (E:w0.heap.size≤b0) (A:w0.heap.size≤b1):Fm C gt cap base S0 w0 S q [(b0,c0),(b1,c1)] w:=by
 refine⟨fun b z=>?_,by simp[h],fun b z=>?_,m,t⟩
 ·simp at z
  rcases z with rfl|rfl
  ·exact D
  ·exact H
 ·simp at z
  rcases z with rfl|rfl
  ·exact E
  ·exact A
theorem Fm.cut {P:Program} {z:Code} {Q:Exit→Act→World→Prop} {a:Act} (F:Fm C gt cap base S0 w0 S q bs w) (h: ∀W,Fm C gt cap base S0 w0 S q bs W→Code.wp P z Q a W):Code.wp P z Q a w:=h w F
theorem Fm.cutR {P:Program} {z:Code} {Q:Exit→Act→World→Prop} {a:Act} {RW:World→Prop} (F:Fm C gt cap base S0 w0 S q bs w) (r:RW w) (h: ∀W,Fm C gt cap base S0 w0 S q bs W→RW W→Code.wp P z Q a W):Code.wp P z Q a w:=h w F r
theorem Mem.fm {A z:Array Value} (h:Mem C gt cap base S q w) (D:Below ((w.alloc (.cells A 101 (0,0))).alloc (.cells z 101 (0,0))).heap.size ((w.alloc (.cells A 101 (0,0))).alloc (.cells z 101 (0,0))) w1):Fm C gt cap base S w S q [(w.heap.size,A),(w.heap.size+1,z)] w1:=
 have⟨h1,h2,h3,h4⟩:=h.two D
 Fm.of2 h1 h2 h3 h4 (by omega) (by omega) (by omega)
theorem Mem.fm2 {A z:Array Value} (h:Mem C gt cap base S q w) (m:Mem C gt cap base S1 q1 w1) (s:Stp S ((w.alloc (.cells A 101 (0,0))).alloc (.cells z 101 (0,0))) S1 w1):Fm C gt cap base S w S1 q1 [(w.heap.size,A),(w.heap.size+1,z)] w1:=
 have⟨h1,h2,h3⟩:=h.two2 s
 Fm.of2 h1 h2 m h3 (by omega) (by omega) (by omega)
end
theorem zac {C:Cx} {D q h:Nat} {y:PR} {d:Nat} {S z:Sv} {w A:World} {q':PS} {z':Int} {v:Value} (E:v=pv C D q z q' z' d) (I:Is y q' z') (J:Mem C D q h z q' A) (H:SB w.heap.size S w z A):Out C D q h y d S w (.returned v) A:=
 ⟨z,q',z',by rw[E],I,J,H.done⟩
structure Row (S:Sv) (w:World) (base B:Nat) (r:Rw) (l:List Ep):Prop where
 own:OwnR w base 82 4 r l.length (l.flatMap epL)
 free: ∀k,r.blk=some k→¬S.has k
 new: ∀k,r.blk=some k→B≤k
 addr: ∃g,r.a=some ⟨g,0,none⟩
theorem Row.ne {E b:Nat} {S:Sv} {w:World} {q B:Nat} {r:Rw} {l:List Ep} {A:Array Value} (h:Row S w q B r l) (z:Bx E S w b A): ∀k,r.blk=some k→k≠b:=by
 rintro k D rfl
 obtain⟨_,_,c,g⟩:=h.own.typed D
 rw[z.heap] at g
 simp only[Option.some.injEq,Obj.cells.injEq] at g
 exact absurd g.2.1 (by decide)
theorem Row.stp {S D:Sv} {w A:World} {q B:Nat} {r:Rw} {l:List Ep} (h:Row S w q B r l) (s:Stp S w D A):Row D A q B r l:=
 ⟨h.own.keep fun k z=>s.block k (h.own.typed z).2.1 (h.free k z),fun k z g=>(s.sub k g).elim (h.free k z) fun E=>by have:=(h.own.typed z).2.1;omega,h.new,h.addr⟩
theorem Row.below {S:Sv} {w z:World} {q B:Nat} {r:Rw} {l:List Ep} (h:Row S w q B r l) (s:Below w.heap.size w z):Row S z q B r l:=h.stp (Stp.below s)
theorem Row.alloc {S:Sv} {w:World} {q B:Nat} {r:Rw} {l:List Ep} (h:Row S w q B r l) (o:Obj):Row S (w.alloc o) q B r l:=h.below ((Below.refl _ _).alloc (Nat.le_refl _) _)
theorem Row.drew {S:Sv} {w:World} {q B:Nat} {r:Rw} {l:List Ep} (h:Row S w q B r l):Row S w.drew q B r l:=⟨h.own,h.free,h.new,h.addr⟩
theorem Row.set {E b:Nat} {S:Sv} {w:World} {q B:Nat} {r:Rw} {l:List Ep} {A:Array Value} (h:Row S w q B r l) (z:Bx E S w b A) (i:Nat) (u:Value):Row S (w.setCell ⟨b,i,none⟩ u) q B r l:=
 ⟨h.own.keep fun k D=>zv (h.ne z k D),h.free,h.new,h.addr⟩
theorem Row.put {V b:Nat} {S:Sv} {w:World} {q B:Nat} {r:Rw} {l:List Ep} {L:Array Value} (h:Row S w q B r l) (J:Bx V S w b L) (O Y M X N E D H K I A z:Value):Row S (set12 w b O Y M X N E D H K I A z) q B r l:=
 ⟨h.own.keep fun k U=>zf8 (h.ne J k U) _ _ _ _ _ _ _ _ _ _ _ _,h.free,h.new,h.addr⟩
theorem Row.nil {C:Cx} {E D z B:Nat} {S:Sv} {q:PS} {w:World} (h:Mem C E D z S q w) (hB:B≤w.heap.size):Row S (w.alloc (.cells #[] 82 (0,0))) z B ⟨some ⟨w.heap.size,0,none⟩,0⟩ []:=by
 refine⟨World.ownsRow_lit w #[] 0 h.base (by unfold maxLen;omega) rfl,fun k A g=>?_,fun k A=>?_,⟨_,rfl⟩⟩
 ·simp only[Rw.blk,Value.ownBlock,Option.some.injEq] at A
  have:=(h.own.has g).2
  omega
 ·simp only[Rw.blk,Value.ownBlock,Option.some.injEq] at A
  omega
theorem Row.grow {C:Cx} {M I w B:Nat} {S:Sv} {q:PS} {W E:World} {r J:Rw} {l:List Ep} {x:Ep} (h:Row S W w B r l) (D:Mem C M I w S q W) (hB:B≤W.heap.size) (N:W.grownBy E r.blk) (O:OwnR E w 82 4 J (l.length+1) (l.flatMap epL++epL x)) (H:J.blk=r.blk∨J.blk=some W.heap.size):
  Row S E w B J (l++[x])∧Mem C M I w S q E:=by
 refine⟨⟨?_,fun k A g=>?_,fun k A=>?_,O.addr.resolve_left (by omega)⟩,?_⟩
 ·have e:(l++[x]).length=l.length+1:=by simp
  rw[e]
  simpa using O
 ·rcases H with e|e
  ·exact h.free k (by rw[←e];exact A) g
  ·have U:W.heap.size=k:=Option.some.inj (e.symm.trans A)
   have:=(D.own.has g).2
   omega
 ·rcases H with e|e
  ·exact h.new k (by rw[←e];exact A)
  ·have U:W.heap.size=k:=Option.some.inj (e.symm.trans A)
   omega
 ·have z: ∀k,k<W.heap.size→r.blk≠some k→E.heap[k]? =W.heap[k]?:=fun k A K=>N.block k A fun e=>K e.symm
  refine⟨D.own.keep fun k A=>z k (D.own.has A).2 fun e=>h.free k e A,D.inv,zbE D.tok (z M (zau D.tok).1 fun e=>?_),D.few,Nat.le_trans D.base N.size⟩
  obtain⟨_,_,c,g⟩:=h.own.typed e
  obtain⟨V,L⟩:=zfT D.tok
  rw[g] at L
  simp only[Option.some.injEq,Obj.cells.injEq] at L
  exact absurd L.2.1 (by decide)
theorem Row.bx {D b:Nat} {S:Sv} {W z:World} {q B:Nat} {r:Rw} {l:List Ep} {A:Array Value} (h:Row S W q B r l) (w:Bx D S W b A) (E:W.grownBy z r.blk):Bx D S z b A:=
 ⟨(E.block b w.lt fun e=>h.ne w b e.symm rfl).trans w.heap,w.free,w.ne⟩
theorem Row.sb {S S0:Sv} {w W D:World} {z:Nat} {B:Nat} {r:Rw} {l:List Ep} (h:Row S W z B r l) (q:SB B S0 w S W) (A:W.grownBy D r.blk):SB B S0 w S D:=
 ⟨A.os.trans q.os,A.tape.trans q.tape,A.output.trans q.output,Nat.le_trans q.size A.size,q.low,fun k H E=>(A.block k (by have:=q.size;have:=q.low;omega) fun e=>by have:=h.new k e.symm;omega).trans (q.block k H E),q.sub⟩
theorem Mem.list3 {C:Cx} {J I z:Nat} {S D:Sv} {q:PS} {w A:World} {H E:Array Value} (h:Mem C J I z S q w) (s:Stp S (((w.alloc (.cells H 101 (0,0))).alloc (.cells E 101 (0,0))).alloc (.cells #[] 82 (0,0))) D A):
  Bx J D A w.heap.size H∧Bx J D A (w.heap.size+1) E∧Row D A z w.heap.size ⟨some ⟨w.heap.size+1+1,0,none⟩,0⟩ []∧SB w.heap.size S w D A:=by
 refine⟨(((Bx.new h _).alloc _).alloc _).stp s,?_,?_,(SB.start (zdc w _ _ _)).step s⟩
 ·have:=((Bx.new (h.alloc (.cells H 101 (0,0))) E).alloc (.cells #[] 82 (0,0))).stp s
  rw[zg] at this
  exact this
 ·have:=(Row.nil (B:=w.heap.size) ((h.alloc (.cells H 101 (0,0))).alloc (.cells E 101 (0,0))) (zbc w _ _).size).stp s
  rw[zcN] at this
  exact this
def Is3 (y:PRL) (q:PS) (z:Int) (l:List Ep):Prop:=
 match y with
 | .ok a=>q=a.1∧z= -1∧l=a.2
 | .error e=>z=(e:Int)
def zqT (C:Cx) (gt cap base:Nat) (y:PRL) (d:Nat) (S:Sv) (w:World) (e:Ending) (w':World):Prop:=
 ∃S' q' z' r l,e= .returned (.tuple #[pv C gt cap S' q' z' d,.slice r.a l.length r.cap,.bool (zaE l)])∧Is3 y q' z' l∧Mem C gt cap base S' q' w'∧Stp S w S' w'∧Row S' w' base w.heap.size r l∧l.length≤4001
theorem zk7 (l:List Ep) (x:Ep):zaE (l++[x])=(zaE l||(x.loc.toList==[100,101,102,97,117,108,116])):=by simp[zaE]
theorem zqU {z:Func} {p u v:Tmp} {A:TypeId} (h:z.results= #[.cell p A,.tmp u,.tmp v]) (tmps:Array Value) (P:Program) (w:World):
  (results z tmps).run P w=((asAddr (tmps.getD p undef)).run P w).andThen fun a D=>((loadVar A a).run P D).andThen fun x q=>.ok (.tuple #[x,tmps.getD u undef,tmps.getD v undef]) q:=by
 simp only[results,h]
 simp[Sem.run_bind,Result.andThen]
theorem zk8 {P:Program} {A:Func} {p u v:Tmp} {q:TypeId} (h:A.results= #[.cell p q,.tmp u,.tmp v]) (tmps:Array Value) (w:World) (g:Nat) (t:TypeId) (z:Array Value) (D:Nat×Nat) (d:TypeDesc)
  (E:tmps.getD p undef= .pointer (some ⟨g,0,none⟩)) (I:w.heap[g]? =some (.cells z t D))
  (J:P.underlying q=some d) (H:(match d with| .struct _| .array _ _=>true|_=>false)=true) (K:(P.info? q).map (·.size)=some z.size):
  (results A tmps).run P w= .ok (.tuple #[.agg z,tmps.getD u undef,tmps.getD v undef]) w:=by
 rw[zqU h,E]
 simp[asAddr,Result.andThen,run_loadVar_row w g t q z D d I J H K]
theorem zbu {C:Cx} {x:PR} {k:Int} {s:ByteArray} {q:PS} {z:Int} (h:Is (bd x (zd C k s)) q z):z<0→1≤q.pos:=by
 intro w
 obtain⟨e,_⟩:=zaG h w
 obtain⟨a,_,A⟩:=zm e
 obtain⟨rfl,_⟩:=zbO A
 simp[adv]
theorem zhM (C:Cx) (D z h:Nat) (S:Sv) (q:PS) (d:Nat) (E:ByteArray) (w:World) (M:Mem C D z h S q w) (hp:1≤q.pos):
  Calls Tryz.prog 191 #[pv C D z S q (-1) d,.string E] w (Out C D z h (zbB C E q) d S w):=by
 have HM:=zc M
 have A:=M.tok
 have H:=M.few
 clear M
 cases N:isT C q.pos 4 zo with
 |true=>
  have U:Hid (zbB C E q=bd (bd (bd (.ok q) (zd C 4 zo)) (zd C 4 za7)) (zQ C ⟨3,0,E,sNone,0,0⟩)):=if_pos N
  unfold pv
  go_enter Tryz.func191,Tryz.ntmps191
  go_wp2_with fail
  refine (zj C D z h S q (-1) d 4 zo _ (zr (zr A _) _) H (by decide)).mono ?_
  rintro e w1 ⟨rfl,J⟩
  rw[N]
  have F:=HM.out.fm J
  clear A
  have K:=F.x0.boxC
  go_wp2_with fail
  refine (zai C D z h (.ok q) S q (-1) d zo _ (zaa q) F.m).mono ?_
  rintro e w2 ⟨S2,Z,Y,rfl,I,X,O⟩
  replace F:=F.stp X O
  clear K
  go_wp2_with fail
  refine (zai C D z h _ S2 Z Y d za7 _ I.out F.m).mono ?_
  rintro e w3 ⟨S3,q3,z3,rfl,L,m3,s3⟩
  replace F:=F.stp m3 s3
  have K:=F.x0.boxC
  unfold pv
  go_wp2_with fail
  refine (zdd C D z h _ S3 q3 z3 d ⟨3,0,E,sNone,0,0⟩ _ L.out (F.put0 ..).m (zbu L.out)).mono ?_
  rintro e w4 ⟨S4,q4,z4,rfl,V,m4,s4⟩
  replace F:=(F.put0 ..).stp m4 s4
  clear K
  have bb:=F.x1.boxC
  unfold pv
  go_wp2
  refine bodyPost_ret (results_cell_row rfl _ _ (w.heap.size+1) 101 _ (0,0) _ rfl ((F.x1.put ..)).heap Tryz.underlying101 rfl (by kernel_rfl)) rfl ?_
  rw[U.out]
  exact zac rfl V.out (F.put1 ..).m (F.put1 ..).t
 |false=>
  have U:Hid (zbB C E q=bd (.ok q) (zQ C ⟨2,0,E,sNone,0,0⟩)):=by show zbB C E q=_;rw[zbB,N];rfl
  unfold pv
  go_enter Tryz.func191,Tryz.ntmps191
  go_wp2_with fail
  refine (zj C D z h S q (-1) d 4 zo _ (zr (zr A _) _) H (by decide)).mono ?_
  rintro e w1 ⟨rfl,J⟩
  rw[N]
  have F:=HM.out.fm J
  clear A
  have K:=F.x0.boxC
  go_wp2_with fail
  refine (zdd C D z h (.ok q) S q (-1) d ⟨2,0,E,sNone,0,0⟩ _ (zaa q) F.m (fun _=>hp)).mono ?_
  rintro e w2 ⟨S2,Z,Y,rfl,I,X,O⟩
  replace F:=F.stp X O
  clear K
  have bb:=F.x1.boxC
  unfold pv
  go_wp2
  refine bodyPost_ret (results_cell_row rfl _ _ (w.heap.size+1) 101 _ (0,0) _ rfl ((F.x1.put ..)).heap Tryz.underlying101 rfl (by kernel_rfl)) rfl ?_
  rw[U.out]
  exact zac rfl I.out (F.put1 ..).m (F.put1 ..).t
theorem zqV {C:Cx} {q:Bool} {l:List Ep} {Y:PRN} {L I:ByteArray} {O D H:PS} {N E J:Int} (M:Is2 Y O N L) (w:Is2 (bd Y (asP C q)) D E I) (A:(decide (E<0)&&isT C D.pos 4 zbA)=false) (h:Is (bd (zaR (bd Y (asP C q))) (zd C 4 zbx)) H J):
  Is3 (bd Y fun a=>bd (asP C q a) fun b=>if isT C b.1.pos 4 zbA then za3 C q (adv b.1) (l++[⟨0,b.2,a.2,sNone⟩]) else bd (zd C 4 zbx b.1) fun q'=>.ok (q',l++[⟨0,b.2,a.2,sNone⟩])) H J (l++[⟨0,I,L,sNone⟩]):=by
 cases Y with
 |error e=>exact h
 |ok a=>
  obtain⟨_,_,rfl⟩:=M
  rw[zA] at w h ⊢
  cases z:asP C q a with
  |error e=>rw[z] at h;exact h
  |ok b=>
   rw[z] at w h
   obtain⟨rfl,rfl,rfl⟩:=w
   rw[Bool.and_eq_false_iff] at A
   rw[zA,A.resolve_left (by decide)]
   have e:bd (zaR (.ok b)) (zd C 4 zbx)=zd C 4 zbx b.1:=rfl
   rw[e] at h
   show Is3 (bd (zd C 4 zbx b.1) _) _ _ _
   cases K:zd C 4 zbx b.1 with
   |error e=>rw[K] at h;exact h
   |ok c=>rw[K] at h;exact⟨h.1,h.2,rfl⟩
theorem zqW {C:Cx} {w:Bool} {l:List Ep} {z N D:PS} {J K:ByteArray} {M A:Int} (E:Is2 (bd (.ok z) (zl C true)) N M J) (h:Is2 (bd (bd (.ok z) (zl C true)) (asP C w)) D A K) (O:A<0) (L:isT C D.pos 4 zbA=true):
  (bd (.ok z) fun q=>za3 C w q l)=(bd (.ok (adv D)) fun q=>za3 C w q (l++[⟨0,K,J,sNone⟩]))∧z.pos+1≤D.pos:=by
 rw[zA] at E h ⊢
 rw[zA,zfU]
 cases I:zl C true z with
 |error e=>rw[I] at h;have:A=(e:Int):=h;omega
 |ok a=>
  rw[I] at E h
  obtain⟨_,_,rfl⟩:=E
  rw[zA] at h ⊢
  obtain⟨rfl,_⟩:=zby I
  cases H:asP C w (adv z,(ze C z.pos).text) with
  |error e=>rw[H] at h;have:A=(e:Int):=h;omega
  |ok b=>
   rw[H] at h
   obtain⟨rfl,rfl,rfl⟩:=h
   have:=zfi H
   rw[zA,L]
   exact⟨rfl,this⟩
theorem zqX {C:Cx} {h:Bool} {x:PR} {q w:PS} {z A:Int} {l:List Ep} (E:Is x q z) (D: ¬z<0) (H:Is (bd x (zd C 4 zbx)) w A):Is3 (bd x fun q=>za3 C h q l) w A l:=by
 obtain⟨e,rfl,_⟩:=zd1 E D
 exact H
theorem zqY {C:Cx} {h:Bool} {Y:PRN} {w D:PS} {q H:Int} {J A:ByteArray} (z:Is2 Y w q J) (E:(decide (q<0)&&isT C w.pos 1 sAs)=true) (I:Is2 (bd (.ok (adv w)) (zl C h)) D H A):Is2 (bd Y (asP C h)) D H A:=by
 rw[Bool.and_eq_true,decide_eq_true_eq] at E
 cases Y with
 |error e=>have:q=(e:Int):=z;omega
 |ok a=>
  obtain⟨rfl,_,_⟩:=z
  rw[zA,asP,if_pos E.2]
  exact I
theorem zqZ {C:Cx} {z:Bool} {Y:PRN} {w:PS} {q:Int} {A:ByteArray} (D:Is2 Y w q A) (E:(decide (q<0)&&isT C w.pos 1 sAs)=false) (H:((A.toList==[100,101,102,97,117,108,116])&& !z)=true):Is2 (bd Y (asP C z)) w (zb2 C w.pos q) A:=by
 cases Y with
 |error e=>
  have h:q=(e:Int):=D
  show zb2 C w.pos q=(e:Int)
  rw[zb2,if_neg (by omega)]
  exact h
 |ok a=>
  obtain⟨rfl,rfl,rfl⟩:=D
  rw[Bool.and_eq_false_iff] at E
  rw[zA,asP,E.resolve_left (by decide),H]
  rfl
theorem zk9 {C:Cx} {h:Bool} {Y:PRN} {w:PS} {q:Int} {z:ByteArray} (A:Is2 Y w q z) (D:(decide (q<0)&&isT C w.pos 1 sAs)=false) (E:((z.toList==[100,101,102,97,117,108,116])&& !h)=false):Is2 (bd Y (asP C h)) w q z:=by
 cases Y with
 |error e=>exact A
 |ok a=>
  obtain⟨rfl,rfl,rfl⟩:=A
  rw[Bool.and_eq_false_iff] at D
  rw[zA,asP,D.resolve_left (by decide),E]
  exact⟨rfl,rfl,rfl⟩
theorem zkA (C:Cx) (H A h:Nat) (S:Sv) (q:PS) (d:Nat) (M:Bool) (w:World) (hm:Mem C H A h S q w):
  Calls Tryz.prog 131 #[pv C H A S q (-1) d,.bool M] w (zqT C H A h (zcZ C M q) d S w):=by
 obtain⟨i0,hi,aA,az,ay⟩:=info_parts Tryz.infoExp
 have HM:=zc hm
 have N:=hm.few
 clear hm
 unfold pv
 go_enter Tryz.func131,Tryz.ntmps131
 go_wp2_with fail
 refine (zai C H A h (.ok q) S q (-1) d zM _ (zaa q) (((HM.out.alloc _).alloc _).alloc _)).mono ?_
 rintro e w1 ⟨S1,q1,z1,rfl,aq,m1,s1⟩
 obtain⟨X0,X1,R0,t1⟩:=HM.out.list3 s1
 have F:=Fm.of2 X0 X1 m1 t1 (by omega) (by omega) (by omega)
 have z:=zc R0
 clear m1 s1 X0 X1 R0 t1
 have D:=F.x0.boxC
 unfold pv
 go_wp2
 go_loopg [7,8] (C.ts.length+1) (fun k o an wr=>∃(x':PR) (K:Sv) (V:PS) (z':Int) (r:Rw) (l:List Ep),Is x' V z'∧bd x' (fun q=>za3 C M q l)=zcZ C M q∧(z'<0→C.ts.length-V.pos<k)∧(l.length≤V.pos∨l=[])∧o= .slice r.a l.length r.cap∧an= .bool (zaE l)∧Mem C H A h K V wr∧SB w.heap.size S w K wr∧Bx H K wr w.heap.size #[.slice (some ⟨H,0,none⟩) C.ts.length A,.int .i64 V.pos,.int .i64 C.fin,.bool C.scr,.slice K.rq.a V.rq.length K.rq.cap,.slice K.im.a V.im.length K.im.cap,.slice K.ep.a V.ep.length K.ep.cap,.slice K.st.a V.st.length K.st.cap,.slice K.ex.a V.ex.length K.ex.cap,.slice K.la.a V.la.length K.la.cap,.int .i64 z',.int .i64 d]∧Bx H K wr (w.heap.size+1) #[.slice none 0 0,.int .i64 0,.int .i64 0,.bool false,.slice none 0 0,.slice none 0 0,.slice none 0 0,.slice none 0 0,.slice none 0 0,.slice none 0 0,.int .i64 0,.int .i64 0]∧Row K wr h w.heap.size r l)
 case atStart=>exact⟨_,S1,q1,z1,_,[],aq.out,rfl,fun _=>by omega,.inr rfl,rfl,rfl,(F.put0 ..).m,(F.put0 ..).t,(F.put0 ..).x0,(F.put0 ..).x1,(z.out.put F.x0 ..)⟩
 case round=>
  obtain⟨x2,S2,q2,z2,r,l,i2,e2,l2,n2,rfl,rfl,m2,t2,X0,X1,R0⟩:=hrel
  have F:=Fm.of2 X0 X1 m2 t2 (by omega) (by omega) (by omega)
  have ae:=zc i2
  have ad:=zc e2
  have ao:=zc l2
  have z:=zc R0
  have aE:l.length≤4000:=n2.elim (fun g=>by have:=m2.inv.pos;omega) (fun g=>by rw[g];simp)
  have al:=zc n2
  clear X0 X1 i2 m2 t2 e2 l2 R0 n2
  by_cases hz:z2<0
  ·skip
   obtain⟨rfl,rfl⟩:=zaG ae.out hz
   have aD:=ao.out hz
   have D:=F.x0.boxC
   go_wp2_with fail
   refine (zbl C H A h (.ok q2) S2 q2 (-1) d true _ (zaa q2) F.m).mono ?_
   rintro e w3 ⟨X,O,Y,U,rfl,I,m3,s3⟩
   replace z:=zc (z.out.stp s3)
   replace F:=F.stp m3 s3
   clear D
   have aB:w.heap.size+1<w3.heap.size:=F.x1.lt
   unfold pv
   go_upto_region 6 with fail
   refine (F.new2 _).cutR (RW:=fun W=>Row X W h w.heap.size r l) (z.out.alloc _) ?_
   clear z
   intro w4 F R0
   have z:=zc R0
   clear R0
   have D:=F.x0.boxC
   have cb:=F.x2.boxC
   go_upto_region 7 with fail
   refine (F.put0 ..).cutR (RW:=fun W=>Row X W h w.heap.size r l) (z.out.put F.x0 ..) ?_
   clear D cb
   clear z
   intro w5 F R0
   have z:=zc R0
   clear R0
   skip
   have D:=F.x0.boxC
   skip
   go_wp2_with fail
   refine (zj C H A h X O Y d 1 sAs _ F.m.tok N (by decide)).mono ?_
   rintro e w6 ⟨rfl,ah⟩
   replace z:=zc (z.out.below ah)
   replace F:=F.below ah
   clear D
   go_upto_if 28 with fail
   go_cut [11] (fun ak wx=>∃(E:Sv) (J:PS) (z5:Int) (Z:ByteArray),ak= .string Z∧Is2 (bd (bd (.ok q2) (zl C true)) (asP C M)) J z5 Z∧Mem C H A h E J wx∧SB w.heap.size S w E wx∧Bx H E wx w.heap.size #[.slice (some ⟨H,0,none⟩) C.ts.length A,.int .i64 J.pos,.int .i64 C.fin,.bool C.scr,.slice E.rq.a J.rq.length E.rq.cap,.slice E.im.a J.im.length E.im.cap,.slice E.ep.a J.ep.length E.ep.cap,.slice E.st.a J.st.length E.st.cap,.slice E.ex.a J.ex.length E.ex.cap,.slice E.la.a J.la.length E.la.cap,.int .i64 z5,.int .i64 d]∧Bx H E wx (w.heap.size+1) #[.slice none 0 0,.int .i64 0,.int .i64 0,.bool false,.slice none 0 0,.slice none 0 0,.slice none 0 0,.slice none 0 0,.slice none 0 0,.slice none 0 0,.int .i64 0,.int .i64 0]∧Row E wx h w.heap.size r l)
   case first=>
    cases hb:(decide (Y<0)&&isT C O.pos 1 sAs) with
    |true=>
     have ax:O.pos<C.ts.length:=by rw[Bool.and_eq_true] at hb;exact za8 hb.2 (by decide)
     have D:=F.x0.boxC
     have ar:Y= -1:=by rw[Bool.and_eq_true,decide_eq_true_eq] at hb;exact (zaG I.out.fst hb.1).2
     subst ar
     go_wp2_with fail
     refine (zbl C H A h (.ok (adv O)) X (adv O) (-1) d M _ (zaa _) ((F.adv ax).set0_1 _).m).mono ?_
     rintro e w7 ⟨S7,q7,z7,n7,rfl,au,m7,s7⟩
     replace z:=zc ((z.out.set F.x0 1 _).stp s7)
     replace F:=(F.set0_1 _).stp m7 s7
     clear D
     have aC:w.heap.size+1<w7.heap.size:=F.x1.lt
     have aj:w3.heap.size<w7.heap.size:=F.x2.lt
     unfold pv
     go_upto_region 11 with fail
     refine (F.new3 _).cutR (RW:=fun W=>Row S7 W h w.heap.size r l) (z.out.alloc _) ?_
     clear z
     intro w8 F R0
     have z:=zc R0
     clear R0
     have D:=F.x0.boxC
     have db:=F.x3.boxC
     go_wp2
     go_meet
     case rel=>exact⟨S7,q7,z7,n7,rfl,zqY I.out hb au.out,(F.put0 ..).m,(F.put0 ..).t,(F.put0 ..).x0,(F.put0 ..).x1,(z.out.put F.x0 ..)⟩
    |false=>
     cases e3:(U.toList==[100,101,102,97,117,108,116]) with
     |true=>
      cases M with
      |false=>
       have D:=F.x0.boxC
       go_wp2_with fail
       refine (zdz C H A h X O Y d _ F.m.tok N).mono ?_
       rintro e w7 ⟨rfl,L⟩
       replace z:=zc (z.out.below L)
       replace F:=F.below L
       clear D
       have D:=F.x0.boxC
       unfold pv
       go_wp2
       go_meet
       case rel=>exact⟨X,O,(zb2 C O.pos Y),U,rfl,zqZ I.out hb (by rw[e3];rfl),(F.put0 ..).m,(F.put0 ..).t,(F.put0 ..).x0,(F.put0 ..).x1,(z.out.put F.x0 ..)⟩
      |true=>
       have D:=F.x0.boxC
       go_wp2
       go_meet
       case rel=>exact⟨X,O,Y,U,rfl,zk9 I.out hb (by rw[e3];rfl),F.m,F.t,F.x0,F.x1,z.out⟩
     |false=>
      have D:=F.x0.boxC
      go_wp2
      go_meet
      case rel=>exact⟨X,O,Y,U,rfl,zk9 I.out hb (by rw[e3];rfl),F.m,F.t,F.x0,F.x1,z.out⟩
   case rest=>
    obtain⟨E,J,z5,Z,rfl,i5,m5,t5,X0,X1,R0⟩:=hcut
    clear z
    have F:=Fm.of2 X0 X1 m5 t5 (by omega) (by omega) (by omega)
    have aa:=zc i5
    have z:=zc R0
    clear X0 X1 i5 m5 t5 R0
    go_upto_region 15 with fail
    go_cut [8] (fun s8 wx=>s8= .bool (zaE l||(U.toList==[100,101,102,97,117,108,116]))∧wx=wc)
    case first=>
     cases ha:zaE l with
     |true=>
      go_wp2
      go_meet
      case rel=>exact⟨by rw[ha];rfl,rfl⟩
     |false=>
      cases e3:(U.toList==[100,101,102,97,117,108,116]) with
      |true=>
       go_wp2
       go_meet
       case rel=>exact⟨by rw[ha,e3];rfl,rfl⟩
      |false=>
       go_wp2
       go_meet
       case rel=>exact⟨by rw[ha,e3];rfl,rfl⟩
    case rest=>
     obtain⟨rfl,rfl⟩:=hcut
     have ac:=fun o=>z.out.own.alloc o
     have ap:=F.m.base
     go_wp2_with (at_builtin;refine zaZ _ rfl _ _ 44 rfl h 82 i0 _ 4 56 Tryz.underlying44 hi aA az ay rfl (by decide) (by decide) r l.length _ (by rfl) (ac _) wc.heap.size (epL ⟨0,Z,U,sNone⟩) (by rfl) (by exact heap_alloc_new wc _) rfl (by intro u hu;simp[epL] at hu;rcases hu with rfl|rfl|rfl|rfl<;>rfl) (by omega) (by rw[zg];omega) ?_)
     intro r' w6 hr hg ai
     obtain⟨R6,m6⟩:=(z.out.alloc _).grow (x:=⟨0,Z,U,sNone⟩) (F.alloc _).m (by rw[zg];have:=F.t.size;omega) hg hr (by rw[zg];exact ai)
     replace F:=Fm.of2 ((z.out.alloc _).bx (F.x0.alloc _) hg) ((z.out.alloc _).bx (F.x1.alloc _) hg) m6 ((z.out.alloc _).sb (F.t.alloc _) hg) (by omega) (by omega) (by omega)
     clear z hr hg ai ac ap m6
     have z:=zc R6
     clear R6
     cases hc:(decide (z5<0)&&isT C J.pos 4 zbA) with
     |true=>
      have D:=F.x0.boxC
      go_wp2_with fail
      refine (zj C H A h E J z5 d 4 zbA _ F.m.tok N (by decide)).mono ?_
      rintro e w7 ⟨rfl,L⟩
      rw[hc]
      replace z:=zc (z.out.below L)
      replace F:=F.below L
      clear D
      rw[Bool.and_eq_true,decide_eq_true_eq] at hc
      obtain⟨ag,af⟩:=hc
      have aw:J.pos<C.ts.length:=za8 af (by decide)
      obtain⟨E5,P5⟩:=zqW (l:=l) I.out aa.out ag af
      have HE:=zc E5
      obtain rfl:z5= -1:=(zaG aa.out.fst ag).2
      have am:Hid ((l++[(⟨0,Z,U,sNone⟩:Ep)]).length≤J.pos+1∨l++[(⟨0,Z,U,sNone⟩:Ep)]=[]):=.inl (by simp only[List.length_append,List.length_singleton];exact al.out.elim (fun g=>by omega) (fun g=>by rw[g];simp))
      clear E5
      have D:=F.x0.boxC
      go_wp2
      go_roundg (gk-1)
      case rel=>exact⟨.ok (adv J),E,adv J,-1,r',l++[⟨0,Z,U,sNone⟩],zaa _,by rw[←ad.out];exact HE.out.symm,fun _=>by rw[zz];omega,am.out,by simp,by rw[zk7],((F.adv aw).set0_1 _).m,(F.t.set (by omega) 1 _),(F.x0.at1 _),(F.x1.set_other (by omega) 1 _),(z.out.set F.x0 1 _)⟩
      case measure=>omega
     |false=>
      have D:=F.x0.boxC
      go_wp2_with fail
      refine (zj C H A h E J z5 d 4 zbA _ F.m.tok N (by decide)).mono ?_
      rintro e w7 ⟨rfl,L⟩
      rw[hc]
      replace z:=zc (z.out.below L)
      replace F:=F.below L
      clear D
      have D:=F.x0.boxC
      go_wp2_with fail
      refine (zai C H A h _ E J z5 d zbx _ aa.out.fst F.m).mono ?_
      rintro e w8 ⟨S8,q8,z8,rfl,av,m8,s8⟩
      replace z:=zc (z.out.stp s8)
      replace F:=F.stp m8 s8
      clear D
      have bb:=F.x1.boxC
      unfold pv
      go_wp2
      refine bodyPost_ret (zk8 rfl _ _ (w.heap.size+1) 101 _ (0,0) _ rfl ((F.x1.put ..)).heap Tryz.underlying101 rfl (by kernel_rfl)) rfl ?_
      exact⟨S8,q8,z8,r',l++[⟨0,Z,U,sNone⟩],by simp[pv,zk7],by rw[←ad.out,zA,zfU];exact zqV I.out aa.out hc av.out,(F.put1 ..).m,(F.put1 ..).t.done,(z.out.put F.x1 ..),by simp;omega⟩
  ·skip
   have D:=F.x0.boxC
   go_wp2_with fail
   refine (zai C H A h _ S2 q2 z2 d zbx _ ae.out F.m).mono ?_
   rintro e w3 ⟨X,O,Y,rfl,I,m3,s3⟩
   replace z:=zc (z.out.stp s3)
   replace F:=F.stp m3 s3
   clear D
   have bb:=F.x1.boxC
   unfold pv
   go_wp2
   refine bodyPost_ret (zk8 rfl _ _ (w.heap.size+1) 101 _ (0,0) _ rfl ((F.x1.put ..)).heap Tryz.underlying101 rfl (by kernel_rfl)) rfl ?_
   exact⟨X,O,Y,r,l,rfl,by rw[←ad.out];exact zqX ae.out (by omega) I.out,(F.put1 ..).m,(F.put1 ..).t.done,(z.out.put F.x1 ..),by omega⟩
def SumOK (C:Cx) (gt cap base m:Nat):Prop:=∀(x:PR) (S:Sv) (q:PS) (z:Int) (d:Nat) (w:World),Is x q z→Mem C gt cap base S q w→(z<0→C.ts.length-q.pos<m)→d≤20→
 Calls Tryz.prog 92 #[pv C gt cap S q z d] w (Out C gt cap base (bd x (pE C .sum d)) d S w)
theorem zg9 {C:Cx} {o:Bool} {q A:PS} {z:Int} {w:ByteArray} (h:Is2 (bd (.ok q) (zl C o)) A z w) (D:zG C q.pos o=true):A=adv q∧z= -1∧w=(ze C q.pos).text:=by
 rw[zA,zl,if_pos D] at h
 exact h
theorem zgA {C:Cx} {o:Bool} {q D:PS} {w:Int} {A:ByteArray} (h:Is2 (bd (.ok q) (zl C o)) D w A) (z:zG C q.pos o=false):w=(zs C q.pos:Int):=by
 rw[zA,zl,z] at h
 exact h
theorem zkB {C:Cx} {n:ByteArray} {y:Except Nat (PS×ByteArray)} {q:PS} {z:Int} {f:ByteArray} (h:Is2 y q z f) (w:(decide (z<0)&&isT C q.pos 4 zo)=true):bd (bd (bd (zaR y) (zd C 4 zo)) (zd C 4 za7)) (zQ C ⟨5,0,n,f,0,0⟩)=bd y fun a=>zbN C n a.2 a.1:=by
 rw[Bool.and_eq_true,decide_eq_true_eq] at w
 cases y with
 |ok a=>
  obtain⟨rfl,_,rfl⟩:=h
  show _=zbN C n a.2 a.1
  rw[zbN,if_pos w.2]
  rfl
 |error e=>rfl
theorem zkC {C:Cx} {n:ByteArray} {y:Except Nat (PS×ByteArray)} {q:PS} {z:Int} {f:ByteArray} (h:Is2 y q z f) (w:(decide (z<0)&&isT C q.pos 4 zo)=false):bd (zaR y) (zQ C ⟨4,0,n,f,0,0⟩)=bd y fun a=>zbN C n a.2 a.1:=by
 cases y with
 |ok a=>
  obtain⟨rfl,rfl,rfl⟩:=h
  rw[Bool.and_eq_false_iff] at w
  show _=zbN C n a.2 a.1
  rw[zbN,w.resolve_left (by decide)]
  rfl
 |error e=>rfl
theorem zkD {C:Cx} {o:Bool} {x:PR} {q:PS} {z:Int} {n:ByteArray} (h:Is2 (bd x (zl C o)) q z n):z<0→1≤q.pos:=by
 intro D
 cases w:bd x (zl C o) with
 |error e=>rw[w] at h;have:z=(e:Int):=h;omega
 |ok a=>
  rw[w] at h
  obtain⟨rfl,_,_⟩:=h
  obtain⟨b,_,A⟩:=zm w
  obtain⟨rfl,_⟩:=zby A
  simp[adv]
theorem zra (C:Cx) (H z h:Nat) (S:Sv) (q:PS) (d:Nat) (w:World) (E:Mem C H z h S q w) (J:((ze C q.pos).kind==2)=true):
  Calls Tryz.prog 168 #[pv C H z S q (-1) d] w (Out C H z h (pE C .part d q) d S w):=by
 have HM:=zc E
 have A:=E.tok
 have U:C.ts.length≤4000:=E.few
 have N:=(zau E.tok).1
 clear E
 have M:q.pos<C.ts.length:=zfO J (by decide)
 have V:Hid (pE C .part d q=bd (.ok (adv q)) (zQ C ⟨1,(ze C q.pos).num,sNone,sNone,0,0⟩)):=by show pE C .part d q=_;rw[zbH,if_pos J];rfl
 obtain⟨X,_,O,_⟩:=A.cells M (d:=⟨0,sNone,0,C.fin⟩)
 change _=some (Value.int .i64 (ze C q.pos).kind) at X
 change _=some (Value.int .i64 (ze C q.pos).num) at O
 have I:Hid (Mem C H z h S (adv q) w):=HM.out.adv M
 generalize (ze C q.pos).kind=kd at X J
 have HN:Hid (∀n,n=(ze C q.pos).num→pE C .part d q=bd (.ok (adv q)) (zQ C ⟨1,n,sNone,sNone,0,0⟩)):=fun n e=>by rw[e];exact V.out
 generalize D:(ze C q.pos).num=nm at O
 have K:Hid (nm=(ze C q.pos).num):=D.symm
 clear D V A
 unfold pv
 go_enter Tryz.func168,Tryz.ntmps168
 go_wp2_with fail
 refine (zdd C H z h (.ok (adv q)) S (adv q) (-1) d ⟨1,nm,sNone,sNone,0,0⟩ _ (zaa _) ((I.out.alloc _).alloc _) (fun _=>by simp[adv])).mono ?_
 rintro e w1 ⟨S1,q1,z1,rfl,L,Y,Z⟩
 have F:=I.out.fm2 Y Z
 have bb:=F.x1.boxC
 unfold pv
 go_wp2
 refine bodyPost_ret (results_cell_row rfl _ _ (w.heap.size+1) 101 _ (0,0) _ rfl ((F.x1.put ..)).heap Tryz.underlying101 rfl (by kernel_rfl)) rfl ?_
 rw[HN.out nm K.out]
 exact zac rfl L.out (F.put1 ..).m (F.put1 ..).t
theorem zrb (C:Cx) (H z h:Nat) (S:Sv) (q:PS) (d:Nat) (w:World) (E:Mem C H z h S q w) (M:((ze C q.pos).kind==2)=false) (I:isT C q.pos 4 zo=true) (V:20≤d) (X:d≤20):
  Calls Tryz.prog 168 #[pv C H z S q (-1) d] w (Out C H z h (pE C .part d q) d S w):=by
 have Z:=zc E
 have D:=E.tok
 have A:C.ts.length≤4000:=E.few
 have L:=(zau E.tok).1
 clear E
 have O:q.pos<C.ts.length:=za8 I (by decide)
 have Y:Hid (pE C .part d q= .error (zs C q.pos)):=by show pE C .part d q=_;rw[zbH,M,I];simp[V]
 have qd:decide ((20:Int)≤(d:Int))=true:=decide_eq_true (by omega)
 obtain⟨N,_,_,_⟩:=D.cells O (d:=⟨0,sNone,0,C.fin⟩)
 change _=some (Value.int .i64 (ze C q.pos).kind) at N
 generalize (ze C q.pos).kind=kd at N M
 unfold pv
 go_enter Tryz.func168,Tryz.ntmps168
 go_wp2_with fail
 refine (zj C H z h S q (-1) d 4 zo _ (zr (zr D _) _) A (by decide)).mono ?_
 rintro e w1 ⟨rfl,J⟩
 rw[I]
 have F:=Z.out.fm J
 have U:=F.x0.boxC
 go_wp2_with fail
 refine (zdz C H z h S q (-1) d _ F.m.tok A).mono ?_
 rintro e w2 ⟨rfl,K⟩
 replace F:=F.below K
 clear U
 have bb:=F.x1.boxC
 unfold pv
 go_wp2
 refine bodyPost_ret (results_cell_row rfl _ _ (w.heap.size+1) 101 _ (0,0) _ rfl ((F.x1.put ..)).heap Tryz.underlying101 rfl (by kernel_rfl)) rfl ?_
 rw[Y.out]
 exact zac rfl (show Is (.error (zs C q.pos)) q _ from rfl) (F.put1 ..).m (F.put1 ..).t
theorem zrc (C:Cx) (E z h:Nat) (S:Sv) (q:PS) (d:Nat) (w:World) (I:Mem C E z h S q w) (Y:((ze C q.pos).kind==2)=false) (M:isT C q.pos 4 zo=true) (hd:d<20) (U:SumOK C E z h (C.ts.length-q.pos)):
  Calls Tryz.prog 168 #[pv C E z S q (-1) d] w (Out C E z h (pE C .part d q) d S w):=by
 have HM:=zc I
 have A:=I.tok
 have H:C.ts.length≤4000:=I.few
 have V:=(zau I.tok).1
 clear I
 have O:q.pos<C.ts.length:=za8 M (by decide)
 have HV:Hid (pE C .part d q=bd (bd (.ok (adv q)) (pE C .sum (d+1))) (zd C 4 za7)):=by show pE C .part d q=_;rw[zbH,Y,M,if_neg (by decide),if_pos rfl,if_neg (by omega)];rfl
 have HS:=zc U
 clear U
 have qd:decide ((20:Int)≤(d:Int))=false:=decide_eq_false (by omega)
 obtain⟨Z,_,_,_⟩:=A.cells O (d:=⟨0,sNone,0,C.fin⟩)
 change _=some (Value.int .i64 (ze C q.pos).kind) at Z
 generalize (ze C q.pos).kind=kd at Z Y
 unfold pv
 go_enter Tryz.func168,Tryz.ntmps168
 go_wp2_with fail
 refine (zj C E z h S q (-1) d 4 zo _ (zr (zr A _) _) H (by decide)).mono ?_
 rintro e w1 ⟨rfl,N⟩
 rw[M]
 have F:=HM.out.fm N
 have J:=F.x0.boxC
 go_wp2_with fail
 refine (HS.out (.ok (adv q)) S (adv q) (-1) (d+1) _ (zaa _) (((F.adv O).set0_1 _).set0_11 _).m (fun _=>by show C.ts.length-(q.pos+1)<_;omega) (by omega)).mono ?_
 rintro e w2 ⟨S2,q2,z2,rfl,L,m2,s2⟩
 replace F:=((F.set0_1 _).set0_11 _).stp m2 s2
 clear J
 go_wp2_with fail
 refine (zai C E z h _ S2 q2 z2 (d+1) za7 _ L.out F.m).mono ?_
 rintro e w3 ⟨S3,q3,z3,rfl,K,m3,s3⟩
 replace F:=F.stp m3 s3
 have J:=F.x0.boxC
 obtain⟨D,X⟩: ∃D:Nat,D=d+1:=⟨_,rfl⟩
 rw[←X]
 have ac:(D:Int)-1=d:=by omega
 have aa:D≤20:=by omega
 clear X hd qd
 unfold pv
 go_upto_region 11 with fail
 refine (F.put0 ..).cut ?_
 clear J
 intro w4 F
 have J:=F.x0.boxC
 have bb:=F.x1.boxC
 go_wp2
 refine bodyPost_ret (results_cell_row rfl _ _ (w.heap.size+1) 101 _ (0,0) _ rfl (((F.x1.set_other (by omega) 11 _).put ..)).heap Tryz.underlying101 rfl (by kernel_rfl)) rfl ?_
 rw[HV.out]
 exact zac rfl K.out ((F.set0_11 _).put1 ..).m ((F.set0_11 _).put1 ..).t
theorem zrd (z:List Tk) (h:Nat) (H D A:Nat) (S:Sv) (q:PS) (d:Nat) (w:World) (J:Mem (Cx.mk z h true) H D A S q w) (K: ¬q.pos<(Cx.mk z h true).ts.length):
  Calls Tryz.prog 168 #[pv (Cx.mk z h true) H D S q (-1) d] w (Out (Cx.mk z h true) H D A (pE (Cx.mk z h true) .part d q) d S w):=by
 have HM:=zc J
 have I:=J.tok
 have E:(Cx.mk z h true).ts.length≤4000:=J.few
 have U:=(zau J.tok).1
 clear J
 have hk:((ze (Cx.mk z h true) q.pos).kind==2)=false:=by rw[zdP (by omega)];rfl
 have V:isT (Cx.mk z h true) q.pos 4 zo=false:=zfn K (by decide)
 have Y:isT (Cx.mk z h true) q.pos 1 zaD=false:=zfn K (by decide)
 have Z:zG (Cx.mk z h true) q.pos false=false:=zhm K
 have HV:Hid (pE (Cx.mk z h true) .part d q= .error (zs (Cx.mk z h true) q.pos)):=by show pE (Cx.mk z h true) .part d q=_;rw[zbH,hk,V,Y,zl,Z];rfl
 have aa: ¬q.pos<z.length:=K
 unfold pv
 go_enter Tryz.func168,Tryz.ntmps168
 go_wp2_with fail
 refine (zj (Cx.mk z h true) H D A S q (-1) d 4 zo _ (zr (zr I _) _) E (by decide)).mono ?_
 rintro e w1 ⟨rfl,N⟩
 rw[V]
 have F:=HM.out.fm N
 have L:=F.x0.boxC
 go_wp2_with fail
 refine (zj (Cx.mk z h true) H D A S q (-1) d 1 zaD _ F.m.tok E (by decide)).mono ?_
 rintro e w2 ⟨rfl,O⟩
 rw[Y]
 replace F:=F.below O
 clear L
 have L:=F.x0.boxC
 go_wp2_with fail
 refine (zbl (Cx.mk z h true) H D A (.ok q) S q (-1) d false _ (zaa q) F.m).mono ?_
 rintro e w3 ⟨S3,q3,z3,n3,rfl,M,m3,s3⟩
 replace F:=F.stp m3 s3
 clear L
 obtain rfl:=zgA M.out Z
 have dz:decide ((0:Int)≤(zs (Cx.mk z h true) q.pos:Int))=true:=decide_eq_true (by omega)
 have X:w.heap.size+1<w3.heap.size:=F.x1.lt
 unfold pv
 go_upto_region 17 with fail
 refine (F.new2 _).cut ?_
 intro w4 F
 have bb:=F.x1.boxC
 have cb:=F.x2.boxC
 go_wp2
 refine bodyPost_ret (results_cell_row rfl _ _ (w.heap.size+1) 101 _ (0,0) _ rfl ((F.x1.put ..)).heap Tryz.underlying101 rfl (by kernel_rfl)) rfl ?_
 rw[HV.out]
 exact zac rfl (show Is (.error (zs (Cx.mk z h true) q.pos)) q3 _ from rfl) (F.put1 ..).m (F.put1 ..).t
theorem zre (z:List Tk) (h:Nat) (I D A:Nat) (S:Sv) (q:PS) (d:Nat) (w:World) (J:Mem (Cx.mk z h true) I D A S q w) (hk:((ze (Cx.mk z h true) q.pos).kind==2)=false) (X:isT (Cx.mk z h true) q.pos 4 zo=false) (U:q.pos<(Cx.mk z h true).ts.length) (Z:isT (Cx.mk z h true) q.pos 1 zaD=false) (hn:zG (Cx.mk z h true) q.pos false=false):
  Calls Tryz.prog 168 #[pv (Cx.mk z h true) I D S q (-1) d] w (Out (Cx.mk z h true) I D A (pE (Cx.mk z h true) .part d q) d S w):=by
 have HM:=zc J
 have H:=J.tok
 have E:(Cx.mk z h true).ts.length≤4000:=J.few
 have V:=(zau J.tok).1
 clear J
 have HV:Hid (pE (Cx.mk z h true) .part d q= .error (zs (Cx.mk z h true) q.pos)):=by show pE (Cx.mk z h true) .part d q=_;rw[zbH,hk,X,Z,zl,hn];rfl
 have ac:q.pos<z.length:=U
 obtain⟨O,_,_,_⟩:=H.cells U (d:=⟨0,sNone,0,(Cx.mk z h true).fin⟩)
 change _=some (Value.int .i64 (ze (Cx.mk z h true) q.pos).kind) at O
 generalize (ze (Cx.mk z h true) q.pos).kind=kd at O hk
 unfold pv
 go_enter Tryz.func168,Tryz.ntmps168
 go_wp2_with fail
 refine (zj (Cx.mk z h true) I D A S q (-1) d 4 zo _ (zr (zr H _) _) E (by decide)).mono ?_
 rintro e w1 ⟨rfl,M⟩
 rw[X]
 have F:=HM.out.fm M
 have K:=F.x0.boxC
 go_wp2_with fail
 refine (zj (Cx.mk z h true) I D A S q (-1) d 1 zaD _ F.m.tok E (by decide)).mono ?_
 rintro e w2 ⟨rfl,N⟩
 rw[Z]
 replace F:=F.below N
 clear K
 have K:=F.x0.boxC
 go_wp2_with fail
 refine (zbl (Cx.mk z h true) I D A (.ok q) S q (-1) d false _ (zaa q) F.m).mono ?_
 rintro e w3 ⟨S3,q3,z3,n3,rfl,L,m3,s3⟩
 replace F:=F.stp m3 s3
 clear K
 obtain rfl:=zgA L.out hn
 have dz:decide ((0:Int)≤(zs (Cx.mk z h true) q.pos:Int))=true:=decide_eq_true (by omega)
 have Y:w.heap.size+1<w3.heap.size:=F.x1.lt
 unfold pv
 go_upto_region 17 with fail
 refine (F.new2 _).cut ?_
 intro w4 F
 have bb:=F.x1.boxC
 obtain⟨O,c1,c2,c3,c4,c5,c6,c7,c8,c9,ad,aa,cf⟩:=F.x2.box
 go_wp2
 refine bodyPost_ret (results_cell_row rfl _ _ (w.heap.size+1) 101 _ (0,0) _ rfl ((F.x1.put ..)).heap Tryz.underlying101 rfl (by kernel_rfl)) rfl ?_
 rw[HV.out]
 exact zac rfl (show Is (.error (zs (Cx.mk z h true) q.pos)) q3 _ from rfl) (F.put1 ..).m (F.put1 ..).t
theorem zkE (E:List Tk) (h:Nat) (H A z:Nat) (S:Sv) (q:PS) (d:Nat) (w:World) (J:Mem (Cx.mk E h true) H A z S q w) (e0:Nat):
  Calls Tryz.prog 168 #[pv (Cx.mk E h true) H A S q (e0:Int) d] w (Out (Cx.mk E h true) H A z (.error e0) d S w):=by
 have HM:=zc J
 have I:=J.tok
 have D:(Cx.mk E h true).ts.length≤4000:=J.few
 have O:=(zau J.tok).1
 clear J
 have X: ¬(e0:Int)<0:=by omega
 have V: ∀k s,(decide ((e0:Int)<0)&&isT (Cx.mk E h true) q.pos k s)=false:=fun k s=>by rw[decide_eq_false X];rfl
 unfold pv
 go_enter Tryz.func168,Tryz.ntmps168
 go_wp2_with fail
 refine (zj (Cx.mk E h true) H A z S q (e0:Int) d 4 zo _ (zr (zr I _) _) D (by decide)).mono ?_
 rintro e w1 ⟨rfl,M⟩
 rw[V]
 have F:=HM.out.fm M
 have K:=F.x0.boxC
 go_wp2_with fail
 refine (zj (Cx.mk E h true) H A z S q (e0:Int) d 1 zaD _ F.m.tok D (by decide)).mono ?_
 rintro e w2 ⟨rfl,N⟩
 rw[V]
 replace F:=F.below N
 clear K
 have K:=F.x0.boxC
 go_wp2_with fail
 refine (zbl (Cx.mk E h true) H A z (.error e0) S q (e0:Int) d false _ (show Is (.error e0) q _ from rfl) F.m).mono ?_
 rintro e Z ⟨S3,q3,z3,n3,rfl,L,m3,Y⟩
 replace F:=F.stp m3 Y
 clear K
 obtain rfl:z3=(e0:Int):=L.out
 have dz:decide ((0:Int)≤(e0:Int))=true:=decide_eq_true (by omega)
 have U:w.heap.size+1<Z.heap.size:=F.x1.lt
 unfold pv
 go_upto_region 17 with fail
 refine (F.new2 _).cut ?_
 intro w4 F
 have bb:=F.x1.boxC
 have cb:=F.x2.boxC
 go_wp2
 refine bodyPost_ret (results_cell_row rfl _ _ (w.heap.size+1) 101 _ (0,0) _ rfl ((F.x1.put ..)).heap Tryz.underlying101 rfl (by kernel_rfl)) rfl ?_
 exact zac rfl (show Is (.error e0) q3 _ from rfl) (F.put1 ..).m (F.put1 ..).t
theorem zrf (z:List Tk) (h:Nat) (I D A:Nat) (S:Sv) (q:PS) (d:Nat) (w:World) (J:Mem (Cx.mk z h true) I D A S q w) (Y:((ze (Cx.mk z h true) q.pos).kind==2)=false) (V:isT (Cx.mk z h true) q.pos 4 zo=false) (K:q.pos<(Cx.mk z h true).ts.length) (X:isT (Cx.mk z h true) q.pos 1 zaD=true):
  Calls Tryz.prog 168 #[pv (Cx.mk z h true) I D S q (-1) d] w (Out (Cx.mk z h true) I D A (pE (Cx.mk z h true) .part d q) d S w):=by
 have HM:=zc J
 have H:=J.tok
 have E:(Cx.mk z h true).ts.length≤4000:=J.few
 have U:=(zau J.tok).1
 clear J
 have HV:Hid (pE (Cx.mk z h true) .part d q=zbB (Cx.mk z h true) zaD (adv q)):=by show pE (Cx.mk z h true) .part d q=_;rw[zbH,Y,V,X];rfl
 have aa:q.pos<z.length:=K
 obtain⟨Z,_,_,_⟩:=H.cells K (d:=⟨0,sNone,0,(Cx.mk z h true).fin⟩)
 change _=some (Value.int .i64 (ze (Cx.mk z h true) q.pos).kind) at Z
 generalize (ze (Cx.mk z h true) q.pos).kind=kd at Z Y
 unfold pv
 go_enter Tryz.func168,Tryz.ntmps168
 go_wp2_with fail
 refine (zj (Cx.mk z h true) I D A S q (-1) d 4 zo _ (zr (zr H _) _) E (by decide)).mono ?_
 rintro e w1 ⟨rfl,N⟩
 rw[V]
 have F:=HM.out.fm N
 have L:=F.x0.boxC
 go_wp2_with fail
 refine (zj (Cx.mk z h true) I D A S q (-1) d 1 zaD _ F.m.tok E (by decide)).mono ?_
 rintro e w2 ⟨rfl,O⟩
 rw[X]
 replace F:=F.below O
 clear L
 have L:=F.x0.boxC
 go_wp2_with fail
 refine (zhM (Cx.mk z h true) I D A S (adv q) d zaD _ ((F.adv K).set0_1 _).m (by simp[adv])).mono ?_
 rintro e w3 ⟨S3,q3,z3,rfl,M,m3,s3⟩
 replace F:=(F.set0_1 _).stp m3 s3
 clear L
 have bb:=F.x1.boxC
 unfold pv
 go_wp2
 refine bodyPost_ret (results_cell_row rfl _ _ (w.heap.size+1) 101 _ (0,0) _ rfl ((F.x1.put ..)).heap Tryz.underlying101 rfl (by kernel_rfl)) rfl ?_
 rw[HV.out]
 exact zac rfl M.out (F.put1 ..).m (F.put1 ..).t
theorem zrg (z:List Tk) (h:Nat) (I D A:Nat) (S:Sv) (q:PS) (d:Nat) (w:World) (M:Mem (Cx.mk z h true) I D A S q w) (hk:((ze (Cx.mk z h true) q.pos).kind==2)=false) (ho:isT (Cx.mk z h true) q.pos 4 zo=false) (hp:q.pos<(Cx.mk z h true).ts.length) (hu:isT (Cx.mk z h true) q.pos 1 zaD=false) (hn:zG (Cx.mk z h true) q.pos false=true) (hd:isT (Cx.mk z h true) (q.pos+1) 4 cPoint=false):
  Calls Tryz.prog 168 #[pv (Cx.mk z h true) I D S q (-1) d] w (Out (Cx.mk z h true) I D A (pE (Cx.mk z h true) .part d q) d S w):=by
 have HM:=zc M
 have H:=M.tok
 have E:(Cx.mk z h true).ts.length≤4000:=M.few
 have ag:=(zau M.tok).1
 clear M
 have HV:Hid (pE (Cx.mk z h true) .part d q=zbB (Cx.mk z h true) (ze (Cx.mk z h true) q.pos).text (adv q)):=by show pE (Cx.mk z h true) .part d q=_;rw[zbH,hk,ho,hu,zl,hn];show (if isT (Cx.mk z h true) (adv q).pos 4 cPoint then _ else _)=_;rw[zz,hd];rfl
 have ai:q.pos<z.length:=hp
 obtain⟨O,_,_,_⟩:=H.cells hp (d:=⟨0,sNone,0,(Cx.mk z h true).fin⟩)
 change _=some (Value.int .i64 (ze (Cx.mk z h true) q.pos).kind) at O
 generalize (ze (Cx.mk z h true) q.pos).kind=kd at O hk
 unfold pv
 go_enter Tryz.func168,Tryz.ntmps168
 go_wp2_with fail
 refine (zj (Cx.mk z h true) I D A S q (-1) d 4 zo _ (zr (zr H _) _) E (by decide)).mono ?_
 rintro e w1 ⟨rfl,ac⟩
 rw[ho]
 have F:=HM.out.fm ac
 have V:=F.x0.boxC
 go_wp2_with fail
 refine (zj (Cx.mk z h true) I D A S q (-1) d 1 zaD _ F.m.tok E (by decide)).mono ?_
 rintro e w2 ⟨rfl,ae⟩
 rw[hu]
 replace F:=F.below ae
 clear V
 have V:=F.x0.boxC
 go_wp2_with fail
 refine (zbl (Cx.mk z h true) I D A (.ok q) S q (-1) d false _ (zaa q) F.m).mono ?_
 rintro e w3 ⟨S3,N,z3,n3,rfl,K,m3,s3⟩
 replace F:=F.stp m3 s3
 clear V
 obtain⟨U,rfl,L⟩:=zg9 K.out hn
 have HQ:=zc U
 have af:=zc L
 have J:N.pos=q.pos+1:=by rw[U];rfl
 have Y:isT (Cx.mk z h true) N.pos 4 cPoint=false:=by rw[J];exact hd
 clear U L K
 have ah:w.heap.size+1<w3.heap.size:=F.x1.lt
 unfold pv
 clear J
 go_wp2_with fail
 refine (zj (Cx.mk z h true) I D A S3 N (-1) d 4 cPoint _ (F.alloc _).m.tok E (by decide)).mono ?_
 rintro e w4 ⟨rfl,aa⟩
 rw[Y]
 replace F:=(F.new2 _).below aa
 obtain⟨O,c1,c2,c3,c4,c5,c6,c7,c8,c9,Z,X,cf⟩:=F.x2.box
 go_wp2_with fail
 refine (zhM (Cx.mk z h true) I D A S3 N d n3 _ F.m (by rw[HQ.out];simp[adv])).mono ?_
 rintro e w5 ⟨S5,q5,z5,rfl,ad,m5,s5⟩
 replace F:=F.stp m5 s5
 clear O c1 c2 c3 c4 c5 c6 c7 c8 c9 Z X cf
 have bb:=F.x1.boxC
 unfold pv
 go_wp2
 refine bodyPost_ret (results_cell_row rfl _ _ (w.heap.size+1) 101 _ (0,0) _ rfl ((F.x1.put ..)).heap Tryz.underlying101 rfl (by kernel_rfl)) rfl ?_
 rw[HV.out,←HQ.out,←af.out]
 exact zac rfl ad.out (F.put1 ..).m (F.put1 ..).t
theorem zrh (A:List Tk) (h:Nat) (H D z:Nat) (S:Sv) (q:PS) (d:Nat) (w:World) (U:Mem (Cx.mk A h true) H D z S q w) (hk:((ze (Cx.mk A h true) q.pos).kind==2)=false) (ho:isT (Cx.mk A h true) q.pos 4 zo=false) (hp:q.pos<(Cx.mk A h true).ts.length) (hu:isT (Cx.mk A h true) q.pos 1 zaD=false) (hn:zG (Cx.mk A h true) q.pos false=true) (hd:isT (Cx.mk A h true) (q.pos+1) 4 cPoint=true):
  Calls Tryz.prog 168 #[pv (Cx.mk A h true) H D S q (-1) d] w (Out (Cx.mk A h true) H D z (pE (Cx.mk A h true) .part d q) d S w):=by
 have HM:=zc U
 have J:=U.tok
 have E:(Cx.mk A h true).ts.length≤4000:=U.few
 have ak:=(zau U.tok).1
 clear U
 have HV:Hid (pE (Cx.mk A h true) .part d q=bd (bd (.ok (adv (adv q))) (zl (Cx.mk A h true) true)) fun y=>zbN (Cx.mk A h true) (ze (Cx.mk A h true) q.pos).text y.2 y.1):=by show pE (Cx.mk A h true) .part d q=_;rw[zbH,hk,ho,hu,zl,hn];show (if isT (Cx.mk A h true) (adv q).pos 4 cPoint then _ else _)=_;rw[zz,hd];rfl
 have ao:q.pos<A.length:=hp
 obtain⟨c0,_,_,_⟩:=J.cells hp (d:=⟨0,sNone,0,(Cx.mk A h true).fin⟩)
 change _=some (Value.int .i64 (ze (Cx.mk A h true) q.pos).kind) at c0
 generalize (ze (Cx.mk A h true) q.pos).kind=kd at c0 hk
 unfold pv
 go_enter Tryz.func168,Tryz.ntmps168
 go_wp2_with fail
 refine (zj (Cx.mk A h true) H D z S q (-1) d 4 zo _ (zr (zr J _) _) E (by decide)).mono ?_
 rintro e w1 ⟨rfl,ae⟩
 rw[ho]
 have F:=HM.out.fm ae
 have ab:=F.x0.boxC
 go_wp2_with fail
 refine (zj (Cx.mk A h true) H D z S q (-1) d 1 zaD _ F.m.tok E (by decide)).mono ?_
 rintro e w2 ⟨rfl,af⟩
 rw[hu]
 replace F:=F.below af
 clear ab
 have ab:=F.x0.boxC
 go_wp2_with fail
 refine (zbl (Cx.mk A h true) H D z (.ok q) S q (-1) d false _ (zaa q) F.m).mono ?_
 rintro e w3 ⟨S3,K,z3,n3,rfl,N,m3,s3⟩
 replace F:=F.stp m3 s3
 clear ab
 obtain⟨hq,rfl,O⟩:=zg9 N.out hn
 have HQ:=zc hq
 have aa:=zc O
 have ac:K.pos=q.pos+1:=by rw[hq];rfl
 have Y:isT (Cx.mk A h true) K.pos 4 cPoint=true:=by rw[ac];exact hd
 clear hq O N
 have al:w.heap.size+1<w3.heap.size:=F.x1.lt
 unfold pv
 clear ac
 go_wp2_with fail
 refine (zj (Cx.mk A h true) H D z S3 K (-1) d 4 cPoint _ (F.alloc _).m.tok E (by decide)).mono ?_
 rintro e w4 ⟨rfl,aj⟩
 rw[Y]
 replace F:=(F.new2 _).below aj
 obtain⟨c0,c1,c2,c3,c4,c5,c6,c7,c8,c9,ah,ai,cf⟩:=F.x2.box
 have V:K.pos<(Cx.mk A h true).ts.length:=za8 Y (by decide)
 have an:K.pos<A.length:=V
 go_wp2_with fail
 refine (zbl (Cx.mk A h true) H D z (.ok (adv K)) S3 (adv K) (-1) d true _ (zaa _) ((F.adv V).set2_1 _).m).mono ?_
 rintro e w5 ⟨S5,q5,z5,n5,rfl,I,m5,s5⟩
 replace F:=(F.set2_1 _).stp m5 s5
 clear c0 c1 c2 c3 c4 c5 c6 c7 c8 c9 ah ai cf
 have am:w.heap.size+1<w5.heap.size:=F.x1.lt
 have ad:w3.heap.size<w5.heap.size:=F.x2.lt
 cases hc:(decide (z5<0)&&isT (Cx.mk A h true) q5.pos 4 zo) with
 |true=>
  unfold pv
  go_wp2_with fail
  refine (zj (Cx.mk A h true) H D z S5 q5 z5 d 4 zo _ (F.alloc _).m.tok E (by decide)).mono ?_
  rintro e w6 ⟨rfl,L⟩
  rw[hc]
  replace F:=(F.new3 _).below L
  have X:=F.x3.boxC
  go_wp2_with fail
  refine (zai (Cx.mk A h true) H D z _ S5 q5 z5 d zo _ I.out.fst F.m).mono ?_
  rintro e w7 ⟨S7,q7,z7,rfl,M,m7,s7⟩
  replace F:=F.stp m7 s7
  clear X
  go_wp2_with fail
  refine (zai (Cx.mk A h true) H D z _ S7 q7 z7 d za7 _ M.out F.m).mono ?_
  rintro e w8 ⟨S8,q8,z8,rfl,Z,m8,s8⟩
  replace F:=F.stp m8 s8
  have X:=F.x3.boxC
  unfold pv
  go_wp2_with fail
  refine (zdd (Cx.mk A h true) H D z _ S8 q8 z8 d ⟨5,0,n3,n5,0,0⟩ _ Z.out (F.put3 ..).m (zbu Z.out)).mono ?_
  rintro e w9 ⟨S9,q9,z9,rfl,ag,m9,s9⟩
  replace F:=(F.put3 ..).stp m9 s9
  clear X
  have bb:=F.x1.boxC
  unfold pv
  go_wp2
  refine bodyPost_ret (results_cell_row rfl _ _ (w.heap.size+1) 101 _ (0,0) _ rfl ((F.x1.put ..)).heap Tryz.underlying101 rfl (by kernel_rfl)) rfl ?_
  rw[HV.out,←HQ.out,←aa.out,←zkB I.out hc]
  exact zac rfl ag.out (F.put1 ..).m (F.put1 ..).t
 |false=>
  unfold pv
  go_wp2_with fail
  refine (zj (Cx.mk A h true) H D z S5 q5 z5 d 4 zo _ (F.alloc _).m.tok E (by decide)).mono ?_
  rintro e w6 ⟨rfl,L⟩
  rw[hc]
  replace F:=(F.new3 _).below L
  have X:=F.x3.boxC
  go_wp2_with fail
  refine (zdd (Cx.mk A h true) H D z _ S5 q5 z5 d ⟨4,0,n3,n5,0,0⟩ _ I.out.fst F.m (zkD I.out)).mono ?_
  rintro e w7 ⟨S7,q7,z7,rfl,M,m7,s7⟩
  replace F:=F.stp m7 s7
  clear X
  have bb:=F.x1.boxC
  unfold pv
  go_wp2
  refine bodyPost_ret (results_cell_row rfl _ _ (w.heap.size+1) 101 _ (0,0) _ rfl ((F.x1.put ..)).heap Tryz.underlying101 rfl (by kernel_rfl)) rfl ?_
  rw[HV.out,←HQ.out,←aa.out,←zkC I.out hc]
  exact zac rfl M.out (F.put1 ..).m (F.put1 ..).t
theorem zri (z:List Tk) (h:Nat) (J D A:Nat) (S:Sv) (q:PS) (d:Nat) (w:World) (I:Mem (Cx.mk z h false) J D A S q w) (K: ¬q.pos<(Cx.mk z h false).ts.length):
  Calls Tryz.prog 168 #[pv (Cx.mk z h false) J D S q (-1) d] w (Out (Cx.mk z h false) J D A (pE (Cx.mk z h false) .part d q) d S w):=by
 have HM:=zc I
 have H:=I.tok
 have E:(Cx.mk z h false).ts.length≤4000:=I.few
 have N:=(zau I.tok).1
 clear I
 have hk:((ze (Cx.mk z h false) q.pos).kind==2)=false:=by rw[zdP (by omega)];rfl
 have O:isT (Cx.mk z h false) q.pos 4 zo=false:=zfn K (by decide)
 have hu:isT (Cx.mk z h false) q.pos 1 zaD=false:=zfn K (by decide)
 have V:zG (Cx.mk z h false) q.pos false=false:=zhm K
 have HV:Hid (pE (Cx.mk z h false) .part d q= .error (zs (Cx.mk z h false) q.pos)):=by show pE (Cx.mk z h false) .part d q=_;rw[zbH,hk,O,zl,V];rfl
 have Z: ¬q.pos<z.length:=K
 unfold pv
 go_enter Tryz.func168,Tryz.ntmps168
 go_wp2_with fail
 refine (zj (Cx.mk z h false) J D A S q (-1) d 4 zo _ (zr (zr H _) _) E (by decide)).mono ?_
 rintro e w1 ⟨rfl,M⟩
 rw[O]
 have F:=HM.out.fm M
 have Y:=F.x0.boxC
 go_wp2_with fail
 refine (zbl (Cx.mk z h false) J D A (.ok q) S q (-1) d false _ (zaa q) F.m).mono ?_
 rintro e w2 ⟨S2,q2,z2,n2,rfl,L,m2,X⟩
 replace F:=F.stp m2 X
 clear Y
 obtain rfl:=zgA L.out V
 have dz:decide ((0:Int)≤(zs (Cx.mk z h false) q.pos:Int))=true:=decide_eq_true (by omega)
 have U:w.heap.size+1<w2.heap.size:=F.x1.lt
 unfold pv
 go_upto_region 17 with fail
 refine (F.new2 _).cut ?_
 intro w3 F
 have bb:=F.x1.boxC
 have cb:=F.x2.boxC
 go_wp2
 refine bodyPost_ret (results_cell_row rfl _ _ (w.heap.size+1) 101 _ (0,0) _ rfl ((F.x1.put ..)).heap Tryz.underlying101 rfl (by kernel_rfl)) rfl ?_
 rw[HV.out]
 exact zac rfl (show Is (.error (zs (Cx.mk z h false) q.pos)) q2 _ from rfl) (F.put1 ..).m (F.put1 ..).t
theorem zrj (z:List Tk) (h:Nat) (J D A:Nat) (S:Sv) (q:PS) (d:Nat) (w:World) (I:Mem (Cx.mk z h false) J D A S q w) (Y:((ze (Cx.mk z h false) q.pos).kind==2)=false) (U:isT (Cx.mk z h false) q.pos 4 zo=false) (N:q.pos<(Cx.mk z h false).ts.length) (X:zG (Cx.mk z h false) q.pos false=false):
  Calls Tryz.prog 168 #[pv (Cx.mk z h false) J D S q (-1) d] w (Out (Cx.mk z h false) J D A (pE (Cx.mk z h false) .part d q) d S w):=by
 have HM:=zc I
 have E:=I.tok
 have H:(Cx.mk z h false).ts.length≤4000:=I.few
 have O:=(zau I.tok).1
 clear I
 have HV:Hid (pE (Cx.mk z h false) .part d q= .error (zs (Cx.mk z h false) q.pos)):=by show pE (Cx.mk z h false) .part d q=_;rw[zbH,Y,U,zl,X];rfl
 have ac:q.pos<z.length:=N
 obtain⟨M,_,_,_⟩:=E.cells N (d:=⟨0,sNone,0,(Cx.mk z h false).fin⟩)
 change _=some (Value.int .i64 (ze (Cx.mk z h false) q.pos).kind) at M
 generalize (ze (Cx.mk z h false) q.pos).kind=kd at M Y
 unfold pv
 go_enter Tryz.func168,Tryz.ntmps168
 go_wp2_with fail
 refine (zj (Cx.mk z h false) J D A S q (-1) d 4 zo _ (zr (zr E _) _) H (by decide)).mono ?_
 rintro e w1 ⟨rfl,L⟩
 rw[U]
 have F:=HM.out.fm L
 have ab:=F.x0.boxC
 go_wp2_with fail
 refine (zbl (Cx.mk z h false) J D A (.ok q) S q (-1) d false _ (zaa q) F.m).mono ?_
 rintro e w2 ⟨S2,q2,z2,n2,rfl,K,m2,Z⟩
 replace F:=F.stp m2 Z
 clear ab
 obtain rfl:=zgA K.out X
 have dz:decide ((0:Int)≤(zs (Cx.mk z h false) q.pos:Int))=true:=decide_eq_true (by omega)
 have V:w.heap.size+1<w2.heap.size:=F.x1.lt
 unfold pv
 go_upto_region 17 with fail
 refine (F.new2 _).cut ?_
 intro w3 F
 have bb:=F.x1.boxC
 obtain⟨M,c1,c2,c3,c4,c5,c6,c7,c8,c9,ad,aa,cf⟩:=F.x2.box
 go_wp2
 refine bodyPost_ret (results_cell_row rfl _ _ (w.heap.size+1) 101 _ (0,0) _ rfl ((F.x1.put ..)).heap Tryz.underlying101 rfl (by kernel_rfl)) rfl ?_
 rw[HV.out]
 exact zac rfl (show Is (.error (zs (Cx.mk z h false) q.pos)) q2 _ from rfl) (F.put1 ..).m (F.put1 ..).t
theorem zkF (D:List Tk) (h:Nat) (J A z:Nat) (S:Sv) (q:PS) (d:Nat) (w:World) (I:Mem (Cx.mk D h false) J A z S q w) (e0:Nat):
  Calls Tryz.prog 168 #[pv (Cx.mk D h false) J A S q (e0:Int) d] w (Out (Cx.mk D h false) J A z (.error e0) d S w):=by
 have HM:=zc I
 have H:=I.tok
 have E:(Cx.mk D h false).ts.length≤4000:=I.few
 have M:=(zau I.tok).1
 clear I
 have V: ¬(e0:Int)<0:=by omega
 have Y: ∀k s,(decide ((e0:Int)<0)&&isT (Cx.mk D h false) q.pos k s)=false:=fun k s=>by rw[decide_eq_false V];rfl
 unfold pv
 go_enter Tryz.func168,Tryz.ntmps168
 go_wp2_with fail
 refine (zj (Cx.mk D h false) J A z S q (e0:Int) d 4 zo _ (zr (zr H _) _) E (by decide)).mono ?_
 rintro e w1 ⟨rfl,L⟩
 rw[Y]
 have F:=HM.out.fm L
 have X:=F.x0.boxC
 go_wp2_with fail
 refine (zbl (Cx.mk D h false) J A z (.error e0) S q (e0:Int) d false _ (show Is (.error e0) q _ from rfl) F.m).mono ?_
 rintro e w2 ⟨S2,q2,U,n2,rfl,K,Z,O⟩
 replace F:=F.stp Z O
 clear X
 obtain rfl:U=(e0:Int):=K.out
 have dz:decide ((0:Int)≤(e0:Int))=true:=decide_eq_true (by omega)
 have N:w.heap.size+1<w2.heap.size:=F.x1.lt
 unfold pv
 go_upto_region 17 with fail
 refine (F.new2 _).cut ?_
 intro w3 F
 have bb:=F.x1.boxC
 have cb:=F.x2.boxC
 go_wp2
 refine bodyPost_ret (results_cell_row rfl _ _ (w.heap.size+1) 101 _ (0,0) _ rfl ((F.x1.put ..)).heap Tryz.underlying101 rfl (by kernel_rfl)) rfl ?_
 exact zac rfl (show Is (.error e0) q2 _ from rfl) (F.put1 ..).m (F.put1 ..).t
theorem zrk (z:List Tk) (h:Nat) (I D A:Nat) (S:Sv) (q:PS) (d:Nat) (w:World) (M:Mem (Cx.mk z h false) I D A S q w) (hk:((ze (Cx.mk z h false) q.pos).kind==2)=false) (ho:isT (Cx.mk z h false) q.pos 4 zo=false) (hp:q.pos<(Cx.mk z h false).ts.length) (hn:zG (Cx.mk z h false) q.pos false=true) (hd:isT (Cx.mk z h false) (q.pos+1) 4 cPoint=false):
  Calls Tryz.prog 168 #[pv (Cx.mk z h false) I D S q (-1) d] w (Out (Cx.mk z h false) I D A (pE (Cx.mk z h false) .part d q) d S w):=by
 have HM:=zc M
 have H:=M.tok
 have E:(Cx.mk z h false).ts.length≤4000:=M.few
 have ae:=(zau M.tok).1
 clear M
 have HV:Hid (pE (Cx.mk z h false) .part d q=zbB (Cx.mk z h false) (ze (Cx.mk z h false) q.pos).text (adv q)):=by show pE (Cx.mk z h false) .part d q=_;rw[zbH,hk,ho,zl,hn];show (if isT (Cx.mk z h false) (adv q).pos 4 cPoint then _ else _)=_;rw[zz,hd];rfl
 have ag:q.pos<z.length:=hp
 obtain⟨O,_,_,_⟩:=H.cells hp (d:=⟨0,sNone,0,(Cx.mk z h false).fin⟩)
 change _=some (Value.int .i64 (ze (Cx.mk z h false) q.pos).kind) at O
 generalize (ze (Cx.mk z h false) q.pos).kind=kd at O hk
 unfold pv
 go_enter Tryz.func168,Tryz.ntmps168
 go_wp2_with fail
 refine (zj (Cx.mk z h false) I D A S q (-1) d 4 zo _ (zr (zr H _) _) E (by decide)).mono ?_
 rintro e w1 ⟨rfl,ad⟩
 rw[ho]
 have F:=HM.out.fm ad
 have ab:=F.x0.boxC
 go_wp2_with fail
 refine (zbl (Cx.mk z h false) I D A (.ok q) S q (-1) d false _ (zaa q) F.m).mono ?_
 rintro e w2 ⟨S2,N,z2,n2,rfl,K,m2,s2⟩
 replace F:=F.stp m2 s2
 clear ab
 obtain⟨U,rfl,L⟩:=zg9 K.out hn
 have HQ:=zc U
 have Z:=zc L
 have J:N.pos=q.pos+1:=by rw[U];rfl
 have Y:isT (Cx.mk z h false) N.pos 4 cPoint=false:=by rw[J];exact hd
 clear U L K
 have af:w.heap.size+1<w2.heap.size:=F.x1.lt
 unfold pv
 clear J
 go_wp2_with fail
 refine (zj (Cx.mk z h false) I D A S2 N (-1) d 4 cPoint _ (F.alloc _).m.tok E (by decide)).mono ?_
 rintro e w3 ⟨rfl,V⟩
 rw[Y]
 replace F:=(F.new2 _).below V
 obtain⟨O,c1,c2,c3,c4,c5,c6,c7,c8,c9,ac,X,cf⟩:=F.x2.box
 go_wp2_with fail
 refine (zhM (Cx.mk z h false) I D A S2 N d n2 _ F.m (by rw[HQ.out];simp[adv])).mono ?_
 rintro e w4 ⟨S4,q4,z4,rfl,aa,m4,s4⟩
 replace F:=F.stp m4 s4
 clear O c1 c2 c3 c4 c5 c6 c7 c8 c9 ac X cf
 have bb:=F.x1.boxC
 unfold pv
 go_wp2
 refine bodyPost_ret (results_cell_row rfl _ _ (w.heap.size+1) 101 _ (0,0) _ rfl ((F.x1.put ..)).heap Tryz.underlying101 rfl (by kernel_rfl)) rfl ?_
 rw[HV.out,←HQ.out,←Z.out]
 exact zac rfl aa.out (F.put1 ..).m (F.put1 ..).t
theorem zrl (A:List Tk) (h:Nat) (H D z:Nat) (S:Sv) (q:PS) (d:Nat) (w:World) (U:Mem (Cx.mk A h false) H D z S q w) (hk:((ze (Cx.mk A h false) q.pos).kind==2)=false) (ho:isT (Cx.mk A h false) q.pos 4 zo=false) (hp:q.pos<(Cx.mk A h false).ts.length) (hn:zG (Cx.mk A h false) q.pos false=true) (hd:isT (Cx.mk A h false) (q.pos+1) 4 cPoint=true):
  Calls Tryz.prog 168 #[pv (Cx.mk A h false) H D S q (-1) d] w (Out (Cx.mk A h false) H D z (pE (Cx.mk A h false) .part d q) d S w):=by
 have HM:=zc U
 have J:=U.tok
 have E:(Cx.mk A h false).ts.length≤4000:=U.few
 have al:=(zau U.tok).1
 clear U
 have HV:Hid (pE (Cx.mk A h false) .part d q=bd (bd (.ok (adv (adv q))) (zl (Cx.mk A h false) true)) fun y=>zbN (Cx.mk A h false) (ze (Cx.mk A h false) q.pos).text y.2 y.1):=by show pE (Cx.mk A h false) .part d q=_;rw[zbH,hk,ho,zl,hn];show (if isT (Cx.mk A h false) (adv q).pos 4 cPoint then _ else _)=_;rw[zz,hd];rfl
 have ap:q.pos<A.length:=hp
 obtain⟨c0,_,_,_⟩:=J.cells hp (d:=⟨0,sNone,0,(Cx.mk A h false).fin⟩)
 change _=some (Value.int .i64 (ze (Cx.mk A h false) q.pos).kind) at c0
 generalize (ze (Cx.mk A h false) q.pos).kind=kd at c0 hk
 unfold pv
 go_enter Tryz.func168,Tryz.ntmps168
 go_wp2_with fail
 refine (zj (Cx.mk A h false) H D z S q (-1) d 4 zo _ (zr (zr J _) _) E (by decide)).mono ?_
 rintro e w1 ⟨rfl,ag⟩
 rw[ho]
 have F:=HM.out.fm ag
 have ab:=F.x0.boxC
 go_wp2_with fail
 refine (zbl (Cx.mk A h false) H D z (.ok q) S q (-1) d false _ (zaa q) F.m).mono ?_
 rintro e w2 ⟨S2,M,z2,n2,rfl,ae,m2,s2⟩
 replace F:=F.stp m2 s2
 clear ab
 obtain⟨hq,rfl,O⟩:=zg9 ae.out hn
 have HQ:=zc hq
 have ac:=zc O
 have ad:M.pos=q.pos+1:=by rw[hq];rfl
 have aa:isT (Cx.mk A h false) M.pos 4 cPoint=true:=by rw[ad];exact hd
 clear hq O ae
 have am:w.heap.size+1<w2.heap.size:=F.x1.lt
 unfold pv
 clear ad
 go_wp2_with fail
 refine (zj (Cx.mk A h false) H D z S2 M (-1) d 4 cPoint _ (F.alloc _).m.tok E (by decide)).mono ?_
 rintro e w3 ⟨rfl,ak⟩
 rw[aa]
 replace F:=(F.new2 _).below ak
 obtain⟨c0,c1,c2,c3,c4,c5,c6,c7,c8,c9,ah,ai,cf⟩:=F.x2.box
 have V:M.pos<(Cx.mk A h false).ts.length:=za8 aa (by decide)
 have ao:M.pos<A.length:=V
 go_wp2_with fail
 refine (zbl (Cx.mk A h false) H D z (.ok (adv M)) S2 (adv M) (-1) d true _ (zaa _) ((F.adv V).set2_1 _).m).mono ?_
 rintro e w4 ⟨S4,N,X,n4,rfl,I,m4,s4⟩
 replace F:=(F.set2_1 _).stp m4 s4
 clear c0 c1 c2 c3 c4 c5 c6 c7 c8 c9 ah ai cf
 have an:w.heap.size+1<w4.heap.size:=F.x1.lt
 have af:w2.heap.size<w4.heap.size:=F.x2.lt
 cases hc:(decide (X<0)&&isT (Cx.mk A h false) N.pos 4 zo) with
 |true=>
  unfold pv
  go_wp2_with fail
  refine (zj (Cx.mk A h false) H D z S4 N X d 4 zo _ (F.alloc _).m.tok E (by decide)).mono ?_
  rintro e w5 ⟨rfl,K⟩
  rw[hc]
  replace F:=(F.new3 _).below K
  have Y:=F.x3.boxC
  go_wp2_with fail
  refine (zai (Cx.mk A h false) H D z _ S4 N X d zo _ I.out.fst F.m).mono ?_
  rintro e w6 ⟨S6,q6,z6,rfl,L,m6,s6⟩
  replace F:=F.stp m6 s6
  clear Y
  go_wp2_with fail
  refine (zai (Cx.mk A h false) H D z _ S6 q6 z6 d za7 _ L.out F.m).mono ?_
  rintro e w7 ⟨S7,q7,z7,rfl,Z,m7,s7⟩
  replace F:=F.stp m7 s7
  have Y:=F.x3.boxC
  unfold pv
  go_wp2_with fail
  refine (zdd (Cx.mk A h false) H D z _ S7 q7 z7 d ⟨5,0,n2,n4,0,0⟩ _ Z.out (F.put3 ..).m (zbu Z.out)).mono ?_
  rintro e w8 ⟨S8,q8,z8,rfl,aj,m8,s8⟩
  replace F:=(F.put3 ..).stp m8 s8
  clear Y
  have bb:=F.x1.boxC
  unfold pv
  go_wp2
  refine bodyPost_ret (results_cell_row rfl _ _ (w.heap.size+1) 101 _ (0,0) _ rfl ((F.x1.put ..)).heap Tryz.underlying101 rfl (by kernel_rfl)) rfl ?_
  rw[HV.out,←HQ.out,←ac.out,←zkB I.out hc]
  exact zac rfl aj.out (F.put1 ..).m (F.put1 ..).t
 |false=>
  unfold pv
  go_wp2_with fail
  refine (zj (Cx.mk A h false) H D z S4 N X d 4 zo _ (F.alloc _).m.tok E (by decide)).mono ?_
  rintro e w5 ⟨rfl,K⟩
  rw[hc]
  replace F:=(F.new3 _).below K
  have Y:=F.x3.boxC
  go_wp2_with fail
  refine (zdd (Cx.mk A h false) H D z _ S4 N X d ⟨4,0,n2,n4,0,0⟩ _ I.out.fst F.m (zkD I.out)).mono ?_
  rintro e w6 ⟨S6,q6,z6,rfl,L,m6,s6⟩
  replace F:=F.stp m6 s6
  clear Y
  have bb:=F.x1.boxC
  unfold pv
  go_wp2
  refine bodyPost_ret (results_cell_row rfl _ _ (w.heap.size+1) 101 _ (0,0) _ rfl ((F.x1.put ..)).heap Tryz.underlying101 rfl (by kernel_rfl)) rfl ?_
  rw[HV.out,←HQ.out,←ac.out,←zkC I.out hc]
  exact zac rfl L.out (F.put1 ..).m (F.put1 ..).t
def zhN (C:Cx) (gt cap base m:Nat):Prop:=∀(x:PR) (S:Sv) (q:PS) (z:Int) (d:Nat) (w:World),Is x q z→Mem C gt cap base S q w→(z<0→C.ts.length-q.pos<m)→d≤20→
 Calls Tryz.prog 168 #[pv C gt cap S q z d] w (Out C gt cap base (bd x (pE C .part d)) d S w)
def zkG (C:Cx) (gt cap base m:Nat):Prop:=∀(x:PR) (S:Sv) (q:PS) (z:Int) (d:Nat) (w:World),Is x q z→Mem C gt cap base S q w→(z<0→C.ts.length-q.pos<m)→d≤20→
 Calls Tryz.prog 137 #[pv C gt cap S q z d] w (Out C gt cap base (bd x (pE C .prod d)) d S w)
theorem SumOK.mono {C:Cx} {E D A m k:Nat} (h:SumOK C E D A m) (L:k≤m):SumOK C E D A k:=fun x S q z d w I J H K=>h x S q z d w I J (fun g=>Nat.lt_of_lt_of_le (H g) L) K
theorem zrm {C:Cx} {H D h m:Nat} (hS:SumOK C H D h m):zhN C H D h (m+1):=by
 intro x S q z d w Z I hl M
 by_cases V:z<0
 ·obtain⟨rfl,rfl⟩:=zaG Z V
  rw[zA]
  have Y:SumOK C H D h (C.ts.length-q.pos):=hS.mono (by have:=hl V;omega)
  cases K:((ze C q.pos).kind==2) with
  |true=>exact zra C H D h S q d w I K
  |false=>
   cases L:isT C q.pos 4 zo with
   |true=>
    by_cases X:20≤d
    ·exact zrb C H D h S q d w I K L X M
    ·exact zrc C H D h S q d w I K L (by omega) Y
   |false=>
    obtain⟨E,A,N⟩:=C
    cases N with
    |true=>
     by_cases J:q.pos<E.length
     ·cases U:isT (Cx.mk E A true) q.pos 1 zaD with
      |true=>exact zrf E A H D h S q d w I K L J U
      |false=>
       cases O:zG (Cx.mk E A true) q.pos false with
       |false=>exact zre E A H D h S q d w I K L J U O
       |true=>
        cases M:isT (Cx.mk E A true) (q.pos+1) 4 cPoint with
        |false=>exact zrg E A H D h S q d w I K L J U O M
        |true=>exact zrh E A H D h S q d w I K L J U O M
     ·exact zrd E A H D h S q d w I J
    |false=>
     by_cases J:q.pos<E.length
     ·cases O:zG (Cx.mk E A false) q.pos false with
      |false=>exact zrj E A H D h S q d w I K L J O
      |true=>
       cases M:isT (Cx.mk E A false) (q.pos+1) 4 cPoint with
       |false=>exact zrk E A H D h S q d w I K L J O M
       |true=>exact zrl E A H D h S q d w I K L J O M
     ·exact zri E A H D h S q d w I J
 ·obtain⟨e,rfl,rfl⟩:=zd1 Z V
  rw[ze3]
  obtain⟨E,A,N⟩:=C
  cases N with
  |true=>exact zkE E A H D h S q d w I e
  |false=>exact zkF E A H D h S q d w I e
theorem zhO {C:Cx} {x:PR} {q:PS} {z:Int} (h:Is x q z) (F:PS→Ex):bd x (zQ C (F q))=bd x fun q'=>zQ C (F q') q':=by
 cases x with
 |ok a=>obtain⟨rfl,_⟩:=h;rfl
 |error e=>rfl
theorem zkH {C:Cx} {y:PS→Ex} {x:PR} {q:PS} {n:Nat} (A: ∀a,x= .ok a→n≤a.pos) (h:(bd x fun q'=>zQ C (y q') q')= .ok q):n≤q.pos:=by
 obtain⟨a,w,z⟩:=zm h
 obtain⟨rfl,_⟩:=zbC z
 exact A a w
theorem zrn {C:Cx} {d m:Nat} {x:PR} {q h:PS} {z w:Int} (D:Is x q z) (E:Is (bd x (pE C .part d)) h w) (A:z<0→C.ts.length-q.pos<m) (I:w<0):C.ts.length-h.pos<m:=by
 obtain⟨e,_⟩:=zaG E I
 obtain⟨a,J,H⟩:=zm e
 subst J
 obtain⟨rfl,rfl⟩:=D
 have:=zbe H
 have:=A (by decide)
 omega
theorem zro {C:Cx} {d m:Nat} {x:PR} {q h:PS} {z w:Int} (D:Is x q z) (E:Is (bd x (pE C .prod d)) h w) (A:z<0→C.ts.length-q.pos<m) (I:w<0):C.ts.length-h.pos<m:=by
 obtain⟨e,_⟩:=zaG E I
 obtain⟨a,J,H⟩:=zm e
 subst J
 obtain⟨rfl,rfl⟩:=D
 have:=zbe H
 have:=A (by decide)
 omega
theorem zrp {C:Cx} {d:Nat} {w q:PS} {z:Int} (h:Is (bd (.ok (adv w)) (pE C .part d)) q z) (A:z<0):1≤q.pos:=by
 obtain⟨e,_⟩:=zaG h A
 have:=zbe (show pE C .part d (adv w)= .ok q from e)
 rw[zz] at this
 omega
theorem zkI {C:Cx} {d:Nat} {w q:PS} {z:Int} (h:Is (bd (.ok (adv w)) (pE C .prod d)) q z) (A:z<0):1≤q.pos:=by
 obtain⟨e,_⟩:=zaG h A
 have:=zbe (show pE C .prod d (adv w)= .ok q from e)
 rw[zz] at this
 omega
theorem zrq {C:Cx} {d:Nat} {F:PS→Ex} {w q:PS} {z:Int} (h:Is (bd (bd (.ok (adv w)) (pE C .part d)) fun q'=>zQ C (F q') q') q z) (A:z<0):w.pos+1≤q.pos:=by
 obtain⟨e,_⟩:=zaG h A
 exact zkH (fun a D=>by have:=zbe (show pE C .part d (adv w)= .ok a from D);rw[zz] at this;exact this) e
theorem zkJ {C:Cx} {d:Nat} {F:PS→Ex} {w q:PS} {z:Int} (h:Is (bd (bd (.ok (adv w)) (pE C .prod d)) fun q'=>zQ C (F q') q') q z) (A:z<0):w.pos+1≤q.pos:=by
 obtain⟨e,_⟩:=zaG h A
 exact zkH (fun a D=>by have:=zbe (show pE C .prod d (adv w)= .ok a from D);rw[zz] at this;exact this) e
theorem zrr {C:Cx} {d:Nat} {q:PS} (h:isT C q.pos 4 zy=true) (_:q.pos<C.ts.length):
  bd (.ok q) (pE C .prodT d)=bd (bd (bd (.ok (adv q)) (pE C .part d)) fun q'=>zQ C ⟨8,0,sNone,sNone,(q.ex.length:Int)-1,(q'.ex.length:Int)-1⟩ q') (pE C .prodT d):=by
 show pE C .prodT d q=_
 rw[zfP,if_pos h]
 rfl
theorem zkK {C:Cx} {d:Nat} {q:PS} {k:Int} (h:(isT C q.pos 4 zcw||isT C q.pos 4 zbk)=true) (w:zdv C q.pos=k) (_:q.pos<C.ts.length):
  bd (.ok q) (pE C .sumT d)=bd (bd (bd (.ok (adv q)) (pE C .prod d)) fun q'=>zQ C ⟨k,0,sNone,sNone,(q.ex.length:Int)-1,(q'.ex.length:Int)-1⟩ q') (pE C .sumT d):=by
 show pE C .sumT d q=_
 rw[zff,if_pos h,w]
 rfl
theorem zrs {C:Cx} {d:Nat} {x:PR} {q:PS} {z:Int} (h:Is x q z) (w:(decide (z<0)&&isT C q.pos 4 zy)=false):Is (bd x (pE C .prodT d)) q z:=by
 cases x with
 |ok a=>
  obtain⟨rfl,rfl⟩:=h
  rw[Bool.and_eq_false_iff] at w
  rw[zA,zfP,w.resolve_left (by decide)]
  exact⟨rfl,rfl⟩
 |error e=>exact h
theorem zrt {C:Cx} {d:Nat} {x:PR} {q:PS} {z:Int} (w:Is x q z) (A:(decide (z<0)&&isT C q.pos 4 zcw)=false) (h:(decide (z<0)&&isT C q.pos 4 zbk)=false):Is (bd x (pE C .sumT d)) q z:=by
 cases x with
 |ok a=>
  obtain⟨rfl,rfl⟩:=w
  rw[Bool.and_eq_false_iff] at A h
  rw[zA,zff,A.resolve_left (by decide),h.resolve_left (by decide)]
  exact⟨rfl,rfl⟩
 |error e=>exact w
theorem zru {C:Cx} {i:Nat} (h:isT C i 4 zcw=true):isT C i 4 zbk=false:=by
 simp only[isT,Bool.and_eq_true,beq_iff_eq] at h
 simp only[isT,h.2]
 rw[Bool.and_eq_false_iff]
 exact .inr (by simp)
theorem zkL {C:Cx} {K H A m:Nat} (hP:zhN C K H A m):zkG C K H A m:=by
 intro x S q z d w hx hm hl L
 have HP:=zc hP
 have HM:=zc hm
 have HX:=zc hx
 have HL:=zc hl
 have M:=hm.few
 clear hP hm hx hl
 unfold pv
 go_enter Tryz.func137,Tryz.ntmps137
 go_wp2_with fail
 refine (HP.out x S q z d _ HX.out ((HM.out.alloc _).alloc _) HL.out L).mono ?_
 rintro e w1 ⟨S1,q1,z1,rfl,X,m1,s1⟩
 have F:=HM.out.fm2 m1 s1
 have J:=F.x0.boxC
 unfold pv
 go_wp2
 go_loopg [] (C.ts.length+1) (fun k wr=>∃(x':PR) (D:Sv) (E:PS) (z':Int),Is x' E z'∧bd x' (pE C .prodT d)=bd x (pE C .prod d)∧(z'<0→C.ts.length-E.pos<k)∧(z'<0→C.ts.length-E.pos<m)∧Mem C K H A D E wr∧SB w.heap.size S w D wr∧Bx K D wr w.heap.size #[.slice (some ⟨K,0,none⟩) C.ts.length H,.int .i64 E.pos,.int .i64 C.fin,.bool C.scr,.slice D.rq.a E.rq.length D.rq.cap,.slice D.im.a E.im.length D.im.cap,.slice D.ep.a E.ep.length D.ep.cap,.slice D.st.a E.st.length D.st.cap,.slice D.ex.a E.ex.length D.ex.cap,.slice D.la.a E.la.length D.la.cap,.int .i64 z',.int .i64 d]∧Bx K D wr (w.heap.size+1) #[.slice none 0 0,.int .i64 0,.int .i64 0,.bool false,.slice none 0 0,.slice none 0 0,.slice none 0 0,.slice none 0 0,.slice none 0 0,.slice none 0 0,.int .i64 0,.int .i64 0])
 case atStart=>exact⟨_,S1,q1,z1,X.out,by rw[zO];exact zaf fun a _=>(ziF C d a).symm,fun _=>by omega,fun Y=>zrn HX.out X.out HL.out Y,(F.put0 ..).m,(F.put0 ..).t,(F.put0 ..).x0,(F.put0 ..).x1⟩
 case round=>
  obtain⟨x2,S2,I,z2,i2,e2,l2,b2,m2,t2,X0,X1⟩:=hrel
  have F:=Fm.of2 X0 X1 m2 t2 (by omega) (by omega) (by omega)
  have aa:=zc i2
  have V:=zc e2
  have ae:=zc l2
  have ad:=zc b2
  have ak:=m2.inv.ex
  clear X0 X1 i2 m2 t2 e2 l2 b2
  cases Z:(decide (z2<0)&&isT C I.pos 4 zy) with
  |true=>
   have J:=F.x0.boxC
   go_wp2_with fail
   refine (zj C K H A S2 I z2 d 4 zy _ F.m.tok M (by decide)).mono ?_
   rintro e w3 ⟨rfl,O⟩
   rw[Z]
   replace F:=F.below O
   clear J
   rw[Bool.and_eq_true,decide_eq_true_eq] at Z
   obtain⟨Y,hs⟩:=Z
   have hp:I.pos<C.ts.length:=za8 hs (by decide)
   obtain⟨rfl,rfl⟩:=zaG aa.out Y
   have aj:=ae.out Y
   have ag:=ad.out Y
   skip
   have J:=F.x0.boxC
   go_wp2_with fail
   refine (HP.out (.ok (adv I)) S2 (adv I) (-1) d _ (zaa _) ((F.adv hp).set0_1 _).m (fun _=>by rw[zz];omega) L).mono ?_
   rintro e w4 ⟨S4,q4,z4,rfl,U,m4,s4⟩
   replace F:=(F.set0_1 _).stp m4 s4
   clear J
   have J:=F.x0.boxC
   unfold pv
   go_upto_region 6 with fail
   refine (F.put0 ..).cut ?_
   clear J
   intro w5 F
   have J:=F.x0.boxC
   have af:=F.m.inv.ex
   go_wp2_with fail
   refine (zdd C K H A _ S4 q4 z4 d ⟨8,0,sNone,sNone,(I.ex.length:Int)-1,(q4.ex.length:Int)-1⟩ _ U.out F.m (fun h=>zrp U.out h)).mono ?_
   rintro e w6 ⟨S6,q6,z6,rfl,ac,m6,s6⟩
   replace F:=F.stp m6 s6
   clear J
   have HI:Hid (Is (bd (bd (.ok (adv I)) (pE C .part d)) fun E=>zQ C ⟨8,0,sNone,sNone,(I.ex.length:Int)-1,(E.ex.length:Int)-1⟩ E) q6 z6):=by rw[←zhO U.out (fun E=>⟨8,0,sNone,sNone,(I.ex.length:Int)-1,(E.ex.length:Int)-1⟩)];exact ac.out
   have N:Hid (z6<0→I.pos+1≤q6.pos):=fun h=>zrq HI.out h
   have J:=F.x0.boxC
   unfold pv
   go_wp2
   go_roundg (gk-1)
   case rel=>exact⟨_,S6,q6,z6,HI.out,by rw[←V.out];exact (zrr (d:=d) hs hp).symm,fun h=>by have:=N.out h;omega,fun h=>by have:=N.out h;omega,(F.put0 ..).m,(F.put0 ..).t,(F.put0 ..).x0,(F.put0 ..).x1⟩
   case measure=>omega
  |false=>
   have J:=F.x0.boxC
   go_wp2_with fail
   refine (zj C K H A S2 I z2 d 4 zy _ F.m.tok M (by decide)).mono ?_
   rintro e w3 ⟨rfl,O⟩
   rw[Z]
   replace F:=F.below O
   clear J
   have J:=F.x0.boxC
   obtain⟨b0,b1,b2,b3,b4,b5,b6,b7,b8,b9,ah,ai,bf⟩:=F.x1.box
   go_wp2
   refine bodyPost_ret (results_cell_row rfl _ _ (w.heap.size+1) 101 _ (0,0) _ rfl ((F.x1.put ..)).heap Tryz.underlying101 rfl (by kernel_rfl)) rfl ?_
   exact zac rfl (show Is (bd x (pE C .prod d)) I z2 from by rw[←V.out];exact zrs aa.out Z) (F.put1 ..).m (F.put1 ..).t
theorem zkM {C:Cx} {N H A m:Nat} (hP:zkG C N H A m):SumOK C N H A m:=by
 intro x S q z d w hx hm hl O
 have HP:=zc hP
 have HM:=zc hm
 have HX:=zc hx
 have HL:=zc hl
 have J:=hm.few
 clear hP hm hx hl
 unfold pv
 go_enter Tryz.func92,Tryz.ntmps92
 go_wp2_with fail
 refine (HP.out x S q z d _ HX.out ((HM.out.alloc _).alloc _) HL.out O).mono ?_
 rintro e w1 ⟨S1,q1,z1,rfl,aj,m1,s1⟩
 have F:=HM.out.fm2 m1 s1
 have E:=F.x0.boxC
 unfold pv
 go_wp2
 go_loopg [] (C.ts.length+1) (fun k wr=>∃(x':PR) (M:Sv) (I:PS) (z':Int),Is x' I z'∧bd x' (pE C .sumT d)=bd x (pE C .sum d)∧(z'<0→C.ts.length-I.pos<k)∧(z'<0→C.ts.length-I.pos<m)∧Mem C N H A M I wr∧SB w.heap.size S w M wr∧Bx N M wr w.heap.size #[.slice (some ⟨N,0,none⟩) C.ts.length H,.int .i64 I.pos,.int .i64 C.fin,.bool C.scr,.slice M.rq.a I.rq.length M.rq.cap,.slice M.im.a I.im.length M.im.cap,.slice M.ep.a I.ep.length M.ep.cap,.slice M.st.a I.st.length M.st.cap,.slice M.ex.a I.ex.length M.ex.cap,.slice M.la.a I.la.length M.la.cap,.int .i64 z',.int .i64 d]∧Bx N M wr (w.heap.size+1) #[.slice none 0 0,.int .i64 0,.int .i64 0,.bool false,.slice none 0 0,.slice none 0 0,.slice none 0 0,.slice none 0 0,.slice none 0 0,.slice none 0 0,.int .i64 0,.int .i64 0])
 case atStart=>exact⟨_,S1,q1,z1,aj.out,by rw[zO];exact zaf fun a _=>(ziE C d a).symm,fun _=>by omega,fun X=>zro HX.out aj.out HL.out X,(F.put0 ..).m,(F.put0 ..).t,(F.put0 ..).x0,(F.put0 ..).x1⟩
 case round=>
  obtain⟨x2,Y,D,V,i2,e2,l2,b2,m2,t2,X0,X1⟩:=hrel
  have F:=Fm.of2 X0 X1 m2 t2 (by omega) (by omega) (by omega)
  have ae:=zc i2
  have ac:=zc e2
  have ai:=zc l2
  have ag:=zc b2
  have au:=m2.inv.ex
  clear X0 X1 i2 m2 t2 e2 l2 b2
  cases hc:(decide (V<0)&&isT C D.pos 4 zcw) with
  |true=>
   have E:=F.x0.boxC
   go_wp2_with fail
   refine (zj C N H A Y D V d 4 zcw _ F.m.tok J (by decide)).mono ?_
   rintro e w3 ⟨rfl,af⟩
   rw[hc]
   replace F:=F.below af
   clear E
   rw[Bool.and_eq_true,decide_eq_true_eq] at hc
   obtain⟨X,Z⟩:=hc
   have ah:isT C D.pos 4 zbk=false:=zru Z
   have K:(decide (V<0)&&isT C D.pos 4 zbk)=false:=by rw[ah,Bool.and_false]
   have E:=F.x0.boxC
   go_wp2_with fail
   refine (zj C N H A Y D V d 4 zbk _ F.m.tok J (by decide)).mono ?_
   rintro e w4 ⟨rfl,U⟩
   rw[K]
   replace F:=F.below U
   clear E
   clear K
   have hp:D.pos<C.ts.length:=za8 Z (by decide)
   obtain⟨rfl,rfl⟩:=zaG ae.out X
   have an:=ai.out X
   have al:=ag.out X
   skip
   have E:=F.x0.boxC
   go_wp2_with fail
   refine (HP.out (.ok (adv D)) Y (adv D) (-1) d _ (zaa _) ((F.adv hp).set0_1 _).m (fun _=>by rw[zz];omega) O).mono ?_
   rintro e w5 ⟨S5,q5,z5,rfl,ad,m5,s5⟩
   replace F:=(F.set0_1 _).stp m5 s5
   clear E
   have E:=F.x0.boxC
   unfold pv
   go_upto_region 9 with fail
   refine (F.put0 ..).cut ?_
   clear E
   intro w6 F
   have E:=F.x0.boxC
   have ak:=F.m.inv.ex
   go_wp2_with fail
   refine (zdd C N H A _ S5 q5 z5 d ⟨6,0,sNone,sNone,(D.ex.length:Int)-1,(q5.ex.length:Int)-1⟩ _ ad.out F.m (fun h=>zkI ad.out h)).mono ?_
   rintro e w7 ⟨S7,q7,z7,rfl,ao,m7,s7⟩
   replace F:=F.stp m7 s7
   clear E
   have HI:Hid (Is (bd (bd (.ok (adv D)) (pE C .prod d)) fun I=>zQ C ⟨6,0,sNone,sNone,(D.ex.length:Int)-1,(I.ex.length:Int)-1⟩ I) q7 z7):=by rw[←zhO ad.out (fun I=>⟨6,0,sNone,sNone,(D.ex.length:Int)-1,(I.ex.length:Int)-1⟩)];exact ao.out
   have L:Hid (z7<0→D.pos+1≤q7.pos):=fun h=>zkJ HI.out h
   have E:=F.x0.boxC
   unfold pv
   go_wp2
   go_roundg (gk-1)
   case rel=>exact⟨_,S7,q7,z7,HI.out,by rw[←ac.out];exact (zkK (d:=d) (by rw[Z];rfl) (show zdv C D.pos=6 by rw[zdv,ah];rfl) hp).symm,fun h=>by have:=L.out h;omega,fun h=>by have:=L.out h;omega,(F.put0 ..).m,(F.put0 ..).t,(F.put0 ..).x0,(F.put0 ..).x1⟩
   case measure=>omega
  |false=>
   have E:=F.x0.boxC
   go_wp2_with fail
   refine (zj C N H A Y D V d 4 zcw _ F.m.tok J (by decide)).mono ?_
   rintro e w3 ⟨rfl,af⟩
   rw[hc]
   replace F:=F.below af
   clear E
   cases K:(decide (V<0)&&isT C D.pos 4 zbk) with
   |true=>
    have E:=F.x0.boxC
    go_wp2_with fail
    refine (zj C N H A Y D V d 4 zbk _ F.m.tok J (by decide)).mono ?_
    rintro e w4 ⟨rfl,U⟩
    rw[K]
    replace F:=F.below U
    clear E
    have E:=F.x0.boxC
    go_wp2_with fail
    refine (zj C N H A Y D V d 4 zbk _ F.m.tok J (by decide)).mono ?_
    rintro e w5 ⟨rfl,am⟩
    rw[K]
    replace F:=F.below am
    clear E
    rw[Bool.and_eq_true,decide_eq_true_eq] at K
    obtain⟨X,Z⟩:=K
    have hp:D.pos<C.ts.length:=za8 Z (by decide)
    obtain⟨rfl,rfl⟩:=zaG ae.out X
    have an:=ai.out X
    have al:=ag.out X
    skip
    have E:=F.x0.boxC
    go_wp2_with fail
    refine (HP.out (.ok (adv D)) Y (adv D) (-1) d _ (zaa _) ((F.adv hp).set0_1 _).m (fun _=>by rw[zz];omega) O).mono ?_
    rintro e w6 ⟨S6,q6,z6,rfl,aa,m6,s6⟩
    replace F:=(F.set0_1 _).stp m6 s6
    clear E
    have E:=F.x0.boxC
    unfold pv
    go_upto_region 9 with fail
    refine (F.put0 ..).cut ?_
    clear E
    intro w7 F
    have E:=F.x0.boxC
    have ak:=F.m.inv.ex
    go_wp2_with fail
    refine (zdd C N H A _ S6 q6 z6 d ⟨7,0,sNone,sNone,(D.ex.length:Int)-1,(q6.ex.length:Int)-1⟩ _ aa.out F.m (fun h=>zkI aa.out h)).mono ?_
    rintro e w8 ⟨S8,q8,z8,rfl,ap,m8,s8⟩
    replace F:=F.stp m8 s8
    clear E
    have HI:Hid (Is (bd (bd (.ok (adv D)) (pE C .prod d)) fun I=>zQ C ⟨7,0,sNone,sNone,(D.ex.length:Int)-1,(I.ex.length:Int)-1⟩ I) q8 z8):=by rw[←zhO aa.out (fun I=>⟨7,0,sNone,sNone,(D.ex.length:Int)-1,(I.ex.length:Int)-1⟩)];exact ap.out
    have L:Hid (z8<0→D.pos+1≤q8.pos):=fun h=>zkJ HI.out h
    have E:=F.x0.boxC
    unfold pv
    go_wp2
    go_roundg (gk-1)
    case rel=>exact⟨_,S8,q8,z8,HI.out,by rw[←ac.out];exact (zkK (d:=d) (by rw[Z,Bool.or_true]) (show zdv C D.pos=7 by rw[zdv,Z];rfl) hp).symm,fun h=>by have:=L.out h;omega,fun h=>by have:=L.out h;omega,(F.put0 ..).m,(F.put0 ..).t,(F.put0 ..).x0,(F.put0 ..).x1⟩
    case measure=>omega
   |false=>
    have E:=F.x0.boxC
    go_wp2_with fail
    refine (zj C N H A Y D V d 4 zbk _ F.m.tok J (by decide)).mono ?_
    rintro e w4 ⟨rfl,U⟩
    rw[K]
    replace F:=F.below U
    clear E
    have E:=F.x0.boxC
    obtain⟨b0,b1,b2,b3,b4,b5,b6,b7,b8,b9,aq,ar,bf⟩:=F.x1.box
    go_wp2
    refine bodyPost_ret (results_cell_row rfl _ _ (w.heap.size+1) 101 _ (0,0) _ rfl ((F.x1.put ..)).heap Tryz.underlying101 rfl (by kernel_rfl)) rfl ?_
    exact zac rfl (show Is (bd x (pE C .sum d)) D V from by rw[←ac.out];exact zrt ae.out hc K) (F.put1 ..).m (F.put1 ..).t
theorem zrv (C:Cx) (H A h:Nat):zhN C H A h 0:=by
 intro x S q z d w M K L N
 by_cases J:z<0
 ·have:=L J
  omega
 ·obtain⟨e,rfl,rfl⟩:=zd1 M J
  rw[ze3]
  obtain⟨I,D,E⟩:=C
  cases E with
  |true=>exact zkE I D H A h S q d w K e
  |false=>exact zkF I D H A h S q d w K e
theorem zrw (C:Cx) (w q h:Nat) (m:Nat):SumOK C w q h m:=by
 induction m with
 |zero=>exact zkM (zkL (zrv C w q h))
 |succ m z=>exact zkM (zkL (zrm z))
theorem zdp (C:Cx) (D A h:Nat) (x:PR) (S:Sv) (q:PS) (z:Int) (w:World) (E:Is x q z) (H:Mem C D A h S q w):
  Calls Tryz.prog 92 #[pv C D A S q z 0] w (Out C D A h (bd x (pE C .sum 0)) 0 S w):=
 zrw C D A h (C.ts.length+1) x S q z 0 w E H (fun _=>by omega) (by omega)
theorem Is2.withN {y:PRN} {q q':PS} {z z':Int} {n:ByteArray} {F:PR→ByteArray→PR} (h:Is2 y q z n) (D: ∀e n,F (.error e) n= .error e) (w:Is (F (zaR y) n) q' z'):Is2 (withN y F) q' z' n:=by
 cases y with
 |ok a=>
  obtain⟨_,_,rfl⟩:=h
  have e:zaR (.ok a)= .ok a.1:=rfl
  rw[e] at w
  show Is2 (bd (F (.ok a.1) a.2) fun q=>.ok (q,a.2)) q' z' a.2
  cases A:F (.ok a.1) a.2 with
  |ok b=>rw[A] at w;exact⟨w.1,w.2,rfl⟩
  |error e=>rw[A] at w;exact w
 |error e=>
  have E:zaR (.error e)= .error e:=rfl
  rw[E,D] at w
  exact w
theorem zkN {C:Cx} {E q h:Nat} {y:PRN} {d:Nat} {S z:Sv} {w D:World} {q':PS} {z':Int} {A:ByteArray} {v:Value} (H:v=pv C E q z q' z' d) (J:Is2 y q' z' A) (K:Mem C E q h z q' D) (I:SB w.heap.size S w z D):zdA C E q h y d S w (.returned (.tuple #[v,.string A])) D:=
 ⟨z,q',z',A,by rw[H],J,K,I.done⟩
theorem zhP (C:Cx) (A z h:Nat) (S:Sv) (q:PS) (w:World) (N:Mem C A z h S q w):
  Calls Tryz.prog 89 #[pv C A z S q (-1) 0] w (zdA C A z h (zcK C q) 0 S w):=by
 have O:=zc N
 clear N
 unfold pv
 go_enter Tryz.func89,Tryz.ntmps89
 go_wp2_with fail
 refine (zaM C A z h (.ok q) S q (-1) 0 zF _ (zaa q) ((O.out.alloc _).alloc _)).mono ?_
 rintro e w1 ⟨S1,q1,z1,rfl,L,m1,s1⟩
 have F:=O.out.fm2 m1 s1
 go_wp2_with fail
 refine (zbl C A z h _ S1 q1 z1 0 false _ L.out F.m).mono ?_
 rintro e w2 ⟨S2,q2,Y,n2,rfl,D,m2,U⟩
 replace F:=F.stp m2 U
 have M:w.heap.size+1<w2.heap.size:=F.x1.lt
 unfold pv
 go_wp2_with fail
 refine (zai C A z h _ S2 q2 Y 0 cEq _ D.out.fst (F.alloc _).m).mono ?_
 rintro e w3 ⟨S3,q3,z3,rfl,H,m3,s3⟩
 replace F:=(F.new2 _).stp m3 s3
 go_wp2_with fail
 refine (zdp C A z h _ S3 q3 z3 _ H.out F.m).mono ?_
 rintro e w4 ⟨S4,q4,Z,rfl,K,m4,s4⟩
 replace F:=F.stp m4 s4
 go_wp2_with fail
 refine (zai C A z h _ S4 q4 Z 0 cSemi _ K.out F.m).mono ?_
 rintro e w5 ⟨S5,q5,z5,rfl,E,V,X⟩
 replace F:=F.stp V X
 have J:=F.x2.boxC
 unfold pv
 go_upto_region 3 with fail
 refine (F.put2 ..).cut ?_
 clear J
 intro w6 F
 have J:=F.x2.boxC
 go_wp2_with fail
 refine (zde C A z h _ S5 q5 z5 0 1 n2 _ E.out F.m (zbu E.out)).mono ?_
 rintro e w7 ⟨S7,q7,z7,rfl,I,m7,s7⟩
 replace F:=F.stp m7 s7
 clear J
 have bb:=F.x1.boxC
 unfold pv
 go_wp2
 refine bodyPost_ret (zaI rfl _ _ (w.heap.size+1) 101 _ (0,0) _ rfl ((F.x1.put ..)).heap Tryz.underlying101 rfl (by kernel_rfl)) rfl ?_
 exact zkN rfl (D.out.withN (F:=fun x n=>_) (fun _ _=>rfl) I.out) (F.put1 ..).m (F.put1 ..).t
theorem zhQ (C:Cx) (A z h:Nat) (S:Sv) (q:PS) (w:World) (hm:Mem C A z h S q w):
  Calls Tryz.prog 90 #[pv C A z S q (-1) 0] w (zdA C A z h (fnP C q) 0 S w):=by
 have HM:=zc hm
 clear hm
 unfold pv
 go_enter Tryz.func90,Tryz.ntmps90
 go_wp2_with fail
 refine (zaM C A z h (.ok q) S q (-1) 0 zU _ (zaa q) ((HM.out.alloc _).alloc _)).mono ?_
 rintro e w1 ⟨S1,q1,z1,rfl,X,m1,s1⟩
 have F:=HM.out.fm2 m1 s1
 go_wp2_with fail
 refine (zbl C A z h _ S1 q1 z1 0 false _ X.out F.m).mono ?_
 rintro e w2 ⟨S2,q2,z2,n2,rfl,J,m2,s2⟩
 replace F:=F.stp m2 s2
 have ai:w.heap.size+1<w2.heap.size:=F.x1.lt
 unfold pv
 go_wp2_with fail
 refine (zai C A z h _ S2 q2 z2 0 zo _ J.out.fst (F.alloc _).m).mono ?_
 rintro e w3 ⟨S3,q3,z3,rfl,K,m3,s3⟩
 replace F:=(F.new2 _).stp m3 s3
 go_wp2_with fail
 refine (zai C A z h _ S3 q3 z3 0 za7 _ K.out F.m).mono ?_
 rintro e w4 ⟨S4,q4,z4,rfl,ag,m4,s4⟩
 replace F:=F.stp m4 s4
 go_wp2_with fail
 refine (zai C A z h _ S4 q4 z4 0 zM _ ag.out F.m).mono ?_
 rintro e w5 ⟨S5,q5,z5,rfl,ac,m5,s5⟩
 replace F:=F.stp m5 s5
 have D:=F.x2.boxC
 unfold pv
 go_upto_region 3 with fail
 refine (F.put2 ..).cut ?_
 clear D
 intro w6 F
 have D:=F.x2.boxC
 go_wp2_with fail
 refine (zaM C A z h _ S5 q5 z5 0 ze2 _ ac.out F.m).mono ?_
 rintro e w7 ⟨S7,q7,z7,rfl,aa,m7,s7⟩
 replace F:=F.stp m7 s7
 clear D
 go_wp2_with fail
 refine (zdp C A z h _ S7 q7 z7 _ aa.out F.m).mono ?_
 rintro e w8 ⟨S8,q8,z8,rfl,ab,m8,s8⟩
 replace F:=F.stp m8 s8
 have D:=F.x2.boxC
 unfold pv
 go_upto_region 4 with fail
 refine (F.put2 ..).cut ?_
 clear D
 intro w9 F
 have D:=F.x2.boxC
 go_wp2_with fail
 refine (zai C A z h _ S8 q8 z8 0 cSemi _ ab.out F.m).mono ?_
 rintro e an ⟨N,Z,O,rfl,I,ae,U⟩
 replace F:=F.stp ae U
 clear D
 go_wp2_with fail
 refine (zai C A z h _ N Z O 0 zbx _ I.out F.m).mono ?_
 rintro e am ⟨ad,V,Y,rfl,E,af,L⟩
 replace F:=F.stp af L
 have D:=F.x2.boxC
 unfold pv
 go_upto_region 5 with fail
 refine (F.put2 ..).cut ?_
 clear D
 intro aj F
 have D:=F.x2.boxC
 go_wp2_with fail
 refine (zde C A z h _ ad V Y 0 2 n2 _ E.out F.m (zbu E.out)).mono ?_
 rintro e al ⟨ak,ap,ao,rfl,H,M,ah⟩
 replace F:=F.stp M ah
 clear D
 have bb:=F.x1.boxC
 unfold pv
 go_wp2
 refine bodyPost_ret (zaI rfl _ _ (w.heap.size+1) 101 _ (0,0) _ rfl ((F.x1.put ..)).heap Tryz.underlying101 rfl (by kernel_rfl)) rfl ?_
 exact zkN rfl (J.out.withN (F:=fun x n=>_) (fun _ _=>rfl) H.out) (F.put1 ..).m (F.put1 ..).t
end Go.Proofs.YtcidlffeeninbaaGreat
