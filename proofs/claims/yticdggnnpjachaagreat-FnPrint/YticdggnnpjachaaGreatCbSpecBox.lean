/-
 Boxes of a program under way,through calls and stores. No program is spoken of but for the numbers of its types.
-/
import Derived.Test.YticdggnnpjachaaGreatCbDrawModMemToSpecParseE
import Derived.Deep.Cut
namespace Go.Proofs.YticdggnnpjachaaGreat
open Go.RowKit Go.PlainAid
abbrev set12 (w:World) (b:Nat) (x0 x1 x2 x3 x4 x5 x6 x7 x8 x9 x10 x11:Value):World:=
 ((((((((((((w.setCell ⟨b,0,none⟩ x0).setCell ⟨b,1,none⟩ x1).setCell ⟨b,2,none⟩ x2).setCell ⟨b,3,none⟩ x3).setCell ⟨b,4,none⟩ x4).setCell ⟨b,5,none⟩ x5).setCell ⟨b,6,none⟩ x6).setCell ⟨b,7,none⟩ x7).setCell ⟨b,8,none⟩ x8).setCell ⟨b,9,none⟩ x9).setCell ⟨b,10,none⟩ x10).setCell ⟨b,11,none⟩ x11)
theorem zgC (w:World) (a:Addr) (u:Value):(w.setCell a u).heap.size=w.heap.size:=by show (w.heap.modify _ _).size=_;simp
theorem zmW (w:World) (b:Nat) (J E o I D q A z K H n j:Value):(set12 w b J E o I D q A z K H n j).heap.size=w.heap.size:=by
 unfold set12
 simp only[zgC]
theorem zeQ {w:World} {b k:Nat} (h:k≠b) (z H q J E o D A K I n j:Value):(set12 w b z H q J E o D A K I n j).heap[k]? =w.heap[k]?:=by
 unfold set12
 rw[zi h,zi h,zi h,zi h,zi h,zi h,zi h,zi h,zi h,zi h,zi h,zi h]
structure Bx (gt:Nat) (S:Sv) (w:World) (b:Nat) (cs:Array Value):Prop where
 heap:w.heap[b]? =some (.cells cs 53 (0,0))
 free: ¬S.has b
 ne:b≠gt
theorem Bx.lt {j b:Nat} {S:Sv} {w:World} {n:Array Value} (h:Bx j S w b n):b<w.heap.size:=(Array.getElem?_eq_some_iff.1 h.heap).1
theorem Bx.stp {j b:Nat} {S o:Sv} {w q:World} {n:Array Value} (h:Bx j S w b n) (k:Stp S w o q):Bx j o q b n:=
 ⟨(k.block b h.lt h.free).trans h.heap,fun g=>(k.sub b g).elim h.free fun z=>by have:=h.lt;omega,h.ne⟩
theorem Bx.below {j b:Nat} {S:Sv} {w n:World} {o:Array Value} (h:Bx j S w b o) (k:Below w.heap.size w n):Bx j S n b o:=⟨(k.block b h.lt).trans h.heap,h.free,h.ne⟩
theorem Bx.alloc {j b:Nat} {S:Sv} {w:World} {n:Array Value} (h:Bx j S w b n) (o:Obj):Bx j S (w.alloc o) b n:=h.below ((Below.refl _ _).alloc (Nat.le_refl _) _)
theorem Bx.new {C:Cx} {o n j:Nat} {S:Sv} {q:PS} {w:World} (h:Mem C o n j S q w) (z:Array Value):Bx o S (w.alloc (.cells z 53 (0,0))) w.heap.size z:=
 ⟨heap_alloc_new w _,fun g=>by have:=(h.own.has g).2;omega,by have:=(zan h.tok).1;omega⟩
theorem Bx.set {j b:Nat} {S:Sv} {w:World} {n:Array Value} (h:Bx j S w b n) (i:Nat) (u:Value):Bx j S (w.setCell ⟨b,i,none⟩ u) b (n.setIfInBounds i u):=⟨zbW h.heap,h.free,h.ne⟩
theorem Bx.set_other {j b c:Nat} {S:Sv} {w:World} {n:Array Value} (h:Bx j S w b n) (o:b≠c) (i:Nat) (u:Value):Bx j S (w.setCell ⟨c,i,none⟩ u) b n:=⟨(zi o).trans h.heap,h.free,h.ne⟩
theorem Bx.put {E b:Nat} {S:Sv} {w:World} {v0 O Y X v4 V Q v7 Z U q o:Value} (h:Bx E S w b #[v0,O,Y,X,v4,V,Q,v7,Z,U,q,o]) (N I H J L z D A K M j n:Value):
  Bx E S (set12 w b N I H J L z D A K M j n) b #[N,I,H,J,L,z,D,A,K,M,j,n]:=⟨zaS h.heap,h.free,h.ne⟩
theorem Bx.other {o b c:Nat} {S:Sv} {w:World} {q:Array Value} (h:Bx o S w b q) (I:b≠c) (D K A M J z H E N L n j:Value):Bx o S (set12 w c D K A M J z H E N L n j) b q:=⟨(zeQ I ..).trans h.heap,h.free,h.ne⟩
theorem Bx.at1 {z b:Nat} {S:Sv} {w:World} {H L o J K q A I E D j n:Value} (h:Bx z S w b #[H,L,o,J,K,q,A,I,E,D,j,n]) (u:Value):Bx z S (w.setCell ⟨b,1,none⟩ u) b #[H,u,o,J,K,q,A,I,E,D,j,n]:=by simpa using h.set 1 u
theorem Bx.at11 {z b:Nat} {S:Sv} {w:World} {I A o K L q D J H E j n:Value} (h:Bx z S w b #[I,A,o,K,L,q,D,J,H,E,j,n]) (u:Value):Bx z S (w.setCell ⟨b,11,none⟩ u) b #[I,A,o,K,L,q,D,J,H,E,j,u]:=by simpa using h.set 11 u
theorem Bx.box {L b:Nat} {S:Sv} {w:World} {H z o J K q A I E D j n:Value} (h:Bx L S w b #[H,z,o,J,K,q,A,I,E,D,j,n]):Box w b H z o J K q A I E D j n:=zaj h.heap
theorem Mem.set {C:Cx} {o n j b:Nat} {S:Sv} {q:PS} {w:World} (h:Mem C o n j S q w) {A:Array Value} (z:Bx o S w b A) (i:Nat) (u:Value):Mem C o n j S q (w.setCell ⟨b,i,none⟩ u):=
 ⟨h.own.keep fun k g=>zi (b:=k) fun e=>z.free (by rw[←e];exact g),h.inv,zb0 h.tok (zi z.ne.symm),h.few,by rw[zgC];exact h.base⟩
theorem Mem.put {C:Cx} {o n j b:Nat} {S:Sv} {q:PS} {w:World} (h:Mem C o n j S q w) {N:Array Value} (D:Bx o S w b N) (I M H Q L E K J U O A z:Value):Mem C o n j S q (set12 w b I M H Q L E K J U O A z):=
 ⟨h.own.keep fun k g=>zeQ (k:=k) (fun e=>D.free (by rw[←e];exact g)) _ _ _ _ _ _ _ _ _ _ _ _,h.inv,zb0 h.tok (zeQ D.ne.symm ..),h.few,by rw[zmW];exact h.base⟩
structure SB (B:Nat) (S:Sv) (w:World) (S':Sv) (w':World):Prop where
 os:w'.os=w.os
 tape:w'.tape=w.tape
 output:w'.output=w.output
 size:w.heap.size≤w'.heap.size
 low:B≤w.heap.size
 block: ∀k,k<B→¬S.has k→w'.heap[k]? =w.heap[k]?
 sub: ∀k,S'.has k→S.has k∨B≤k
theorem SB.start {S:Sv} {w j:World} (h:Below w.heap.size w j):SB w.heap.size S w S j:=⟨h.os,h.tape,h.output,h.size,Nat.le_refl _,fun k n _=>h.block k n,fun _ g=>.inl g⟩
theorem SB.step {B:Nat} {S z n:Sv} {w A q:World} (h:SB B S w z A) (k:Stp z A n q):SB B S w n q:=
 ⟨k.os.trans h.os,k.tape.trans h.tape,k.output.trans h.output,Nat.le_trans h.size k.size,h.low,
  fun i j o=>(k.block i (by have:=h.size;have:=h.low;omega) fun g=>(h.sub i g).elim o fun D=>by omega).trans (h.block i j o),
  fun i j=>(k.sub i j).elim (h.sub i) fun g=>.inr (by have:=h.size;have:=h.low;omega)⟩
theorem SB.below {B:Nat} {S o:Sv} {w j n:World} (h:SB B S w o j) (k:Below j.heap.size j n):SB B S w o n:=h.step (Stp.below k)
theorem SB.alloc {B:Nat} {S j:Sv} {w n:World} (h:SB B S w j n) (o:Obj):SB B S w j (n.alloc o):=h.below ((Below.refl _ _).alloc (Nat.le_refl _) _)
theorem SB.set {B:Nat} {S j:Sv} {w n:World} (h:SB B S w j n) {b:Nat} (z:B≤b) (i:Nat) (u:Value):SB B S w j (n.setCell ⟨b,i,none⟩ u):=
 ⟨h.os,h.tape,h.output,by rw[zgC];exact h.size,h.low,fun k q o=>(zi (by omega)).trans (h.block k q o),h.sub⟩
theorem SB.put {B:Nat} {S J:Sv} {w K:World} (h:SB B S w J K) {b:Nat} (j:B≤b) (A I z M H q E D N L o n:Value):SB B S w J (set12 K b A I z M H q E D N L o n):=
 (((((((((((h.set j 0 A).set j 1 I).set j 2 z).set j 3 M).set j 4 H).set j 5 q).set j 6 E).set j 7 D).set j 8 N).set j 9 L).set j 10 o).set j 11 n
theorem SB.done {S j:Sv} {w n:World} (h:SB w.heap.size S w j n):Stp S w j n:=⟨h.os,h.tape,h.output,h.size,h.block,h.sub⟩
theorem zL {P:Program} {j:Code} {Q:Exit→Act→World→Prop} {a:Act} {w0:World} {R:World→Prop} (n:R w0) (h: ∀W,R W→Code.wp P j Q a W):Code.wp P j Q a w0:=h w0 n
theorem Mem.two {C:Cx} {z n j:Nat} {S:Sv} {q:PS} {w o:World} {A cb:Array Value} (h:Mem C z n j S q w) (D:Below ((w.alloc (.cells A 53 (0,0))).alloc (.cells cb 53 (0,0))).heap.size ((w.alloc (.cells A 53 (0,0))).alloc (.cells cb 53 (0,0))) o):
  Bx z S o w.heap.size A∧Bx z S o (w.heap.size+1) cb∧Mem C z n j S q o∧SB w.heap.size S w S o:=
 ⟨((Bx.new h _).alloc _).below D,by have:=(Bx.new (h.alloc (.cells A 53 (0,0))) cb).below D;rw[zk] at this;exact this,h.later (zaZ D),SB.start (zaZ D)⟩
theorem Mem.two2 {C:Cx} {z A j:Nat} {S n:Sv} {q:PS} {w o:World} {D cb:Array Value} (h:Mem C z A j S q w) (s:Stp S ((w.alloc (.cells D 53 (0,0))).alloc (.cells cb 53 (0,0))) n o):
  Bx z n o w.heap.size D∧Bx z n o (w.heap.size+1) cb∧SB w.heap.size S w n o:=
 ⟨((Bx.new h _).alloc _).stp s,by have:=(Bx.new (h.alloc (.cells D 53 (0,0))) cb).stp s;rw[zk] at this;exact this,(SB.start (zaT w _ _)).step s⟩
theorem zY {C:Cx} {q n j:Nat} {y:PR} {d:Nat} {S o:Sv} {w z:World} {q':PS} {z':Int} {v:Value} (H:v=pv C q n o q' z' d) (A:Is y q' z') (E:Mem C q n j o q' z) (D:SB w.heap.size S w o z):Out C q n j y d S w (.returned v) z:=
 ⟨o,q',z',by rw[H],A,E,D.done⟩
end Go.Proofs.YticdggnnpjachaaGreat