/-
 Boxes of a program under way,through calls and stores. No program is spoken of but for the numbers of its types.
-/
import Derived.Test.YticdggnnpjachaaGreatCbDrawModMemToSpecParseE
import Derived.Deep.Cut
namespace Go.Proofs.YticdggnnpjachaaGreat
open Go.RowKit Go.PlainAid
abbrev set12 (w:World) (b:Nat) (x0 x1 x2 x3 x4 x5 x6 x7 x8 x9 x10 x11:Value):World:=
 ((((((((((((w.setCell ⟨b,0,none⟩ x0).setCell ⟨b,1,none⟩ x1).setCell ⟨b,2,none⟩ x2).setCell ⟨b,3,none⟩ x3).setCell ⟨b,4,none⟩ x4).setCell ⟨b,5,none⟩ x5).setCell ⟨b,6,none⟩ x6).setCell ⟨b,7,none⟩ x7).setCell ⟨b,8,none⟩ x8).setCell ⟨b,9,none⟩ x9).setCell ⟨b,10,none⟩ x10).setCell ⟨b,11,none⟩ x11)
theorem zgC (w:World) (a:Addr) (u:Value):(w.setCell a u).heap.size=w.heap.size:=by show (w.heap.modify _ _).size=_;simp
theorem zmW (w:World) (b:Nat) (z J E H I K D o q A n j:Value):(set12 w b z J E H I K D o q A n j).heap.size=w.heap.size:=by
 unfold set12
 simp only[zgC]
theorem zeQ {w:World} {b k:Nat} (h:k≠b) (z J H E I K D o q A n j:Value):(set12 w b z J H E I K D o q A n j).heap[k]? =w.heap[k]?:=by
 unfold set12
 rw[zi h,zi h,zi h,zi h,zi h,zi h,zi h,zi h,zi h,zi h,zi h,zi h]
structure Bx (gt:Nat) (S:Sv) (w:World) (b:Nat) (cs:Array Value):Prop where
 heap:w.heap[b]? =some (.cells cs 53 (0,0))
 free: ¬S.has b
 ne:b≠gt
theorem Bx.lt {n b:Nat} {S:Sv} {w:World} {j:Array Value} (h:Bx n S w b j):b<w.heap.size:=(Array.getElem?_eq_some_iff.1 h.heap).1
theorem Bx.stp {q b:Nat} {S n:Sv} {w o:World} {j:Array Value} (h:Bx q S w b j) (k:Stp S w n o):Bx q n o b j:=
 ⟨(k.block b h.lt h.free).trans h.heap,fun g=>(k.sub b g).elim h.free fun z=>by have:=h.lt;omega,h.ne⟩
theorem Bx.below {o b:Nat} {S:Sv} {w j:World} {n:Array Value} (h:Bx o S w b n) (k:Below w.heap.size w j):Bx o S j b n:=⟨(k.block b h.lt).trans h.heap,h.free,h.ne⟩
theorem Bx.alloc {n b:Nat} {S:Sv} {w:World} {j:Array Value} (h:Bx n S w b j) (o:Obj):Bx n S (w.alloc o) b j:=h.below ((Below.refl _ _).alloc (Nat.le_refl _) _)
theorem Bx.new {C:Cx} {z n j:Nat} {S:Sv} {q:PS} {w:World} (h:Mem C z n j S q w) (o:Array Value):Bx z S (w.alloc (.cells o 53 (0,0))) w.heap.size o:=
 ⟨heap_alloc_new w _,fun g=>by have:=(h.own.has g).2;omega,by have:=(zan h.tok).1;omega⟩
theorem Bx.set {n b:Nat} {S:Sv} {w:World} {j:Array Value} (h:Bx n S w b j) (i:Nat) (u:Value):Bx n S (w.setCell ⟨b,i,none⟩ u) b (j.setIfInBounds i u):=⟨zbW h.heap,h.free,h.ne⟩
theorem Bx.set_other {n b c:Nat} {S:Sv} {w:World} {j:Array Value} (h:Bx n S w b j) (o:b≠c) (i:Nat) (u:Value):Bx n S (w.setCell ⟨c,i,none⟩ u) b j:=⟨(zi o).trans h.heap,h.free,h.ne⟩
theorem Bx.put {N b:Nat} {S:Sv} {w:World} {v0 Y U O Z Q v6 X V v9 o q:Value} (h:Bx N S w b #[v0,Y,U,O,Z,Q,v6,X,V,v9,o,q]) (I M A J K E D H L z n j:Value):
  Bx N S (set12 w b I M A J K E D H L z n j) b #[I,M,A,J,K,E,D,H,L,z,n,j]:=⟨zaS h.heap,h.free,h.ne⟩
theorem Bx.other {q b c:Nat} {S:Sv} {w:World} {o:Array Value} (h:Bx q S w b o) (A:b≠c) (E M K J L N I z D H n j:Value):Bx q S (set12 w c E M K J L N I z D H n j) b o:=⟨(zeQ A ..).trans h.heap,h.free,h.ne⟩
theorem Bx.at1 {K b:Nat} {S:Sv} {w:World} {I L z A o D q H E J j n:Value} (h:Bx K S w b #[I,L,z,A,o,D,q,H,E,J,j,n]) (u:Value):Bx K S (w.setCell ⟨b,1,none⟩ u) b #[I,u,z,A,o,D,q,H,E,J,j,n]:=by simpa using h.set 1 u
theorem Bx.at11 {K b:Nat} {S:Sv} {w:World} {I L z A o D q H E J j n:Value} (h:Bx K S w b #[I,L,z,A,o,D,q,H,E,J,j,n]) (u:Value):Bx K S (w.setCell ⟨b,11,none⟩ u) b #[I,L,z,A,o,D,q,H,E,J,j,u]:=by simpa using h.set 11 u
theorem Bx.box {L b:Nat} {S:Sv} {w:World} {I K z A o D q H E J j n:Value} (h:Bx L S w b #[I,K,z,A,o,D,q,H,E,J,j,n]):Box w b I K z A o D q H E J j n:=zaj h.heap
theorem Mem.set {C:Cx} {o n j b:Nat} {S:Sv} {q:PS} {w:World} (h:Mem C o n j S q w) {A:Array Value} (z:Bx o S w b A) (i:Nat) (u:Value):Mem C o n j S q (w.setCell ⟨b,i,none⟩ u):=
 ⟨h.own.keep fun k g=>zi (b:=k) fun e=>z.free (by rw[←e];exact g),h.inv,zb0 h.tok (zi z.ne.symm),h.few,by rw[zgC];exact h.base⟩
theorem Mem.put {C:Cx} {z n j b:Nat} {S:Sv} {q:PS} {w:World} (h:Mem C z n j S q w) {H:Array Value} (D:Bx z S w b H) (J Q N M O U L E I K A o:Value):Mem C z n j S q (set12 w b J Q N M O U L E I K A o):=
 ⟨h.own.keep fun k g=>zeQ (k:=k) (fun e=>D.free (by rw[←e];exact g)) _ _ _ _ _ _ _ _ _ _ _ _,h.inv,zb0 h.tok (zeQ D.ne.symm ..),h.few,by rw[zmW];exact h.base⟩
structure SB (B:Nat) (S:Sv) (w:World) (S':Sv) (w':World):Prop where
 os:w'.os=w.os
 tape:w'.tape=w.tape
 output:w'.output=w.output
 size:w.heap.size≤w'.heap.size
 low:B≤w.heap.size
 block: ∀k,k<B→¬S.has k→w'.heap[k]? =w.heap[k]?
 sub: ∀k,S'.has k→S.has k∨B≤k
theorem SB.start {S:Sv} {w j:World} (h:Below w.heap.size w j):SB w.heap.size S w S j:=⟨h.os,h.tape,h.output,h.size,Nat.le_refl _,fun k n _=>h.block k n,fun _ g=>.inl g⟩
theorem SB.step {B:Nat} {S q A:Sv} {w o n:World} (h:SB B S w q o) (k:Stp q o A n):SB B S w A n:=
 ⟨k.os.trans h.os,k.tape.trans h.tape,k.output.trans h.output,Nat.le_trans h.size k.size,h.low,
  fun i j z=>(k.block i (by have:=h.size;have:=h.low;omega) fun g=>(h.sub i g).elim z fun D=>by omega).trans (h.block i j z),
  fun i j=>(k.sub i j).elim (h.sub i) fun g=>.inr (by have:=h.size;have:=h.low;omega)⟩
theorem SB.below {B:Nat} {S o:Sv} {w j n:World} (h:SB B S w o j) (k:Below j.heap.size j n):SB B S w o n:=h.step (Stp.below k)
theorem SB.alloc {B:Nat} {S j:Sv} {w n:World} (h:SB B S w j n) (o:Obj):SB B S w j (n.alloc o):=h.below ((Below.refl _ _).alloc (Nat.le_refl _) _)
theorem SB.set {B:Nat} {S n:Sv} {w j:World} (h:SB B S w n j) {b:Nat} (z:B≤b) (i:Nat) (u:Value):SB B S w n (j.setCell ⟨b,i,none⟩ u):=
 ⟨h.os,h.tape,h.output,by rw[zgC];exact h.size,h.low,fun k o q=>(zi (by omega)).trans (h.block k o q),h.sub⟩
theorem SB.put {B:Nat} {S K:Sv} {w D:World} (h:SB B S w K D) {b:Nat} (j:B≤b) (A M J I L N H q z E o n:Value):SB B S w K (set12 D b A M J I L N H q z E o n):=
 (((((((((((h.set j 0 A).set j 1 M).set j 2 J).set j 3 I).set j 4 L).set j 5 N).set j 6 H).set j 7 q).set j 8 z).set j 9 E).set j 10 o).set j 11 n
theorem SB.done {S j:Sv} {w n:World} (h:SB w.heap.size S w j n):Stp S w j n:=⟨h.os,h.tape,h.output,h.size,h.block,h.sub⟩
theorem zL {P:Program} {j:Code} {Q:Exit→Act→World→Prop} {a:Act} {w0:World} {R:World→Prop} (n:R w0) (h: ∀W,R W→Code.wp P j Q a W):Code.wp P j Q a w0:=h w0 n
theorem Mem.two {C:Cx} {D o j:Nat} {S:Sv} {q:PS} {w n:World} {z cb:Array Value} (h:Mem C D o j S q w) (A:Below ((w.alloc (.cells z 53 (0,0))).alloc (.cells cb 53 (0,0))).heap.size ((w.alloc (.cells z 53 (0,0))).alloc (.cells cb 53 (0,0))) n):
  Bx D S n w.heap.size z∧Bx D S n (w.heap.size+1) cb∧Mem C D o j S q n∧SB w.heap.size S w S n:=
 ⟨((Bx.new h _).alloc _).below A,by have:=(Bx.new (h.alloc (.cells z 53 (0,0))) cb).below A;rw[zk] at this;exact this,h.later (zaZ A),SB.start (zaZ A)⟩
theorem Mem.two2 {C:Cx} {D A j:Nat} {S o:Sv} {q:PS} {w n:World} {z cb:Array Value} (h:Mem C D A j S q w) (s:Stp S ((w.alloc (.cells z 53 (0,0))).alloc (.cells cb 53 (0,0))) o n):
  Bx D o n w.heap.size z∧Bx D o n (w.heap.size+1) cb∧SB w.heap.size S w o n:=
 ⟨((Bx.new h _).alloc _).stp s,by have:=(Bx.new (h.alloc (.cells z 53 (0,0))) cb).stp s;rw[zk] at this;exact this,(SB.start (zaT w _ _)).step s⟩
theorem zY {C:Cx} {z n j:Nat} {y:PR} {d:Nat} {S o:Sv} {w q:World} {q':PS} {z':Int} {v:Value} (H:v=pv C z n o q' z' d) (D:Is y q' z') (A:Mem C z n j o q' q) (E:SB w.heap.size S w o q):Out C z n j y d S w (.returned v) q:=
 ⟨o,q',z',by rw[H],D,A,E.done⟩
end Go.Proofs.YticdggnnpjachaaGreat