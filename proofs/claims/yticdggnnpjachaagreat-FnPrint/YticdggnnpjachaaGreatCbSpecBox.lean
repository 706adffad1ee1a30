/-
 Boxes of a program under way,through calls and stores. No program is spoken of but for the numbers of its types.
-/
import Derived.Test.YticdggnnpjachaaGreatCbDrawModMemToSpecParseE
import Derived.Deep.Cut
namespace Go.Proofs.YticdggnnpjachaaGreat
open Go.RowKit Go.PlainAid
abbrev set12 (w:World) (b:Nat) (x0 x1 x2 x3 x4 x5 x6 x7 x8 x9 x10 x11:Value):World:=
 ((((((((((((w.setCell ⟨b,0,none⟩ x0).setCell ⟨b,1,none⟩ x1).setCell ⟨b,2,none⟩ x2).setCell ⟨b,3,none⟩ x3).setCell ⟨b,4,none⟩ x4).setCell ⟨b,5,none⟩ x5).setCell ⟨b,6,none⟩ x6).setCell ⟨b,7,none⟩ x7).setCell ⟨b,8,none⟩ x8).setCell ⟨b,9,none⟩ x9).setCell ⟨b,10,none⟩ x10).setCell ⟨b,11,none⟩ x11)
theorem zgC (w:World) (a:Addr) (u:Value):(w.setCell a u).heap.size=w.heap.size:=by show (w.heap.modify _ _).size=_;simp
theorem zmW (w:World) (b:Nat) (E J z D H I K q o A j n:Value):(set12 w b E J z D H I K q o A j n).heap.size=w.heap.size:=by
 unfold set12
 simp only[zgC]
theorem zeQ {w:World} {b k:Nat} (h:k≠b) (E J z D H I K q o A j n:Value):(set12 w b E J z D H I K q o A j n).heap[k]? =w.heap[k]?:=by
 unfold set12
 rw[zi h,zi h,zi h,zi h,zi h,zi h,zi h,zi h,zi h,zi h,zi h,zi h]
structure Bx (gt:Nat) (S:Sv) (w:World) (b:Nat) (cs:Array Value):Prop where
 heap:w.heap[b]? =some (.cells cs 53 (0,0))
 free: ¬S.has b
 ne:b≠gt
theorem Bx.lt {n b:Nat} {S:Sv} {w:World} {j:Array Value} (h:Bx n S w b j):b<w.heap.size:=(Array.getElem?_eq_some_iff.1 h.heap).1
theorem Bx.stp {n b:Nat} {S q:Sv} {w j:World} {o:Array Value} (h:Bx n S w b o) (k:Stp S w q j):Bx n q j b o:=
 ⟨(k.block b h.lt h.free).trans h.heap,fun g=>(k.sub b g).elim h.free fun z=>by have:=h.lt;omega,h.ne⟩
theorem Bx.below {o b:Nat} {S:Sv} {w n:World} {j:Array Value} (h:Bx o S w b j) (k:Below w.heap.size w n):Bx o S n b j:=⟨(k.block b h.lt).trans h.heap,h.free,h.ne⟩
theorem Bx.alloc {n b:Nat} {S:Sv} {w:World} {j:Array Value} (h:Bx n S w b j) (o:Obj):Bx n S (w.alloc o) b j:=h.below ((Below.refl _ _).alloc (Nat.le_refl _) _)
theorem Bx.new {C:Cx} {o n j:Nat} {S:Sv} {q:PS} {w:World} (h:Mem C o n j S q w) (z:Array Value):Bx o S (w.alloc (.cells z 53 (0,0))) w.heap.size z:=
 ⟨heap_alloc_new w _,fun g=>by have:=(h.own.has g).2;omega,by have:=(zan h.tok).1;omega⟩
theorem Bx.set {n b:Nat} {S:Sv} {w:World} {j:Array Value} (h:Bx n S w b j) (i:Nat) (u:Value):Bx n S (w.setCell ⟨b,i,none⟩ u) b (j.setIfInBounds i u):=⟨zbW h.heap,h.free,h.ne⟩
theorem Bx.set_other {j b c:Nat} {S:Sv} {w:World} {n:Array Value} (h:Bx j S w b n) (o:b≠c) (i:Nat) (u:Value):Bx j S (w.setCell ⟨c,i,none⟩ u) b n:=⟨(zi o).trans h.heap,h.free,h.ne⟩
theorem Bx.put {J b:Nat} {S:Sv} {w:World} {Z v1 Q X Y V U v7 v8 O o q:Value} (h:Bx J S w b #[Z,v1,Q,X,Y,V,U,v7,v8,O,o,q]) (A L z H K N M D I E j n:Value):
  Bx J S (set12 w b A L z H K N M D I E j n) b #[A,L,z,H,K,N,M,D,I,E,j,n]:=⟨zaS h.heap,h.free,h.ne⟩
theorem Bx.other {o b c:Nat} {S:Sv} {w:World} {q:Array Value} (h:Bx o S w b q) (E:b≠c) (J M D I K L N A z H j n:Value):Bx o S (set12 w c J M D I K L N A z H j n) b q:=⟨(zeQ E ..).trans h.heap,h.free,h.ne⟩
theorem Bx.at1 {z b:Nat} {S:Sv} {w:World} {q L J K o H D I E A j n:Value} (h:Bx z S w b #[q,L,J,K,o,H,D,I,E,A,j,n]) (u:Value):Bx z S (w.setCell ⟨b,1,none⟩ u) b #[q,u,J,K,o,H,D,I,E,A,j,n]:=by simpa using h.set 1 u
theorem Bx.at11 {z b:Nat} {S:Sv} {w:World} {q K J L o H D I E A j n:Value} (h:Bx z S w b #[q,K,J,L,o,H,D,I,E,A,j,n]) (u:Value):Bx z S (w.setCell ⟨b,11,none⟩ u) b #[q,K,J,L,o,H,D,I,E,A,j,u]:=by simpa using h.set 11 u
theorem Bx.box {L b:Nat} {S:Sv} {w:World} {q J I K o E A H D z j n:Value} (h:Bx L S w b #[q,J,I,K,o,E,A,H,D,z,j,n]):Box w b q J I K o E A H D z j n:=zaj h.heap
theorem Mem.set {C:Cx} {o n j b:Nat} {S:Sv} {q:PS} {w:World} (h:Mem C o n j S q w) {A:Array Value} (z:Bx o S w b A) (i:Nat) (u:Value):Mem C o n j S q (w.setCell ⟨b,i,none⟩ u):=
 ⟨h.own.keep fun k g=>zi (b:=k) fun e=>z.free (by rw[←e];exact g),h.inv,zb0 h.tok (zi z.ne.symm),h.few,by rw[zgC];exact h.base⟩
theorem Mem.put {C:Cx} {z n j b:Nat} {S:Sv} {q:PS} {w:World} (h:Mem C z n j S q w) {L:Array Value} (D:Bx z S w b L) (M Q I K N O U H E J o A:Value):Mem C z n j S q (set12 w b M Q I K N O U H E J o A):=
 ⟨h.own.keep fun k g=>zeQ (k:=k) (fun e=>D.free (by rw[←e];exact g)) _ _ _ _ _ _ _ _ _ _ _ _,h.inv,zb0 h.tok (zeQ D.ne.symm ..),h.few,by rw[zmW];exact h.base⟩
structure SB (B:Nat) (S:Sv) (w:World) (S':Sv) (w':World):Prop where
 os:w'.os=w.os
 tape:w'.tape=w.tape
 output:w'.output=w.output
 size:w.heap.size≤w'.heap.size
 low:B≤w.heap.size
 block: ∀k,k<B→¬S.has k→w'.heap[k]? =w.heap[k]?
 sub: ∀k,S'.has k→S.has k∨B≤k
theorem SB.start {S:Sv} {w j:World} (h:Below w.heap.size w j):SB w.heap.size S w S j:=⟨h.os,h.tape,h.output,h.size,Nat.le_refl _,fun k n _=>h.block k n,fun _ g=>.inl g⟩
theorem SB.step {B:Nat} {S n q:Sv} {w o z:World} (h:SB B S w n o) (k:Stp n o q z):SB B S w q z:=
 ⟨k.os.trans h.os,k.tape.trans h.tape,k.output.trans h.output,Nat.le_trans h.size k.size,h.low,
  fun i j A=>(k.block i (by have:=h.size;have:=h.low;omega) fun g=>(h.sub i g).elim A fun D=>by omega).trans (h.block i j A),
  fun i j=>(k.sub i j).elim (h.sub i) fun g=>.inr (by have:=h.size;have:=h.low;omega)⟩
theorem SB.below {B:Nat} {S n:Sv} {w j o:World} (h:SB B S w n j) (k:Below j.heap.size j o):SB B S w n o:=h.step (Stp.below k)
theorem SB.alloc {B:Nat} {S n:Sv} {w j:World} (h:SB B S w n j) (o:Obj):SB B S w n (j.alloc o):=h.below ((Below.refl _ _).alloc (Nat.le_refl _) _)
theorem SB.set {B:Nat} {S j:Sv} {w n:World} (h:SB B S w j n) {b:Nat} (z:B≤b) (i:Nat) (u:Value):SB B S w j (n.setCell ⟨b,i,none⟩ u):=
 ⟨h.os,h.tape,h.output,by rw[zgC];exact h.size,h.low,fun k q o=>(zi (by omega)).trans (h.block k q o),h.sub⟩
theorem SB.put {B:Nat} {S q:Sv} {w E:World} (h:SB B S w q E) {b:Nat} (j:B≤b) (J M D I K L N A z H n o:Value):SB B S w q (set12 E b J M D I K L N A z H n o):=
 (((((((((((h.set j 0 J).set j 1 M).set j 2 D).set j 3 I).set j 4 K).set j 5 L).set j 6 N).set j 7 A).set j 8 z).set j 9 H).set j 10 n).set j 11 o
theorem SB.done {S n:Sv} {w j:World} (h:SB w.heap.size S w n j):Stp S w n j:=⟨h.os,h.tape,h.output,h.size,h.block,h.sub⟩
theorem zL {P:Program} {j:Code} {Q:Exit→Act→World→Prop} {a:Act} {w0:World} {R:World→Prop} (n:R w0) (h: ∀W,R W→Code.wp P j Q a W):Code.wp P j Q a w0:=h w0 n
theorem Mem.two {C:Cx} {z n j:Nat} {S:Sv} {q:PS} {w o:World} {A cb:Array Value} (h:Mem C z n j S q w) (D:Below ((w.alloc (.cells A 53 (0,0))).alloc (.cells cb 53 (0,0))).heap.size ((w.alloc (.cells A 53 (0,0))).alloc (.cells cb 53 (0,0))) o):
  Bx z S o w.heap.size A∧Bx z S o (w.heap.size+1) cb∧Mem C z n j S q o∧SB w.heap.size S w S o:=
 ⟨((Bx.new h _).alloc _).below D,by have:=(Bx.new (h.alloc (.cells A 53 (0,0))) cb).below D;rw[zk] at this;exact this,h.later (zaZ D),SB.start (zaZ D)⟩
theorem Mem.two2 {C:Cx} {A z j:Nat} {S n:Sv} {q:PS} {w o:World} {D cb:Array Value} (h:Mem C A z j S q w) (s:Stp S ((w.alloc (.cells D 53 (0,0))).alloc (.cells cb 53 (0,0))) n o):
  Bx A n o w.heap.size D∧Bx A n o (w.heap.size+1) cb∧SB w.heap.size S w n o:=
 ⟨((Bx.new h _).alloc _).stp s,by have:=(Bx.new (h.alloc (.cells D 53 (0,0))) cb).stp s;rw[zk] at this;exact this,(SB.start (zaT w _ _)).step s⟩
theorem zY {C:Cx} {z n j:Nat} {y:PR} {d:Nat} {S o:Sv} {w q:World} {q':PS} {z':Int} {v:Value} (D:v=pv C z n o q' z' d) (H:Is y q' z') (E:Mem C z n j o q' q) (A:SB w.heap.size S w o q):Out C z n j y d S w (.returned v) q:=
 ⟨o,q',z',by rw[D],H,E,A.done⟩
end Go.Proofs.YticdggnnpjachaaGreat