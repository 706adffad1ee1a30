/-
 What the drawing functions of the specification tell,as plain functions of a code and a state; and the cursor in memory. No program is spoken of but by a type's number T that is handed in.
-/
import Derived.Test.YtjdddblpfbmpaaaGreatCmReadVarMath
namespace Go.Proofs.YtjdddblpfbmpaaaGreat
open Go.RowKit Go.PlainAid
structure Src where
 a:Option Addr
 len:Nat
 cap:Nat
 Z:Nat→Int
 lim:Nat
def Src.ok (S:Src):Prop:=S.len≤1048576∧∀j,0≤S.Z j∧S.Z j≤255
def zcI (S:Src) (w:World):Prop:=∀j,j<S.len→∃b off,S.a=some ⟨b,off,none⟩∧b<S.lim∧w.cell? ⟨b,off+j,none⟩=some (.int .u8 (S.Z j))
def bh (h:Int):Int:=wrap64 (wrap64 (h*6364136223846793005)+1442695040888963407)
def bx (h:Int):Int:=bits .and .i64 (bits .xor .i64 (bh h/8589934592) (bh h/35184372088832)) 255
theorem zoY (h:Int):wrap64 (wrap64 (h*6364136223846793005)+1442695040888963407)=bh h:=rfl
theorem zjW (h:Int):bits .and .i64 (bits .xor .i64 (bh h/8589934592) (bh h/35184372088832)) 255=bx h:=rfl
theorem zhJ (y:Int):0≤bits .and .i64 y 255∧bits .and .i64 y 255≤255:=by
 have e:bits .and .i64 y 255=IntKind.i64.wrap (((BitVec.ofInt 64 y&&& BitVec.ofInt 64 255).toNat:Nat):Int):=rfl
 have h:(BitVec.ofInt 64 y&&& BitVec.ofInt 64 255).toNat≤255:=by
  rw[BitVec.toNat_and]
  exact Nat.and_le_right
 rw[e,IntKind.wrap_i64]
 omega
def cb (S:Src) (q:Nat×Int):Int×(Nat×Int):=
 if q.1<S.len then (bits .and .i64 (bx q.2+S.Z q.1) 255,(q.1+1,bh q.2)) else (bx q.2,(q.1,bh q.2))
theorem zei (S:Src) (q:Nat×Int):0≤(cb S q).1∧(cb S q).1≤255:=by
 unfold cb
 split
 ·exact zhJ _
 ·exact zhJ _
theorem zoZ {S:Src} {i:Nat} {h:Int} (j:i<S.len):cb S (i,h)=(bits .and .i64 (bx h+S.Z i) 255,(i+1,bh h)):=by rw[cb,if_pos j]
theorem zpa {S:Src} {i:Nat} {h:Int} (j: ¬i<S.len):cb S (i,h)=(bx h,(i,bh h)):=by rw[cb,if_neg j]
def bw (S:Src) (q:Nat×Int) (n:Int):Int×(Nat×Int):=
 if n≤0 then (0,q) else if n≤256 then ((cb S q).1%n,(cb S q).2) else
  (((cb S q).1*16777216+(cb S (cb S q).2).1*65536+(cb S (cb S (cb S q).2).2).1*256+(cb S (cb S (cb S (cb S q).2).2).2).1)%n,(cb S (cb S (cb S (cb S q).2).2).2).2)
theorem zbk (S:Src) (q:Nat×Int) (n:Int) (j:0<n):0≤(bw S q n).1∧(bw S q n).1<n:=by
 unfold bw
 rw[if_neg (by omega)]
 split
 ·exact⟨Int.emod_nonneg _ (by omega),Int.emod_lt_of_pos _ j⟩
 ·exact⟨Int.emod_nonneg _ (by omega),Int.emod_lt_of_pos _ j⟩
def picks:List Int:=[-1,0,127,128,255,256,16383,16384,65535,65536,562949953421311,562949953421312,999999999,1000000000,-999999999,9223372036854775807,-9223372036854775808]
def nm (S:Src) (q:Nat×Int):Int×(Nat×Int):=
 if (bw S q 8).1=0 then (picks.getD (bw S (bw S q 8).2 17).1.toNat 0,(bw S (bw S q 8).2 17).2)
 else if (bw S q 8).1=1 then (wrap64 ((bw S (bw S q 8).2 1000000000).1*(bw S (bw S (bw S q 8).2 1000000000).2 1000000000).1),(bw S (bw S (bw S q 8).2 1000000000).2 1000000000).2)
 else if (bw S q 8).1=2 then (-(bw S (bw S q 8).2 100000).1,(bw S (bw S q 8).2 100000).2)
 else bw S (bw S q 8).2 70000
def chr (y b:Int):Int:=if y=1 then b%2 else if y=2 then 97+b%4 else b
def zdr (S:Src) (y:Int):Nat→Nat×Int→List Int×(Nat×Int)
 |0,q=>([],q)
 |n+1,q=>(chr y (cb S q).1::(zdr S y n (cb S q).2).1,(zdr S y n (cb S q).2).2)
theorem zpb (S:Src) (y:Int) (n:Nat) (q:Nat×Int):(zdr S y n q).1.length=n:=by
 induction n generalizing q with
 |zero=>rfl
 |succ n j=>simp[zdr,j]
def tx (S:Src) (q:Nat×Int) (most:Int):List Int×(Nat×Int):=
 zdr S (bw S q 4).1 (bw S (bw S q 4).2 (most+1)).1.toNat (bw S (bw S q 4).2 (most+1)).2
theorem zpc (S:Src) (q:Nat×Int) (j:Int) (h:0≤j):((tx S q j).1.length:Int)≤j:=by
 have:=zbk S (bw S q 4).2 (j+1) (by omega)
 rw[tx,zpb]
 omega
def zbl (S:Src) (q:Nat×Int) (s:ByteArray):ByteArray×(Nat×Int):=
 if s.size=0 then (strOfNums (tx S q 3).1,(tx S q 3).2)
 else if (bw S (bw S q s.size).2 4).1=0 then (s.extract 0 (bw S q s.size).1.toNat++s.extract ((bw S q s.size).1.toNat+1) s.size,(bw S (bw S q s.size).2 4).2)
 else if (bw S (bw S q s.size).2 4).1=1 then (s.extract 0 (bw S q s.size).1.toNat++strOfNums [(cb S (bw S (bw S q s.size).2 4).2).1]++s.extract (bw S q s.size).1.toNat s.size,(cb S (bw S (bw S q s.size).2 4).2).2)
 else if (bw S (bw S q s.size).2 4).1=2 then (s.extract 0 (bw S q s.size).1.toNat,(bw S (bw S q s.size).2 4).2)
 else (s.extract 0 (bw S q s.size).1.toNat++strOfNums [IntKind.u8.wrap (bits .xor .i64 (bt s (bw S q s.size).1.toNat) (1+(bw S (bw S (bw S q s.size).2 4).2 255).1))]++s.extract ((bw S q s.size).1.toNat+1) s.size,(bw S (bw S (bw S q s.size).2 4).2 255).2)
def zd8 (S:Src):Nat→Int
 |0=>10101+S.len
 |k+1=>bits .and .i64 (zd8 S k*131+S.Z k+7) 1073741823
def start (S:Src):Nat×Int:=(0,zd8 S (min S.len 4000))
def zuP (S:Src):Int:=(nm S (start S)).1
def zuQ (S:Src):List Int:=(tx S (start S) 40).1
def zjX (S:Src):ByteArray:=strOfNums (zoX (nm S (start S)).1)++strOfNums (tx S (nm S (start S)).2 4).1
def zuR (S:Src):ByteArray:=
 if (bw S (tx S (nm S (start S)).2 4).2 4).1=0 then (zbl S (bw S (tx S (nm S (start S)).2 4).2 4).2 (zjX S)).1 else zjX S
def zN (T:TypeId) (S:Src) (w:World) (g:Nat) (q:Nat×Int):Prop:=
 w.heap[g]? =some (.cells #[.slice S.a S.len S.cap,.int .i64 (q.1:Int),.int .i64 q.2] T (0,0))∧S.lim≤g∧q.1≤S.len∧zcI S w
theorem zpd {T:TypeId} {S:Src} {w:World} {g:Nat} {q:Nat×Int} (h:zN T S w g q):
  w.cell? ⟨g,0,none⟩=some (.slice S.a S.len S.cap)∧w.cell? ⟨g,1,none⟩=some (.int .i64 (q.1:Int))∧w.cell? ⟨g,2,none⟩=some (.int .i64 q.2)∧w.frozen? ⟨g,1,none⟩=false∧w.frozen? ⟨g,2,none⟩=false:=by
 have j:=h.1
 refine⟨?_,?_,?_,frozen_of_row w g 1 _ _ j,frozen_of_row w g 2 _ _ j⟩
 ·rw[cell_of_row w g 0 _ _ _ j];rfl
 ·rw[cell_of_row w g 1 _ _ _ j];rfl
 ·rw[cell_of_row w g 2 _ _ _ j];rfl
theorem zcJ {T:TypeId} {S:Src} {w:World} {g:Nat} {q:Nat×Int} (h:zN T S w g q):g<w.heap.size:=by
 rcases Nat.lt_or_ge g w.heap.size with k|k
 ·exact k
 ·have:=h.1
  rw[Array.getElem?_eq_none k] at this
  cases this
theorem zg6 {S:Src} {w w':World} (h:zcI S w) (A: ∀k,k<S.lim→w'.heap[k]? =w.heap[k]?):zcI S w':=by
 intro j I
 obtain⟨b,q,H,z,J⟩:=h j I
 exact⟨b,q,H,z,(World.cell?_of_block (w:=w) (a:=⟨b,q+j,none⟩) (A b z)).trans J⟩
theorem zg7 {S:Src} {w w':World} {B:Nat} (h:zcI S w) (j:Below B w w') (z:S.lim≤B):zcI S w':=
 zg6 h fun k q=>j.block k (by omega)
theorem zch {T:TypeId} {S:Src} {w w':World} {g:Nat} {q:Nat×Int} (h:zN T S w g q) (j: ∀k,k≤g→w'.heap[k]? =w.heap[k]?):zN T S w' g q:=
 ⟨(j g (Nat.le_refl _)).trans h.1,h.2.1,h.2.2.1,zg6 h.2.2.2 fun k z=>j k (by have:=h.2.1;omega)⟩
theorem zds {T:TypeId} {S:Src} {w w':World} {g B:Nat} {q:Nat×Int} (h:zN T S w g q) (j:Below B w w') (A:g<B):zN T S w' g q:=
 zch h fun k z=>j.block k (by omega)
theorem zE {a b c:World} {r:Option Nat} (h:a.grownBy b r) (k:b.grownBy c r):a.grownBy c r:=
 ⟨k.os.trans h.os,k.tape.trans h.tape,k.output.trans h.output,Nat.le_trans h.size k.size,fun n j q=>(k.block n (Nat.lt_of_lt_of_le j h.size) q).trans (h.block n j q)⟩
theorem zd9 {a b c:World} {r:Option Nat} {B:Nat} (h:a.grownBy b r) (k:Below B b c) (z:a.heap.size≤B):a.grownBy c r:=
 ⟨k.os.trans h.os,k.tape.trans h.tape,k.output.trans h.output,Nat.le_trans h.size k.size,fun n j q=>(k.block n (by omega)).trans (h.block n j q)⟩
theorem zg8 {a b c:World} {g B:Nat} (h:Below B a b) (k:b.grownBy c (some g)) (A:B≤g) (z:B≤b.heap.size):Below B a c:=
 h.grown k z (fun j q=>by simp only[Option.some.injEq] at q;omega)
theorem zeI {a b:World} {r:Option Nat} (h:a.grownBy b r) (n:Nat):a.grownBy (b.drewN n) r:=⟨h.os,h.tape,h.output,h.size,h.block⟩
theorem zhK {a b:World} {g j:Nat} (h:a.grownBy b (some g)) (v:Value):a.grownBy (b.setCell ⟨g,j,none⟩ v) (some g):=by
 refine⟨h.os,h.tape,h.output,?_,fun k z q=>?_⟩
 ·have:(b.setCell ⟨g,j,none⟩ v).heap.size=b.heap.size:=by simp
  rw[this];exact h.size
 ·rw[Below.heap_setCell _ _ _ _ (fun e=>q (by rw[e]))]
  exact h.block k z q
theorem zjY {T:TypeId} {S:Src} {w:World} {g i:Nat} {h:Int} (j:zN T S w g (i,h)) (q:Int):zN T S (w.setCell ⟨g,2,none⟩ (.int .i64 q)) g (i,q):=
 ⟨by rw[heap_setCell_same w g 2 _ _ _ j.1];rfl,j.2.1,j.2.2.1,zg6 j.2.2.2 fun k z=>Below.heap_setCell _ _ _ _ (by have:=j.2.1;show k≠g;omega)⟩
theorem zpe {T:TypeId} {S:Src} {w:World} {g i:Nat} {h:Int} (j:zN T S w g (i,h)) (q:Nat) (z:q≤S.len):zN T S (w.setCell ⟨g,1,none⟩ (.int .i64 (q:Int))) g (q,h):=
 ⟨by rw[heap_setCell_same w g 1 _ _ _ j.1];rfl,j.2.1,z,zg6 j.2.2.2 fun k A=>Below.heap_setCell _ _ _ _ (by have:=j.2.1;show k≠g;omega)⟩
theorem zfB {w w':World} {j n g:Nat} {e:TypeId} {v:Value} {xs:List Int} (h:zbz w j e v n xs) (k:w.grownBy w' (some g)) (q:g<j):zbz w' j e v n xs:=by
 refine World.ownsRow.kept h k ?_
 rcases hv:v.ownBlock with _|b
 ·exact .inl rfl
 ·right
  have:=zgb h b hv
  intro e
  simp only[Option.some.injEq] at e
  omega
end Go.Proofs.YtjdddblpfbmpaaaGreat