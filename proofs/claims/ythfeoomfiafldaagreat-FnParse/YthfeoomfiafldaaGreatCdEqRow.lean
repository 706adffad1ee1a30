/-
 What slices.Equal answers of rows of the call's own,the model's != handed in: the walks.
-/
import Derived.Test.YthfeoomfiafldaaGreatCdImplParseJToMdMem
namespace Go.Proofs.YthfeoomfiafldaaGreat
set_option maxRecDepth 100000
set_option maxHeartbeats 6400000
open Go.RowKit Go.PlainAid Go.Sort
def zc9 (P:Prop) (e:Ending):Prop:=∃b,e= .returned (.bool b)∧(b=true↔P)
theorem zch {α:Type} {l:List α} {j:Nat} (h:j<l.length): ∃x,l[j]? =some x:=⟨_,List.getElem?_eq_getElem h⟩
theorem zfY {α:Type} {o z:List α} {j:Nat} {x:α} (h:o.take j=z.take j) (E:o[j]? =some x) (H:z[j]? =some x):o.take (j+1)=z.take (j+1):=by
 obtain⟨a,rfl⟩:=List.getElem?_eq_some_iff.1 E
 obtain⟨b,D⟩:=List.getElem?_eq_some_iff.1 H
 rw[List.take_succ_eq_append_getElem a,List.take_succ_eq_append_getElem b,h,D]
theorem zfZ {α:Type} {j o:List α} (z:j.length=o.length) (h:j.take j.length=o.take j.length):j=o:=by
 rw[List.take_length,z,List.take_length] at h
 exact h
theorem zga {a b:ByteArray} (h:(a.toList==b.toList)=true):a=b:=(zeF a b).1 h
def zld (x y:ByteArray):Bool:=x.toList==y.toList
theorem zle {x y:ByteArray}:zld x y=true↔x=y:=⟨fun h=>zga h,fun h=>by rw[h];exact beq_self_eq_true _⟩
theorem zqY (D I:Option Addr) (o j z E:Nat) (w:World) (h:(o:Int)≠(j:Int)):Calls Tryz.prog 72 #[.slice D o z,.slice I j E] w fun e H=>e= .returned (.bool false)∧Below w.heap.size w H:=by
 go_enter Tryz.func72,Tryz.ntmps72
 go_wp2
 go_ret
 exact⟨rfl,Below.refl _ _⟩
theorem zqZ (o E:Option Addr) (j z:Nat) (w:World):Calls Tryz.prog 72 #[.slice o 0 j,.slice E 0 z] w fun e D=>e= .returned (.bool true)∧Below w.heap.size w D:=by
 go_enter Tryz.func72,Tryz.ntmps72
 go_wp2
 go_loopg [13] 1 (fun k i wr=>k=1∧i= .int .i64 0∧wr=w)
 case atStart=>exact⟨rfl,rfl,rfl⟩
 case round=>
  obtain⟨rfl,rfl,rfl⟩:=hrel
  go_wp2
  go_ret
  exact⟨rfl,Below.refl _ _⟩
theorem zra (b1 b2 g1 Q:Nat) (r1 V:Rw) (o E:List ByteArray) (w:World) (K:OwnR w b1 9 1 r1 o.length (o.flatMap (fun x=>[Value.string x]))) (M:OwnR w b2 9 1 V E.length (E.flatMap (fun x=>[Value.string x]))) (e1:r1.a=some ⟨g1,0,none⟩) (e2:V.a=some ⟨Q,0,none⟩) (hl:o.length=E.length) (Y:o.length≤4294967296):
  Calls Tryz.prog 72 #[.slice (some ⟨g1,0,none⟩) o.length r1.cap,.slice (some ⟨Q,0,none⟩) o.length V.cap] w fun e w'=>zc9 (o=E) e∧Below w.heap.size w w':=by
 have H1:=zc K
 have H2:=zc M
 have E1:=zc e1
 have E2:=zc e2
 have HL:=zc hl
 clear K M e1 e2 hl
 go_enter Tryz.func72,Tryz.ntmps72
 go_wp2
 go_loopg [13] o.length (fun k i wr=>∃j:Nat,i= .int .i64 j∧j+k=o.length∧o.take j=E.take j∧Below w.heap.size w wr)
 case atStart=>exact⟨0,rfl,by omega,rfl,Below.refl _ _⟩
 case round=>
  obtain⟨j,rfl,hj,ht,Y⟩:=hrel
  have N:=zc Y
  have HT:=zc ht
  clear Y ht
  by_cases H:j<o.length
  ·have J:(j:Int)<(o.length:Int):=by omega
   obtain⟨x,U⟩:=zch H
   obtain⟨y,Z⟩:=zch (show j<E.length by rw[←HL.out];exact H)
   obtain⟨g',ga,K⟩:=OwnR.elem (f:=(fun x=>[Value.string x])) (m:=1) (fun _=>rfl) (H1.out.keep fun k g=>N.out.block k (H1.out.typed g).2.1) U
   obtain rfl:g'=g1:=by have:=ga.symm.trans E1.out;simpa using this
   obtain⟨g',gb,M⟩:=OwnR.elem (f:=(fun x=>[Value.string x])) (m:=1) (fun _=>rfl) (H2.out.keep fun k g=>N.out.block k (H2.out.typed g).2.1) Z
   obtain rfl:g'=Q:=by have:=gb.symm.trans E2.out;simpa using this
   have C0:=zc (K 0 (by omega))
   have D0:=zc (M 0 (by omega))
   have HX:=zc U
   have HY:=zc Z
   clear K M ga gb U Z
   obtain⟨O,L⟩: ∃O,O=j+1:=⟨_,rfl⟩
   have ej:(j:Int)+1=(O:Int):=by omega
   have HJ:=zc L
   clear L
   obtain⟨b,z⟩: ∃b,zld x y=b:=⟨_,rfl⟩
   have ab:(x.toList==y.toList)=b:=z
   go_wp2
   have k0:=cell_regrown C0.out
   have m0:=cell_regrown D0.out
   simp only[Nat.add_zero,Nat.mul_one] at k0 m0
   refine wp_region_quiet_below (by kernel_rfl) (by kernel_rfl) ?_
   repeat (go_big_quiet_step (fail))
   refine wpQuiet_nil ?_
   intro w2 aa
   obtain⟨⟨dq,X⟩,D⟩:=aa
   have I:Hid (Below w.heap.size w w2):=by show Below _ _ _;rw[D];exact N.out.trans ((below_regrown wr dq X).mono N.out.size)
   clear D k0 m0 C0 D0
   cases b with
   |true=>
    go_wp2
    go_roundg (gk-1)
    case rel=>exact⟨O,rfl,by have:=HJ.out;omega,by rw[HJ.out];have e:=zle.1 z;exact zfY HT.out HX.out (by rw[e];exact HY.out),I.out⟩
    case measure=>omega
   |false=>
    go_wp2
    go_ret
    exact⟨⟨false,rfl,⟨fun k=>(by cases k),fun k=>(by have e:=HX.out;rw[k,HY.out] at e;cases e;rw[zle.2 rfl] at z;cases z)⟩⟩,I.out⟩
  ·have J: ¬(j:Int)<(o.length:Int):=by omega
   obtain rfl:j=o.length:=by omega
   go_wp2
   go_ret
   exact⟨⟨true,rfl,⟨fun _=>zfZ HL.out HT.out,fun _=>rfl⟩⟩,N.out⟩
theorem zrb (M b2:Nat) (E H:Rw) (j o:List ByteArray) (w:World) (L:OwnR w M 9 1 E j.length (j.flatMap (fun x=>[Value.string x]))) (O:OwnR w b2 9 1 H o.length (o.flatMap (fun x=>[Value.string x]))) (Q:j.length≤4294967296):
  Calls Tryz.prog 72 #[.slice E.a j.length E.cap,.slice H.a o.length H.cap] w fun e J=>zc9 (j=o) e∧Below w.heap.size w J:=by
 by_cases z:j.length=o.length
 ·rw[←z]
  by_cases D:j.length=0
  ·rw[D]
   refine (zqZ _ _ _ _ w).mono ?_
   rintro e J ⟨rfl,I⟩
   exact⟨⟨true,rfl,⟨fun _=>(by rw[List.eq_nil_of_length_eq_zero D,List.eq_nil_of_length_eq_zero (z.symm.trans D)]),fun _=>rfl⟩⟩,I⟩
  ·rcases L.nil_or with ⟨_,_,e⟩|⟨V,K⟩
   ·exact absurd e D
   ·rcases O.nil_or with ⟨_,_,e⟩|⟨U,N⟩
    ·exact absurd (z.trans e) D
    ·rw[K,N]
     exact zra M b2 V U E H j o w L O K N z Q
 ·refine (zqY _ _ _ _ _ _ w (by omega)).mono ?_
  rintro e J ⟨rfl,I⟩
  exact⟨⟨false,rfl,⟨fun k=>(by cases k),fun k=>absurd (by rw[k]) z⟩⟩,I⟩
def zdi (x y:Im):Bool:=x.spec.toList==y.spec.toList&&x.first.toList==y.first.toList&&x.loc.toList==y.loc.toList
theorem zi5 {x y:Im}:zdi x y=true↔x=y:=by
 constructor
 ·intro h
  unfold zdi at h
  simp only[Bool.and_eq_true] at h
  obtain⟨⟨z,o⟩,j⟩:=h
  cases x
  cases y
  simp only at z o j
  congr 1<;>first|(apply zga;assumption)|(apply eq_of_beq;assumption)
 ·intro h
  rw[h]
  simp[zdi]
theorem zrc (D I:Option Addr) (o j z E:Nat) (w:World) (h:(o:Int)≠(j:Int)):Calls Tryz.prog 73 #[.slice D o z,.slice I j E] w fun e H=>e= .returned (.bool false)∧Below w.heap.size w H:=by
 go_enter Tryz.func73,Tryz.ntmps73
 go_wp2
 go_ret
 exact⟨rfl,Below.refl _ _⟩
theorem zrd (o E:Option Addr) (j z:Nat) (w:World):Calls Tryz.prog 73 #[.slice o 0 j,.slice E 0 z] w fun e D=>e= .returned (.bool true)∧Below w.heap.size w D:=by
 go_enter Tryz.func73,Tryz.ntmps73
 go_wp2
 go_loopg [13] 1 (fun k i wr=>k=1∧i= .int .i64 0∧wr=w)
 case atStart=>exact⟨rfl,rfl,rfl⟩
 case round=>
  obtain⟨rfl,rfl,rfl⟩:=hrel
  go_wp2
  go_ret
  exact⟨rfl,Below.refl _ _⟩
theorem zre (Y: ∀(x y:Im) (W:World),Sem.run Tryz.prog (binOp .neq 75 (.agg #[.string x.spec,.string x.first,.string x.loc]) (.agg #[.string y.spec,.string y.first,.string y.loc])) W= .ok (.bool (!zdi x y)) W) (U: ∀(M:BinOp) (a b:Operand) (x y:Im) (W:World),Sem.run Tryz.prog (eqGuard M 75 a b (.agg #[.string x.spec,.string x.first,.string x.loc]) (.agg #[.string y.spec,.string y.first,.string y.loc])) W= .ok () W) (b1 b2 g1 V:Nat) (r1 Z:Rw) (o I:List Im) (w:World) (E:OwnR w b1 75 3 r1 o.length (o.flatMap imL)) (H:OwnR w b2 75 3 Z I.length (I.flatMap imL)) (e1:r1.a=some ⟨g1,0,none⟩) (e2:Z.a=some ⟨V,0,none⟩) (hl:o.length=I.length) (hb:o.length≤4294967296):
  Calls Tryz.prog 73 #[.slice (some ⟨g1,0,none⟩) o.length r1.cap,.slice (some ⟨V,0,none⟩) o.length Z.cap] w fun e w'=>zc9 (o=I) e∧Below w.heap.size w w':=by
 have H1:=zc E
 have H2:=zc H
 have E1:=zc e1
 have E2:=zc e2
 have HL:=zc hl
 clear E H e1 e2 hl
 go_enter Tryz.func73,Tryz.ntmps73
 go_wp2
 go_loopg [13] o.length (fun k i wr=>∃j:Nat,i= .int .i64 j∧j+k=o.length∧o.take j=I.take j∧Below w.heap.size w wr)
 case atStart=>exact⟨0,rfl,by omega,rfl,Below.refl _ _⟩
 case round=>
  obtain⟨j,rfl,hj,ht,hb⟩:=hrel
  have O:=zc hb
  have HT:=zc ht
  clear hb ht
  by_cases J:j<o.length
  ·have L:(j:Int)<(o.length:Int):=by omega
   obtain⟨x,X⟩:=zch J
   obtain⟨y,hy⟩:=zch (show j<I.length by rw[←HL.out];exact J)
   obtain⟨g',ga,E⟩:=OwnR.elem (f:=imL) (m:=3) (fun _=>rfl) (H1.out.keep fun k g=>O.out.block k (H1.out.typed g).2.1) X
   obtain rfl:g'=g1:=by have:=ga.symm.trans E1.out;simpa using this
   obtain⟨g',gb,H⟩:=OwnR.elem (f:=imL) (m:=3) (fun _=>rfl) (H2.out.keep fun k g=>O.out.block k (H2.out.typed g).2.1) hy
   obtain rfl:g'=V:=by have:=gb.symm.trans E2.out;simpa using this
   have C0:=zc (E 0 (by omega))
   have D0:=zc (H 0 (by omega))
   have C1:=zc (E 1 (by omega))
   have D1:=zc (H 1 (by omega))
   have C2:=zc (E 2 (by omega))
   have D2:=zc (H 2 (by omega))
   have HX:=zc X
   have HY:=zc hy
   clear E H ga gb X hy
   obtain⟨Q,N⟩: ∃Q,Q=j+1:=⟨_,rfl⟩
   have ej:(j:Int)+1=(Q:Int):=by omega
   have HJ:=zc N
   clear N
   obtain⟨b,z⟩: ∃b,zdi x y=b:=⟨_,rfl⟩
   have ac: ∀W:World,Sem.run Tryz.prog (binOp .neq 75 (.agg #[.string x.spec,.string x.first,.string x.loc]) (.agg #[.string y.spec,.string y.first,.string y.loc])) W= .ok (.bool !b) W:=fun W=>by rw[Y,z]
   have ad: ∀(M:BinOp) (a b:Operand) (W:World),Sem.run Tryz.prog (eqGuard M 75 a b (.agg #[.string x.spec,.string x.first,.string x.loc]) (.agg #[.string y.spec,.string y.first,.string y.loc])) W= .ok () W:=fun M a b W=>U M a b x y W
   go_wp2
   have k0:=cell_regrown C0.out
   have m0:=cell_regrown D0.out
   have k1:=cell_regrown C1.out
   have m1:=cell_regrown D1.out
   have k2:=cell_regrown C2.out
   have m2:=cell_regrown D2.out
   simp only[Nat.add_zero] at k0 m0
   refine wp_region_quiet_below (by kernel_rfl) (by kernel_rfl) ?_
   repeat (go_big_quiet_step (fail))
   refine wpQuiet_nil ?_
   intro w2 ab
   obtain⟨⟨dq,aa⟩,D⟩:=ab
   have K:Hid (Below w.heap.size w w2):=by show Below _ _ _;rw[D];exact O.out.trans ((below_regrown wr dq aa).mono O.out.size)
   clear D k0 m0 C0 D0 k1 m1 C1 D1 k2 m2 C2 D2
   cases b with
   |true=>
    go_wp2
    go_roundg (gk-1)
    case rel=>exact⟨Q,rfl,by have:=HJ.out;omega,by rw[HJ.out];have e:=zi5.1 z;exact zfY HT.out HX.out (by rw[e];exact HY.out),K.out⟩
    case measure=>omega
   |false=>
    go_wp2
    go_ret
    exact⟨⟨false,rfl,⟨fun k=>(by cases k),fun k=>(by have e:=HX.out;rw[k,HY.out] at e;cases e;rw[zi5.2 rfl] at z;cases z)⟩⟩,K.out⟩
  ·have L: ¬(j:Int)<(o.length:Int):=by omega
   obtain rfl:j=o.length:=by omega
   go_wp2
   go_ret
   exact⟨⟨true,rfl,⟨fun _=>zfZ HL.out HT.out,fun _=>rfl⟩⟩,O.out⟩
theorem zrf (K: ∀(x y:Im) (W:World),Sem.run Tryz.prog (binOp .neq 75 (.agg #[.string x.spec,.string x.first,.string x.loc]) (.agg #[.string y.spec,.string y.first,.string y.loc])) W= .ok (.bool (!zdi x y)) W) (I: ∀(X:BinOp) (a b:Operand) (x y:Im) (W:World),Sem.run Tryz.prog (eqGuard X 75 a b (.agg #[.string x.spec,.string x.first,.string x.loc]) (.agg #[.string y.spec,.string y.first,.string y.loc])) W= .ok () W) (M b2:Nat) (H E:Rw) (j o:List Im) (w:World) (U:OwnR w M 75 3 H j.length (j.flatMap imL)) (N:OwnR w b2 75 3 E o.length (o.flatMap imL)) (Y:j.length≤4294967296):
  Calls Tryz.prog 73 #[.slice H.a j.length H.cap,.slice E.a o.length E.cap] w fun e J=>zc9 (j=o) e∧Below w.heap.size w J:=by
 by_cases z:j.length=o.length
 ·rw[←z]
  by_cases D:j.length=0
  ·rw[D]
   refine (zrd _ _ _ _ w).mono ?_
   rintro e J ⟨rfl,L⟩
   exact⟨⟨true,rfl,⟨fun _=>(by rw[List.eq_nil_of_length_eq_zero D,List.eq_nil_of_length_eq_zero (z.symm.trans D)]),fun _=>rfl⟩⟩,L⟩
  ·rcases U.nil_or with ⟨_,_,e⟩|⟨Z,O⟩
   ·exact absurd e D
   ·rcases N.nil_or with ⟨_,_,e⟩|⟨V,Q⟩
    ·exact absurd (z.trans e) D
    ·rw[O,Q]
     exact zre K I M b2 Z V H E j o w U N O Q z Y
 ·refine (zrc _ _ _ _ _ _ w (by omega)).mono ?_
  rintro e J ⟨rfl,L⟩
  exact⟨⟨false,rfl,⟨fun k=>(by cases k),fun k=>absurd (by rw[k]) z⟩⟩,L⟩
def zdj (x y:Ep):Bool:=x.kind==y.kind&&x.name.toList==y.name.toList&&x.loc.toList==y.loc.toList&&x.spec.toList==y.spec.toList
theorem zi6 {x y:Ep}:zdj x y=true↔x=y:=by
 constructor
 ·intro h
  unfold zdj at h
  simp only[Bool.and_eq_true] at h
  obtain⟨⟨⟨D,z⟩,o⟩,j⟩:=h
  cases x
  cases y
  simp only at D z o j
  congr 1<;>first|(apply zga;assumption)|(apply eq_of_beq;assumption)
 ·intro h
  rw[h]
  simp[zdj]
theorem zrg (D I:Option Addr) (o j z E:Nat) (w:World) (h:(o:Int)≠(j:Int)):Calls Tryz.prog 74 #[.slice D o z,.slice I j E] w fun e H=>e= .returned (.bool false)∧Below w.heap.size w H:=by
 go_enter Tryz.func74,Tryz.ntmps74
 go_wp2
 go_ret
 exact⟨rfl,Below.refl _ _⟩
theorem zrh (o E:Option Addr) (j z:Nat) (w:World):Calls Tryz.prog 74 #[.slice o 0 j,.slice E 0 z] w fun e D=>e= .returned (.bool true)∧Below w.heap.size w D:=by
 go_enter Tryz.func74,Tryz.ntmps74
 go_wp2
 go_loopg [13] 1 (fun k i wr=>k=1∧i= .int .i64 0∧wr=w)
 case atStart=>exact⟨rfl,rfl,rfl⟩
 case round=>
  obtain⟨rfl,rfl,rfl⟩:=hrel
  go_wp2
  go_ret
  exact⟨rfl,Below.refl _ _⟩
theorem zri (Y: ∀(x y:Ep) (W:World),Sem.run Tryz.prog (binOp .neq 77 (.agg #[.int .i64 x.kind,.string x.name,.string x.loc,.string x.spec]) (.agg #[.int .i64 y.kind,.string y.name,.string y.loc,.string y.spec])) W= .ok (.bool (!zdj x y)) W) (U: ∀(M:BinOp) (a b:Operand) (x y:Ep) (W:World),Sem.run Tryz.prog (eqGuard M 77 a b (.agg #[.int .i64 x.kind,.string x.name,.string x.loc,.string x.spec]) (.agg #[.int .i64 y.kind,.string y.name,.string y.loc,.string y.spec])) W= .ok () W) (b1 b2 g1 V:Nat) (r1 Z:Rw) (o I:List Ep) (w:World) (E:OwnR w b1 77 4 r1 o.length (o.flatMap epL)) (H:OwnR w b2 77 4 Z I.length (I.flatMap epL)) (e1:r1.a=some ⟨g1,0,none⟩) (e2:Z.a=some ⟨V,0,none⟩) (hl:o.length=I.length) (hb:o.length≤4294967296):
  Calls Tryz.prog 74 #[.slice (some ⟨g1,0,none⟩) o.length r1.cap,.slice (some ⟨V,0,none⟩) o.length Z.cap] w fun e w'=>zc9 (o=I) e∧Below w.heap.size w w':=by
 have H1:=zc E
 have H2:=zc H
 have E1:=zc e1
 have E2:=zc e2
 have HL:=zc hl
 clear E H e1 e2 hl
 go_enter Tryz.func74,Tryz.ntmps74
 go_wp2
 go_loopg [13] o.length (fun k i wr=>∃j:Nat,i= .int .i64 j∧j+k=o.length∧o.take j=I.take j∧Below w.heap.size w wr)
 case atStart=>exact⟨0,rfl,by omega,rfl,Below.refl _ _⟩
 case round=>
  obtain⟨j,rfl,hj,ht,hb⟩:=hrel
  have O:=zc hb
  have HT:=zc ht
  clear hb ht
  by_cases J:j<o.length
  ·have L:(j:Int)<(o.length:Int):=by omega
   obtain⟨x,X⟩:=zch J
   obtain⟨y,hy⟩:=zch (show j<I.length by rw[←HL.out];exact J)
   obtain⟨g',ga,E⟩:=OwnR.elem (f:=epL) (m:=4) (fun _=>rfl) (H1.out.keep fun k g=>O.out.block k (H1.out.typed g).2.1) X
   obtain rfl:g'=g1:=by have:=ga.symm.trans E1.out;simpa using this
   obtain⟨g',gb,H⟩:=OwnR.elem (f:=epL) (m:=4) (fun _=>rfl) (H2.out.keep fun k g=>O.out.block k (H2.out.typed g).2.1) hy
   obtain rfl:g'=V:=by have:=gb.symm.trans E2.out;simpa using this
   have C0:=zc (E 0 (by omega))
   have D0:=zc (H 0 (by omega))
   have C1:=zc (E 1 (by omega))
   have D1:=zc (H 1 (by omega))
   have C2:=zc (E 2 (by omega))
   have D2:=zc (H 2 (by omega))
   have C3:=zc (E 3 (by omega))
   have D3:=zc (H 3 (by omega))
   have HX:=zc X
   have HY:=zc hy
   clear E H ga gb X hy
   obtain⟨Q,N⟩: ∃Q,Q=j+1:=⟨_,rfl⟩
   have ej:(j:Int)+1=(Q:Int):=by omega
   have HJ:=zc N
   clear N
   obtain⟨b,z⟩: ∃b,zdj x y=b:=⟨_,rfl⟩
   have ac: ∀W:World,Sem.run Tryz.prog (binOp .neq 77 (.agg #[.int .i64 x.kind,.string x.name,.string x.loc,.string x.spec]) (.agg #[.int .i64 y.kind,.string y.name,.string y.loc,.string y.spec])) W= .ok (.bool !b) W:=fun W=>by rw[Y,z]
   have ad: ∀(M:BinOp) (a b:Operand) (W:World),Sem.run Tryz.prog (eqGuard M 77 a b (.agg #[.int .i64 x.kind,.string x.name,.string x.loc,.string x.spec]) (.agg #[.int .i64 y.kind,.string y.name,.string y.loc,.string y.spec])) W= .ok () W:=fun M a b W=>U M a b x y W
   go_wp2
   have k0:=cell_regrown C0.out
   have m0:=cell_regrown D0.out
   have k1:=cell_regrown C1.out
   have m1:=cell_regrown D1.out
   have k2:=cell_regrown C2.out
   have m2:=cell_regrown D2.out
   have k3:=cell_regrown C3.out
   have m3:=cell_regrown D3.out
   simp only[Nat.add_zero] at k0 m0
   refine wp_region_quiet_below (by kernel_rfl) (by kernel_rfl) ?_
   repeat (go_big_quiet_step (fail))
   refine wpQuiet_nil ?_
   intro w2 ab
   obtain⟨⟨dq,aa⟩,D⟩:=ab
   have K:Hid (Below w.heap.size w w2):=by show Below _ _ _;rw[D];exact O.out.trans ((below_regrown wr dq aa).mono O.out.size)
   clear D k0 m0 C0 D0 k1 m1 C1 D1 k2 m2 C2 D2 k3 m3 C3 D3
   cases b with
   |true=>
    go_wp2
    go_roundg (gk-1)
    case rel=>exact⟨Q,rfl,by have:=HJ.out;omega,by rw[HJ.out];have e:=zi6.1 z;exact zfY HT.out HX.out (by rw[e];exact HY.out),K.out⟩
    case measure=>omega
   |false=>
    go_wp2
    go_ret
    exact⟨⟨false,rfl,⟨fun k=>(by cases k),fun k=>(by have e:=HX.out;rw[k,HY.out] at e;cases e;rw[zi6.2 rfl] at z;cases z)⟩⟩,K.out⟩
  ·have L: ¬(j:Int)<(o.length:Int):=by omega
   obtain rfl:j=o.length:=by omega
   go_wp2
   go_ret
   exact⟨⟨true,rfl,⟨fun _=>zfZ HL.out HT.out,fun _=>rfl⟩⟩,O.out⟩
theorem zrj (K: ∀(x y:Ep) (W:World),Sem.run Tryz.prog (binOp .neq 77 (.agg #[.int .i64 x.kind,.string x.name,.string x.loc,.string x.spec]) (.agg #[.int .i64 y.kind,.string y.name,.string y.loc,.string y.spec])) W= .ok (.bool (!zdj x y)) W) (I: ∀(X:BinOp) (a b:Operand) (x y:Ep) (W:World),Sem.run Tryz.prog (eqGuard X 77 a b (.agg #[.int .i64 x.kind,.string x.name,.string x.loc,.string x.spec]) (.agg #[.int .i64 y.kind,.string y.name,.string y.loc,.string y.spec])) W= .ok () W) (M b2:Nat) (H E:Rw) (j o:List Ep) (w:World) (U:OwnR w M 77 4 H j.length (j.flatMap epL)) (N:OwnR w b2 77 4 E o.length (o.flatMap epL)) (Y:j.length≤4294967296):
  Calls Tryz.prog 74 #[.slice H.a j.length H.cap,.slice E.a o.length E.cap] w fun e J=>zc9 (j=o) e∧Below w.heap.size w J:=by
 by_cases z:j.length=o.length
 ·rw[←z]
  by_cases D:j.length=0
  ·rw[D]
   refine (zrh _ _ _ _ w).mono ?_
   rintro e J ⟨rfl,L⟩
   exact⟨⟨true,rfl,⟨fun _=>(by rw[List.eq_nil_of_length_eq_zero D,List.eq_nil_of_length_eq_zero (z.symm.trans D)]),fun _=>rfl⟩⟩,L⟩
  ·rcases U.nil_or with ⟨_,_,e⟩|⟨Z,O⟩
   ·exact absurd e D
   ·rcases N.nil_or with ⟨_,_,e⟩|⟨V,Q⟩
    ·exact absurd (z.trans e) D
    ·rw[O,Q]
     exact zri K I M b2 Z V H E j o w U N O Q z Y
 ·refine (zrg _ _ _ _ _ _ w (by omega)).mono ?_
  rintro e J ⟨rfl,L⟩
  exact⟨⟨false,rfl,⟨fun k=>(by cases k),fun k=>absurd (by rw[k]) z⟩⟩,L⟩
def zdk (x y:Sm):Bool:=x.kind==y.kind&&x.name.toList==y.name.toList&&x.expr==y.expr
theorem zi7 {x y:Sm}:zdk x y=true↔x=y:=by
 constructor
 ·intro h
  unfold zdk at h
  simp only[Bool.and_eq_true] at h
  obtain⟨⟨z,o⟩,j⟩:=h
  cases x
  cases y
  simp only at z o j
  congr 1<;>first|(apply zga;assumption)|(apply eq_of_beq;assumption)
 ·intro h
  rw[h]
  simp[zdk]
theorem zrk (D I:Option Addr) (o j z E:Nat) (w:World) (h:(o:Int)≠(j:Int)):Calls Tryz.prog 75 #[.slice D o z,.slice I j E] w fun e H=>e= .returned (.bool false)∧Below w.heap.size w H:=by
 go_enter Tryz.func75,Tryz.ntmps75
 go_wp2
 go_ret
 exact⟨rfl,Below.refl _ _⟩
theorem zrl (o E:Option Addr) (j z:Nat) (w:World):Calls Tryz.prog 75 #[.slice o 0 j,.slice E 0 z] w fun e D=>e= .returned (.bool true)∧Below w.heap.size w D:=by
 go_enter Tryz.func75,Tryz.ntmps75
 go_wp2
 go_loopg [13] 1 (fun k i wr=>k=1∧i= .int .i64 0∧wr=w)
 case atStart=>exact⟨rfl,rfl,rfl⟩
 case round=>
  obtain⟨rfl,rfl,rfl⟩:=hrel
  go_wp2
  go_ret
  exact⟨rfl,Below.refl _ _⟩
theorem zrm (Y: ∀(x y:Sm) (W:World),Sem.run Tryz.prog (binOp .neq 79 (.agg #[.int .i64 x.kind,.string x.name,.int .i64 x.expr]) (.agg #[.int .i64 y.kind,.string y.name,.int .i64 y.expr])) W= .ok (.bool (!zdk x y)) W) (U: ∀(M:BinOp) (a b:Operand) (x y:Sm) (W:World),Sem.run Tryz.prog (eqGuard M 79 a b (.agg #[.int .i64 x.kind,.string x.name,.int .i64 x.expr]) (.agg #[.int .i64 y.kind,.string y.name,.int .i64 y.expr])) W= .ok () W) (b1 b2 g1 V:Nat) (r1 Z:Rw) (o I:List Sm) (w:World) (E:OwnR w b1 79 3 r1 o.length (o.flatMap smL)) (H:OwnR w b2 79 3 Z I.length (I.flatMap smL)) (e1:r1.a=some ⟨g1,0,none⟩) (e2:Z.a=some ⟨V,0,none⟩) (hl:o.length=I.length) (hb:o.length≤4294967296):
  Calls Tryz.prog 75 #[.slice (some ⟨g1,0,none⟩) o.length r1.cap,.slice (some ⟨V,0,none⟩) o.length Z.cap] w fun e w'=>zc9 (o=I) e∧Below w.heap.size w w':=by
 have H1:=zc E
 have H2:=zc H
 have E1:=zc e1
 have E2:=zc e2
 have HL:=zc hl
 clear E H e1 e2 hl
 go_enter Tryz.func75,Tryz.ntmps75
 go_wp2
 go_loopg [13] o.length (fun k i wr=>∃j:Nat,i= .int .i64 j∧j+k=o.length∧o.take j=I.take j∧Below w.heap.size w wr)
 case atStart=>exact⟨0,rfl,by omega,rfl,Below.refl _ _⟩
 case round=>
  obtain⟨j,rfl,hj,ht,hb⟩:=hrel
  have O:=zc hb
  have HT:=zc ht
  clear hb ht
  by_cases J:j<o.length
  ·have L:(j:Int)<(o.length:Int):=by omega
   obtain⟨x,X⟩:=zch J
   obtain⟨y,hy⟩:=zch (show j<I.length by rw[←HL.out];exact J)
   obtain⟨g',ga,E⟩:=OwnR.elem (f:=smL) (m:=3) (fun _=>rfl) (H1.out.keep fun k g=>O.out.block k (H1.out.typed g).2.1) X
   obtain rfl:g'=g1:=by have:=ga.symm.trans E1.out;simpa using this
   obtain⟨g',gb,H⟩:=OwnR.elem (f:=smL) (m:=3) (fun _=>rfl) (H2.out.keep fun k g=>O.out.block k (H2.out.typed g).2.1) hy
   obtain rfl:g'=V:=by have:=gb.symm.trans E2.out;simpa using this
   have C0:=zc (E 0 (by omega))
   have D0:=zc (H 0 (by omega))
   have C1:=zc (E 1 (by omega))
   have D1:=zc (H 1 (by omega))
   have C2:=zc (E 2 (by omega))
   have D2:=zc (H 2 (by omega))
   have HX:=zc X
   have HY:=zc hy
   clear E H ga gb X hy
   obtain⟨Q,N⟩: ∃Q,Q=j+1:=⟨_,rfl⟩
   have ej:(j:Int)+1=(Q:Int):=by omega
   have HJ:=zc N
   clear N
   obtain⟨b,z⟩: ∃b,zdk x y=b:=⟨_,rfl⟩
   have ac: ∀W:World,Sem.run Tryz.prog (binOp .neq 79 (.agg #[.int .i64 x.kind,.string x.name,.int .i64 x.expr]) (.agg #[.int .i64 y.kind,.string y.name,.int .i64 y.expr])) W= .ok (.bool !b) W:=fun W=>by rw[Y,z]
   have ad: ∀(M:BinOp) (a b:Operand) (W:World),Sem.run Tryz.prog (eqGuard M 79 a b (.agg #[.int .i64 x.kind,.string x.name,.int .i64 x.expr]) (.agg #[.int .i64 y.kind,.string y.name,.int .i64 y.expr])) W= .ok () W:=fun M a b W=>U M a b x y W
   go_wp2
   have k0:=cell_regrown C0.out
   have m0:=cell_regrown D0.out
   have k1:=cell_regrown C1.out
   have m1:=cell_regrown D1.out
   have k2:=cell_regrown C2.out
   have m2:=cell_regrown D2.out
   simp only[Nat.add_zero] at k0 m0
   refine wp_region_quiet_below (by kernel_rfl) (by kernel_rfl) ?_
   repeat (go_big_quiet_step (fail))
   refine wpQuiet_nil ?_
   intro w2 ab
   obtain⟨⟨dq,aa⟩,D⟩:=ab
   have K:Hid (Below w.heap.size w w2):=by show Below _ _ _;rw[D];exact O.out.trans ((below_regrown wr dq aa).mono O.out.size)
   clear D k0 m0 C0 D0 k1 m1 C1 D1 k2 m2 C2 D2
   cases b with
   |true=>
    go_wp2
    go_roundg (gk-1)
    case rel=>exact⟨Q,rfl,by have:=HJ.out;omega,by rw[HJ.out];have e:=zi7.1 z;exact zfY HT.out HX.out (by rw[e];exact HY.out),K.out⟩
    case measure=>omega
   |false=>
    go_wp2
    go_ret
    exact⟨⟨false,rfl,⟨fun k=>(by cases k),fun k=>(by have e:=HX.out;rw[k,HY.out] at e;cases e;rw[zi7.2 rfl] at z;cases z)⟩⟩,K.out⟩
  ·have L: ¬(j:Int)<(o.length:Int):=by omega
   obtain rfl:j=o.length:=by omega
   go_wp2
   go_ret
   exact⟨⟨true,rfl,⟨fun _=>zfZ HL.out HT.out,fun _=>rfl⟩⟩,O.out⟩
theorem zrn (K: ∀(x y:Sm) (W:World),Sem.run Tryz.prog (binOp .neq 79 (.agg #[.int .i64 x.kind,.string x.name,.int .i64 x.expr]) (.agg #[.int .i64 y.kind,.string y.name,.int .i64 y.expr])) W= .ok (.bool (!zdk x y)) W) (I: ∀(X:BinOp) (a b:Operand) (x y:Sm) (W:World),Sem.run Tryz.prog (eqGuard X 79 a b (.agg #[.int .i64 x.kind,.string x.name,.int .i64 x.expr]) (.agg #[.int .i64 y.kind,.string y.name,.int .i64 y.expr])) W= .ok () W) (M b2:Nat) (H E:Rw) (j o:List Sm) (w:World) (U:OwnR w M 79 3 H j.length (j.flatMap smL)) (N:OwnR w b2 79 3 E o.length (o.flatMap smL)) (Y:j.length≤4294967296):
  Calls Tryz.prog 75 #[.slice H.a j.length H.cap,.slice E.a o.length E.cap] w fun e J=>zc9 (j=o) e∧Below w.heap.size w J:=by
 by_cases z:j.length=o.length
 ·rw[←z]
  by_cases D:j.length=0
  ·rw[D]
   refine (zrl _ _ _ _ w).mono ?_
   rintro e J ⟨rfl,L⟩
   exact⟨⟨true,rfl,⟨fun _=>(by rw[List.eq_nil_of_length_eq_zero D,List.eq_nil_of_length_eq_zero (z.symm.trans D)]),fun _=>rfl⟩⟩,L⟩
  ·rcases U.nil_or with ⟨_,_,e⟩|⟨Z,O⟩
   ·exact absurd e D
   ·rcases N.nil_or with ⟨_,_,e⟩|⟨V,Q⟩
    ·exact absurd (z.trans e) D
    ·rw[O,Q]
     exact zrm K I M b2 Z V H E j o w U N O Q z Y
 ·refine (zrk _ _ _ _ _ _ w (by omega)).mono ?_
  rintro e J ⟨rfl,L⟩
  exact⟨⟨false,rfl,⟨fun k=>(by cases k),fun k=>absurd (by rw[k]) z⟩⟩,L⟩
def zdl (x y:Ex):Bool:=x.kind==y.kind&&x.num==y.num&&x.name.toList==y.name.toList&&x.field.toList==y.field.toList&&x.l==y.l&&x.r==y.r
theorem zi8 {x y:Ex}:zdl x y=true↔x=y:=by
 constructor
 ·intro h
  unfold zdl at h
  simp only[Bool.and_eq_true] at h
  obtain⟨⟨⟨⟨⟨D,z⟩,H⟩,o⟩,j⟩,E⟩:=h
  cases x
  cases y
  simp only at D z H o j E
  congr 1<;>first|(apply zga;assumption)|(apply eq_of_beq;assumption)
 ·intro h
  rw[h]
  simp[zdl]
theorem zro (D I:Option Addr) (o j z E:Nat) (w:World) (h:(o:Int)≠(j:Int)):Calls Tryz.prog 76 #[.slice D o z,.slice I j E] w fun e H=>e= .returned (.bool false)∧Below w.heap.size w H:=by
 go_enter Tryz.func76,Tryz.ntmps76
 go_wp2
 go_ret
 exact⟨rfl,Below.refl _ _⟩
theorem zrp (o E:Option Addr) (j z:Nat) (w:World):Calls Tryz.prog 76 #[.slice o 0 j,.slice E 0 z] w fun e D=>e= .returned (.bool true)∧Below w.heap.size w D:=by
 go_enter Tryz.func76,Tryz.ntmps76
 go_wp2
 go_loopg [13] 1 (fun k i wr=>k=1∧i= .int .i64 0∧wr=w)
 case atStart=>exact⟨rfl,rfl,rfl⟩
 case round=>
  obtain⟨rfl,rfl,rfl⟩:=hrel
  go_wp2
  go_ret
  exact⟨rfl,Below.refl _ _⟩
theorem zrq (Y: ∀(x y:Ex) (W:World),Sem.run Tryz.prog (binOp .neq 81 (.agg #[.int .i64 x.kind,.int .i64 x.num,.string x.name,.string x.field,.int .i64 x.l,.int .i64 x.r]) (.agg #[.int .i64 y.kind,.int .i64 y.num,.string y.name,.string y.field,.int .i64 y.l,.int .i64 y.r])) W= .ok (.bool (!zdl x y)) W) (U: ∀(M:BinOp) (a b:Operand) (x y:Ex) (W:World),Sem.run Tryz.prog (eqGuard M 81 a b (.agg #[.int .i64 x.kind,.int .i64 x.num,.string x.name,.string x.field,.int .i64 x.l,.int .i64 x.r]) (.agg #[.int .i64 y.kind,.int .i64 y.num,.string y.name,.string y.field,.int .i64 y.l,.int .i64 y.r])) W= .ok () W) (b1 b2 g1 V:Nat) (r1 Z:Rw) (o I:List Ex) (w:World) (z:OwnR w b1 81 6 r1 o.length (o.flatMap exL)) (D:OwnR w b2 81 6 Z I.length (I.flatMap exL)) (e1:r1.a=some ⟨g1,0,none⟩) (e2:Z.a=some ⟨V,0,none⟩) (hl:o.length=I.length) (hb:o.length≤4294967296):
  Calls Tryz.prog 76 #[.slice (some ⟨g1,0,none⟩) o.length r1.cap,.slice (some ⟨V,0,none⟩) o.length Z.cap] w fun e w'=>zc9 (o=I) e∧Below w.heap.size w w':=by
 have H1:=zc z
 have H2:=zc D
 have E1:=zc e1
 have E2:=zc e2
 have HL:=zc hl
 clear z D e1 e2 hl
 go_enter Tryz.func76,Tryz.ntmps76
 go_wp2
 go_loopg [13] o.length (fun k i wr=>∃j:Nat,i= .int .i64 j∧j+k=o.length∧o.take j=I.take j∧Below w.heap.size w wr)
 case atStart=>exact⟨0,rfl,by omega,rfl,Below.refl _ _⟩
 case round=>
  obtain⟨j,rfl,hj,ht,hb⟩:=hrel
  have O:=zc hb
  have HT:=zc ht
  clear hb ht
  by_cases J:j<o.length
  ·have L:(j:Int)<(o.length:Int):=by omega
   obtain⟨x,X⟩:=zch J
   obtain⟨y,hy⟩:=zch (show j<I.length by rw[←HL.out];exact J)
   obtain⟨g',ga,z⟩:=OwnR.elem (f:=exL) (m:=6) (fun _=>rfl) (H1.out.keep fun k g=>O.out.block k (H1.out.typed g).2.1) X
   obtain rfl:g'=g1:=by have:=ga.symm.trans E1.out;simpa using this
   obtain⟨g',gb,D⟩:=OwnR.elem (f:=exL) (m:=6) (fun _=>rfl) (H2.out.keep fun k g=>O.out.block k (H2.out.typed g).2.1) hy
   obtain rfl:g'=V:=by have:=gb.symm.trans E2.out;simpa using this
   have C0:=zc (z 0 (by omega))
   have D0:=zc (D 0 (by omega))
   have C1:=zc (z 1 (by omega))
   have D1:=zc (D 1 (by omega))
   have C2:=zc (z 2 (by omega))
   have D2:=zc (D 2 (by omega))
   have C3:=zc (z 3 (by omega))
   have D3:=zc (D 3 (by omega))
   have C4:=zc (z 4 (by omega))
   have D4:=zc (D 4 (by omega))
   have C5:=zc (z 5 (by omega))
   have D5:=zc (D 5 (by omega))
   have HX:=zc X
   have HY:=zc hy
   clear z D ga gb X hy
   obtain⟨Q,N⟩: ∃Q,Q=j+1:=⟨_,rfl⟩
   have ej:(j:Int)+1=(Q:Int):=by omega
   have HJ:=zc N
   clear N
   obtain⟨b,E⟩: ∃b,zdl x y=b:=⟨_,rfl⟩
   have ac: ∀W:World,Sem.run Tryz.prog (binOp .neq 81 (.agg #[.int .i64 x.kind,.int .i64 x.num,.string x.name,.string x.field,.int .i64 x.l,.int .i64 x.r]) (.agg #[.int .i64 y.kind,.int .i64 y.num,.string y.name,.string y.field,.int .i64 y.l,.int .i64 y.r])) W= .ok (.bool !b) W:=fun W=>by rw[Y,E]
   have ad: ∀(M:BinOp) (a b:Operand) (W:World),Sem.run Tryz.prog (eqGuard M 81 a b (.agg #[.int .i64 x.kind,.int .i64 x.num,.string x.name,.string x.field,.int .i64 x.l,.int .i64 x.r]) (.agg #[.int .i64 y.kind,.int .i64 y.num,.string y.name,.string y.field,.int .i64 y.l,.int .i64 y.r])) W= .ok () W:=fun M a b W=>U M a b x y W
   go_wp2
   have k0:=cell_regrown C0.out
   have m0:=cell_regrown D0.out
   have k1:=cell_regrown C1.out
   have m1:=cell_regrown D1.out
   have k2:=cell_regrown C2.out
   have m2:=cell_regrown D2.out
   have k3:=cell_regrown C3.out
   have m3:=cell_regrown D3.out
   have k4:=cell_regrown C4.out
   have m4:=cell_regrown D4.out
   have k5:=cell_regrown C5.out
   have m5:=cell_regrown D5.out
   simp only[Nat.add_zero] at k0 m0
   refine wp_region_quiet_below (by kernel_rfl) (by kernel_rfl) ?_
   repeat (go_big_quiet_step (fail))
   refine wpQuiet_nil ?_
   intro w2 ab
   obtain⟨⟨dq,aa⟩,H⟩:=ab
   have K:Hid (Below w.heap.size w w2):=by show Below _ _ _;rw[H];exact O.out.trans ((below_regrown wr dq aa).mono O.out.size)
   clear H k0 m0 C0 D0 k1 m1 C1 D1 k2 m2 C2 D2 k3 m3 C3 D3 k4 m4 C4 D4 k5 m5 C5 D5
   cases b with
   |true=>
    go_wp2
    go_roundg (gk-1)
    case rel=>exact⟨Q,rfl,by have:=HJ.out;omega,by rw[HJ.out];have e:=zi8.1 E;exact zfY HT.out HX.out (by rw[e];exact HY.out),K.out⟩
    case measure=>omega
   |false=>
    go_wp2
    go_ret
    exact⟨⟨false,rfl,⟨fun k=>(by cases k),fun k=>(by have e:=HX.out;rw[k,HY.out] at e;cases e;rw[zi8.2 rfl] at E;cases E)⟩⟩,K.out⟩
  ·have L: ¬(j:Int)<(o.length:Int):=by omega
   obtain rfl:j=o.length:=by omega
   go_wp2
   go_ret
   exact⟨⟨true,rfl,⟨fun _=>zfZ HL.out HT.out,fun _=>rfl⟩⟩,O.out⟩
theorem zrr (K: ∀(x y:Ex) (W:World),Sem.run Tryz.prog (binOp .neq 81 (.agg #[.int .i64 x.kind,.int .i64 x.num,.string x.name,.string x.field,.int .i64 x.l,.int .i64 x.r]) (.agg #[.int .i64 y.kind,.int .i64 y.num,.string y.name,.string y.field,.int .i64 y.l,.int .i64 y.r])) W= .ok (.bool (!zdl x y)) W) (I: ∀(X:BinOp) (a b:Operand) (x y:Ex) (W:World),Sem.run Tryz.prog (eqGuard X 81 a b (.agg #[.int .i64 x.kind,.int .i64 x.num,.string x.name,.string x.field,.int .i64 x.l,.int .i64 x.r]) (.agg #[.int .i64 y.kind,.int .i64 y.num,.string y.name,.string y.field,.int .i64 y.l,.int .i64 y.r])) W= .ok () W) (M b2:Nat) (H E:Rw) (j o:List Ex) (w:World) (U:OwnR w M 81 6 H j.length (j.flatMap exL)) (N:OwnR w b2 81 6 E o.length (o.flatMap exL)) (Y:j.length≤4294967296):
  Calls Tryz.prog 76 #[.slice H.a j.length H.cap,.slice E.a o.length E.cap] w fun e J=>zc9 (j=o) e∧Below w.heap.size w J:=by
 by_cases z:j.length=o.length
 ·rw[←z]
  by_cases D:j.length=0
  ·rw[D]
   refine (zrp _ _ _ _ w).mono ?_
   rintro e J ⟨rfl,L⟩
   exact⟨⟨true,rfl,⟨fun _=>(by rw[List.eq_nil_of_length_eq_zero D,List.eq_nil_of_length_eq_zero (z.symm.trans D)]),fun _=>rfl⟩⟩,L⟩
  ·rcases U.nil_or with ⟨_,_,e⟩|⟨Z,O⟩
   ·exact absurd e D
   ·rcases N.nil_or with ⟨_,_,e⟩|⟨V,Q⟩
    ·exact absurd (z.trans e) D
    ·rw[O,Q]
     exact zrq K I M b2 Z V H E j o w U N O Q z Y
 ·refine (zro _ _ _ _ _ _ w (by omega)).mono ?_
  rintro e J ⟨rfl,L⟩
  exact⟨⟨false,rfl,⟨fun k=>(by cases k),fun k=>absurd (by rw[k]) z⟩⟩,L⟩
end Go.Proofs.YthfeoomfiafldaaGreat