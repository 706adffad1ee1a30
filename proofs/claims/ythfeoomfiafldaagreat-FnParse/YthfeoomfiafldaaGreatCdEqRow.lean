/-
 What slices.Equal answers of rows of the call's own,the model's != handed in: the walks.
-/
import Derived.Test.YthfeoomfiafldaaGreatCdImplParseJToMdMem
namespace Go.Proofs.YthfeoomfiafldaaGreat
set_option maxRecDepth 100000
set_option maxHeartbeats 6400000
open Go.RowKit Go.PlainAid Go.Sort
def zc9 (P:Prop) (e:Ending):Prop:=∃b,e= .returned (.bool b)∧(b=true↔P)
theorem zch {α:Type} {l:List α} {j:Nat} (h:j<l.length): ∃x,l[j]? =some x:=⟨_,List.getElem?_eq_getElem h⟩
theorem zfY {α:Type} {o z:List α} {j:Nat} {x:α} (h:o.take j=z.take j) (H:o[j]? =some x) (E:z[j]? =some x):o.take (j+1)=z.take (j+1):=by
 obtain⟨a,rfl⟩:=List.getElem?_eq_some_iff.1 H
 obtain⟨b,D⟩:=List.getElem?_eq_some_iff.1 E
 rw[List.take_succ_eq_append_getElem a,List.take_succ_eq_append_getElem b,h,D]
theorem zfZ {α:Type} {j o:List α} (z:j.length=o.length) (h:j.take j.length=o.take j.length):j=o:=by
 rw[List.take_length,z,List.take_length] at h
 exact h
theorem zga {a b:ByteArray} (h:(a.toList==b.toList)=true):a=b:=(zeF a b).1 h
def zld (x y:ByteArray):Bool:=x.toList==y.toList
theorem zle {x y:ByteArray}:zld x y=true↔x=y:=⟨fun h=>zga h,fun h=>by rw[h];exact beq_self_eq_true _⟩
theorem zqY (E I:Option Addr) (j o H D:Nat) (w:World) (h:(j:Int)≠(o:Int)):Calls Tryz.prog 72 #[.slice E j H,.slice I o D] w fun e z=>e= .returned (.bool false)∧Below w.heap.size w z:=by
 go_enter Tryz.func72,Tryz.ntmps72
 go_wp2
 go_ret
 exact⟨rfl,Below.refl _ _⟩
theorem zqZ (z E:Option Addr) (j D:Nat) (w:World):Calls Tryz.prog 72 #[.slice z 0 j,.slice E 0 D] w fun e o=>e= .returned (.bool true)∧Below w.heap.size w o:=by
 go_enter Tryz.func72,Tryz.ntmps72
 go_wp2
 go_loopg [13] 1 (fun k i wr=>k=1∧i= .int .i64 0∧wr=w)
 case atStart=>exact⟨rfl,rfl,rfl⟩
 case round=>
  obtain⟨rfl,rfl,rfl⟩:=hrel
  go_wp2
  go_ret
  exact⟨rfl,Below.refl _ _⟩
theorem zra (b1 b2 X g2:Nat) (r1 r2:Rw) (o E:List ByteArray) (w:World) (I:OwnR w b1 9 1 r1 o.length (o.flatMap (fun x=>[Value.string x]))) (H:OwnR w b2 9 1 r2 E.length (E.flatMap (fun x=>[Value.string x]))) (e1:r1.a=some ⟨X,0,none⟩) (e2:r2.a=some ⟨g2,0,none⟩) (hl:o.length=E.length) (Z:o.length≤4294967296):
  Calls Tryz.prog 72 #[.slice (some ⟨X,0,none⟩) o.length r1.cap,.slice (some ⟨g2,0,none⟩) o.length r2.cap] w fun e w'=>zc9 (o=E) e∧Below w.heap.size w w':=by
 have H1:=zc I
 have H2:=zc H
 have E1:=zc e1
 have E2:=zc e2
 have HL:=zc hl
 clear I H e1 e2 hl
 go_enter Tryz.func72,Tryz.ntmps72
 go_wp2
 go_loopg [13] o.length (fun k i wr=>∃j:Nat,i= .int .i64 j∧j+k=o.length∧o.take j=E.take j∧Below w.heap.size w wr)
 case atStart=>exact⟨0,rfl,by omega,rfl,Below.refl _ _⟩
 case round=>
  obtain⟨j,rfl,hj,ht,Z⟩:=hrel
  have M:=zc Z
  have HT:=zc ht
  clear Z ht
  by_cases J:j<o.length
  ·have L:(j:Int)<(o.length:Int):=by omega
   obtain⟨x,V⟩:=zch J
   obtain⟨y,Q⟩:=zch (show j<E.length by rw[←HL.out];exact J)
   obtain⟨Y,ga,I⟩:=OwnR.elem (f:=(fun x=>[Value.string x])) (m:=1) (fun _=>rfl) (H1.out.keep fun k g=>M.out.block k (H1.out.typed g).2.1) V
   obtain rfl:Y=X:=by have:=ga.symm.trans E1.out;simpa using this
   obtain⟨Y,gb,H⟩:=OwnR.elem (f:=(fun x=>[Value.string x])) (m:=1) (fun _=>rfl) (H2.out.keep fun k g=>M.out.block k (H2.out.typed g).2.1) Q
   obtain rfl:Y=g2:=by have:=gb.symm.trans E2.out;simpa using this
   have C0:=zc (I 0 (by omega))
   have D0:=zc (H 0 (by omega))
   have HX:=zc V
   have HY:=zc Q
   clear I H ga gb V Q
   obtain⟨O,N⟩: ∃O,O=j+1:=⟨_,rfl⟩
   have ej:(j:Int)+1=(O:Int):=by omega
   have HJ:=zc N
   clear N
   obtain⟨b,z⟩: ∃b,zld x y=b:=⟨_,rfl⟩
   have ab:(x.toList==y.toList)=b:=z
   go_wp2
   have k0:=cell_regrown C0.out
   have m0:=cell_regrown D0.out
   simp only[Nat.add_zero,Nat.mul_one] at k0 m0
   refine wp_region_quiet_below (by kernel_rfl) (by kernel_rfl) ?_
   repeat (go_big_quiet_step (fail))
   refine wpQuiet_nil ?_
   intro w2 U
   obtain⟨⟨dq,aa⟩,D⟩:=U
   have K:Hid (Below w.heap.size w w2):=by show Below _ _ _;rw[D];exact M.out.trans ((below_regrown wr dq aa).mono M.out.size)
   clear D k0 m0 C0 D0
   cases b with
   |true=>
    go_wp2
    go_roundg (gk-1)
    case rel=>exact⟨O,rfl,by have:=HJ.out;omega,by rw[HJ.out];have e:=zle.1 z;exact zfY HT.out HX.out (by rw[e];exact HY.out),K.out⟩
    case measure=>omega
   |false=>
    go_wp2
    go_ret
    exact⟨⟨false,rfl,⟨fun k=>(by cases k),fun k=>(by have e:=HX.out;rw[k,HY.out] at e;cases e;rw[zle.2 rfl] at z;cases z)⟩⟩,K.out⟩
  ·have L: ¬(j:Int)<(o.length:Int):=by omega
   obtain rfl:j=o.length:=by omega
   go_wp2
   go_ret
   exact⟨⟨true,rfl,⟨fun _=>zfZ HL.out HT.out,fun _=>rfl⟩⟩,M.out⟩
theorem zrb (M b2:Nat) (E H:Rw) (j o:List ByteArray) (w:World) (O:OwnR w M 9 1 E j.length (j.flatMap (fun x=>[Value.string x]))) (N:OwnR w b2 9 1 H o.length (o.flatMap (fun x=>[Value.string x]))) (U:j.length≤4294967296):
  Calls Tryz.prog 72 #[.slice E.a j.length E.cap,.slice H.a o.length H.cap] w fun e J=>zc9 (j=o) e∧Below w.heap.size w J:=by
 by_cases z:j.length=o.length
 ·rw[←z]
  by_cases D:j.length=0
  ·rw[D]
   refine (zqZ _ _ _ _ w).mono ?_
   rintro e J ⟨rfl,I⟩
   exact⟨⟨true,rfl,⟨fun _=>(by rw[List.eq_nil_of_length_eq_zero D,List.eq_nil_of_length_eq_zero (z.symm.trans D)]),fun _=>rfl⟩⟩,I⟩
  ·rcases O.nil_or with ⟨_,_,e⟩|⟨Q,L⟩
   ·exact absurd e D
   ·rcases N.nil_or with ⟨_,_,e⟩|⟨V,K⟩
    ·exact absurd (z.trans e) D
    ·rw[L,K]
     exact zra M b2 Q V E H j o w O N L K z U
 ·refine (zqY _ _ _ _ _ _ w (by omega)).mono ?_
  rintro e J ⟨rfl,I⟩
  exact⟨⟨false,rfl,⟨fun k=>(by cases k),fun k=>absurd (by rw[k]) z⟩⟩,I⟩
def zdi (x y:Im):Bool:=x.spec.toList==y.spec.toList&&x.first.toList==y.first.toList&&x.loc.toList==y.loc.toList
theorem zi5 {x y:Im}:zdi x y=true↔x=y:=by
 constructor
 ·intro h
  unfold zdi at h
  simp only[Bool.and_eq_true] at h
  obtain⟨⟨j,z⟩,o⟩:=h
  cases x
  cases y
  simp only at j z o
  congr 1<;>first|(apply zga;assumption)|(apply eq_of_beq;assumption)
 ·intro h
  rw[h]
  simp[zdi]
theorem zrc (E I:Option Addr) (j o H D:Nat) (w:World) (h:(j:Int)≠(o:Int)):Calls Tryz.prog 73 #[.slice E j H,.slice I o D] w fun e z=>e= .returned (.bool false)∧Below w.heap.size w z:=by
 go_enter Tryz.func73,Tryz.ntmps73
 go_wp2
 go_ret
 exact⟨rfl,Below.refl _ _⟩
theorem zrd (z E:Option Addr) (j D:Nat) (w:World):Calls Tryz.prog 73 #[.slice z 0 j,.slice E 0 D] w fun e o=>e= .returned (.bool true)∧Below w.heap.size w o:=by
 go_enter Tryz.func73,Tryz.ntmps73
 go_wp2
 go_loopg [13] 1 (fun k i wr=>k=1∧i= .int .i64 0∧wr=w)
 case atStart=>exact⟨rfl,rfl,rfl⟩
 case round=>
  obtain⟨rfl,rfl,rfl⟩:=hrel
  go_wp2
  go_ret
  exact⟨rfl,Below.refl _ _⟩
theorem zre (aa: ∀(x y:Im) (W:World),Sem.run Tryz.prog (binOp .neq 75 (.agg #[.string x.spec,.string x.first,.string x.loc]) (.agg #[.string y.spec,.string y.first,.string y.loc])) W= .ok (.bool (!zdi x y)) W) (Z: ∀(M:BinOp) (a b:Operand) (x y:Im) (W:World),Sem.run Tryz.prog (eqGuard M 75 a b (.agg #[.string x.spec,.string x.first,.string x.loc]) (.agg #[.string y.spec,.string y.first,.string y.loc])) W= .ok () W) (b1 b2 Y g2:Nat) (r1 r2:Rw) (o I:List Im) (w:World) (H:OwnR w b1 75 3 r1 o.length (o.flatMap imL)) (E:OwnR w b2 75 3 r2 I.length (I.flatMap imL)) (e1:r1.a=some ⟨Y,0,none⟩) (e2:r2.a=some ⟨g2,0,none⟩) (hl:o.length=I.length) (hb:o.length≤4294967296):
  Calls Tryz.prog 73 #[.slice (some ⟨Y,0,none⟩) o.length r1.cap,.slice (some ⟨g2,0,none⟩) o.length r2.cap] w fun e w'=>zc9 (o=I) e∧Below w.heap.size w w':=by
 have H1:=zc H
 have H2:=zc E
 have E1:=zc e1
 have E2:=zc e2
 have HL:=zc hl
 clear H E e1 e2 hl
 go_enter Tryz.func73,Tryz.ntmps73
 go_wp2
 go_loopg [13] o.length (fun k i wr=>∃j:Nat,i= .int .i64 j∧j+k=o.length∧o.take j=I.take j∧Below w.heap.size w wr)
 case atStart=>exact⟨0,rfl,by omega,rfl,Below.refl _ _⟩
 case round=>
  obtain⟨j,rfl,hj,ht,hb⟩:=hrel
  have N:=zc hb
  have HT:=zc ht
  clear hb ht
  by_cases J:j<o.length
  ·have L:(j:Int)<(o.length:Int):=by omega
   obtain⟨x,X⟩:=zch J
   obtain⟨y,U⟩:=zch (show j<I.length by rw[←HL.out];exact J)
   obtain⟨g',ga,H⟩:=OwnR.elem (f:=imL) (m:=3) (fun _=>rfl) (H1.out.keep fun k g=>N.out.block k (H1.out.typed g).2.1) X
   obtain rfl:g'=Y:=by have:=ga.symm.trans E1.out;simpa using this
   obtain⟨g',gb,E⟩:=OwnR.elem (f:=imL) (m:=3) (fun _=>rfl) (H2.out.keep fun k g=>N.out.block k (H2.out.typed g).2.1) U
   obtain rfl:g'=g2:=by have:=gb.symm.trans E2.out;simpa using this
   have C0:=zc (H 0 (by omega))
   have D0:=zc (E 0 (by omega))
   have C1:=zc (H 1 (by omega))
   have D1:=zc (E 1 (by omega))
   have C2:=zc (H 2 (by omega))
   have D2:=zc (E 2 (by omega))
   have HX:=zc X
   have HY:=zc U
   clear H E ga gb X U
   obtain⟨Q,O⟩: ∃Q,Q=j+1:=⟨_,rfl⟩
   have ej:(j:Int)+1=(Q:Int):=by omega
   have HJ:=zc O
   clear O
   obtain⟨b,z⟩: ∃b,zdi x y=b:=⟨_,rfl⟩
   have ac: ∀W:World,Sem.run Tryz.prog (binOp .neq 75 (.agg #[.string x.spec,.string x.first,.string x.loc]) (.agg #[.string y.spec,.string y.first,.string y.loc])) W= .ok (.bool !b) W:=fun W=>by rw[aa,z]
   have ad: ∀(M:BinOp) (a b:Operand) (W:World),Sem.run Tryz.prog (eqGuard M 75 a b (.agg #[.string x.spec,.string x.first,.string x.loc]) (.agg #[.string y.spec,.string y.first,.string y.loc])) W= .ok () W:=fun M a b W=>Z M a b x y W
   go_wp2
   have k0:=cell_regrown C0.out
   have m0:=cell_regrown D0.out
   have k1:=cell_regrown C1.out
   have m1:=cell_regrown D1.out
   have k2:=cell_regrown C2.out
   have m2:=cell_regrown D2.out
   simp only[Nat.add_zero] at k0 m0
   refine wp_region_quiet_below (by kernel_rfl) (by kernel_rfl) ?_
   repeat (go_big_quiet_step (fail))
   refine wpQuiet_nil ?_
   intro w2 V
   obtain⟨⟨dq,ab⟩,D⟩:=V
   have K:Hid (Below w.heap.size w w2):=by show Below _ _ _;rw[D];exact N.out.trans ((below_regrown wr dq ab).mono N.out.size)
   clear D k0 m0 C0 D0 k1 m1 C1 D1 k2 m2 C2 D2
   cases b with
   |true=>
    go_wp2
    go_roundg (gk-1)
    case rel=>exact⟨Q,rfl,by have:=HJ.out;omega,by rw[HJ.out];have e:=zi5.1 z;exact zfY HT.out HX.out (by rw[e];exact HY.out),K.out⟩
    case measure=>omega
   |false=>
    go_wp2
    go_ret
    exact⟨⟨false,rfl,⟨fun k=>(by cases k),fun k=>(by have e:=HX.out;rw[k,HY.out] at e;cases e;rw[zi5.2 rfl] at z;cases z)⟩⟩,K.out⟩
  ·have L: ¬(j:Int)<(o.length:Int):=by omega
   obtain rfl:j=o.length:=by omega
   go_wp2
   go_ret
   exact⟨⟨true,rfl,⟨fun _=>zfZ HL.out HT.out,fun _=>rfl⟩⟩,N.out⟩
theorem zrf (L: ∀(x y:Im) (W:World),Sem.run Tryz.prog (binOp .neq 75 (.agg #[.string x.spec,.string x.first,.string x.loc]) (.agg #[.string y.spec,.string y.first,.string y.loc])) W= .ok (.bool (!zdi x y)) W) (J: ∀(Z:BinOp) (a b:Operand) (x y:Im) (W:World),Sem.run Tryz.prog (eqGuard Z 75 a b (.agg #[.string x.spec,.string x.first,.string x.loc]) (.agg #[.string y.spec,.string y.first,.string y.loc])) W= .ok () W) (Q b2:Nat) (H E:Rw) (j o:List Im) (w:World) (O:OwnR w Q 75 3 H j.length (j.flatMap imL)) (N:OwnR w b2 75 3 E o.length (o.flatMap imL)) (X:j.length≤4294967296):
  Calls Tryz.prog 73 #[.slice H.a j.length H.cap,.slice E.a o.length E.cap] w fun e K=>zc9 (j=o) e∧Below w.heap.size w K:=by
 by_cases z:j.length=o.length
 ·rw[←z]
  by_cases D:j.length=0
  ·rw[D]
   refine (zrd _ _ _ _ w).mono ?_
   rintro e K ⟨rfl,I⟩
   exact⟨⟨true,rfl,⟨fun _=>(by rw[List.eq_nil_of_length_eq_zero D,List.eq_nil_of_length_eq_zero (z.symm.trans D)]),fun _=>rfl⟩⟩,I⟩
  ·rcases O.nil_or with ⟨_,_,e⟩|⟨V,U⟩
   ·exact absurd e D
   ·rcases N.nil_or with ⟨_,_,e⟩|⟨Y,M⟩
    ·exact absurd (z.trans e) D
    ·rw[U,M]
     exact zre L J Q b2 V Y H E j o w O N U M z X
 ·refine (zrc _ _ _ _ _ _ w (by omega)).mono ?_
  rintro e K ⟨rfl,I⟩
  exact⟨⟨false,rfl,⟨fun k=>(by cases k),fun k=>absurd (by rw[k]) z⟩⟩,I⟩
def zdj (x y:Ep):Bool:=x.kind==y.kind&&x.name.toList==y.name.toList&&x.loc.toList==y.loc.toList&&x.spec.toList==y.spec.toList
theorem zi6 {x y:Ep}:zdj x y=true↔x=y:=by
 constructor
 ·intro h
  unfold zdj at h
  simp only[Bool.and_eq_true] at h
  obtain⟨⟨⟨o,D⟩,z⟩,j⟩:=h
  cases x
  cases y
  simp only at o D z j
  congr 1<;>first|(apply zga;assumption)|(apply eq_of_beq;assumption)
 ·intro h
  rw[h]
  simp[zdj]
theorem zrg (E I:Option Addr) (j o H D:Nat) (w:World) (h:(j:Int)≠(o:Int)):Calls Tryz.prog 74 #[.slice E j H,.slice I o D] w fun e z=>e= .returned (.bool false)∧Below w.heap.size w z:=by
 go_enter Tryz.func74,Tryz.ntmps74
 go_wp2
 go_ret
 exact⟨rfl,Below.refl _ _⟩
theorem zrh (z E:Option Addr) (j D:Nat) (w:World):Calls Tryz.prog 74 #[.slice z 0 j,.slice E 0 D] w fun e o=>e= .returned (.bool true)∧Below w.heap.size w o:=by
 go_enter Tryz.func74,Tryz.ntmps74
 go_wp2
 go_loopg [13] 1 (fun k i wr=>k=1∧i= .int .i64 0∧wr=w)
 case atStart=>exact⟨rfl,rfl,rfl⟩
 case round=>
  obtain⟨rfl,rfl,rfl⟩:=hrel
  go_wp2
  go_ret
  exact⟨rfl,Below.refl _ _⟩
theorem zri (aa: ∀(x y:Ep) (W:World),Sem.run Tryz.prog (binOp .neq 77 (.agg #[.int .i64 x.kind,.string x.name,.string x.loc,.string x.spec]) (.agg #[.int .i64 y.kind,.string y.name,.string y.loc,.string y.spec])) W= .ok (.bool (!zdj x y)) W) (Z: ∀(M:BinOp) (a b:Operand) (x y:Ep) (W:World),Sem.run Tryz.prog (eqGuard M 77 a b (.agg #[.int .i64 x.kind,.string x.name,.string x.loc,.string x.spec]) (.agg #[.int .i64 y.kind,.string y.name,.string y.loc,.string y.spec])) W= .ok () W) (b1 b2 Y g2:Nat) (r1 r2:Rw) (o I:List Ep) (w:World) (E:OwnR w b1 77 4 r1 o.length (o.flatMap epL)) (D:OwnR w b2 77 4 r2 I.length (I.flatMap epL)) (e1:r1.a=some ⟨Y,0,none⟩) (e2:r2.a=some ⟨g2,0,none⟩) (hl:o.length=I.length) (hb:o.length≤4294967296):
  Calls Tryz.prog 74 #[.slice (some ⟨Y,0,none⟩) o.length r1.cap,.slice (some ⟨g2,0,none⟩) o.length r2.cap] w fun e w'=>zc9 (o=I) e∧Below w.heap.size w w':=by
 have H1:=zc E
 have H2:=zc D
 have E1:=zc e1
 have E2:=zc e2
 have HL:=zc hl
 clear E D e1 e2 hl
 go_enter Tryz.func74,Tryz.ntmps74
 go_wp2
 go_loopg [13] o.length (fun k i wr=>∃j:Nat,i= .int .i64 j∧j+k=o.length∧o.take j=I.take j∧Below w.heap.size w wr)
 case atStart=>exact⟨0,rfl,by omega,rfl,Below.refl _ _⟩
 case round=>
  obtain⟨j,rfl,hj,ht,hb⟩:=hrel
  have N:=zc hb
  have HT:=zc ht
  clear hb ht
  by_cases J:j<o.length
  ·have L:(j:Int)<(o.length:Int):=by omega
   obtain⟨x,X⟩:=zch J
   obtain⟨y,U⟩:=zch (show j<I.length by rw[←HL.out];exact J)
   obtain⟨g',ga,E⟩:=OwnR.elem (f:=epL) (m:=4) (fun _=>rfl) (H1.out.keep fun k g=>N.out.block k (H1.out.typed g).2.1) X
   obtain rfl:g'=Y:=by have:=ga.symm.trans E1.out;simpa using this
   obtain⟨g',gb,D⟩:=OwnR.elem (f:=epL) (m:=4) (fun _=>rfl) (H2.out.keep fun k g=>N.out.block k (H2.out.typed g).2.1) U
   obtain rfl:g'=g2:=by have:=gb.symm.trans E2.out;simpa using this
   have C0:=zc (E 0 (by omega))
   have D0:=zc (D 0 (by omega))
   have C1:=zc (E 1 (by omega))
   have D1:=zc (D 1 (by omega))
   have C2:=zc (E 2 (by omega))
   have D2:=zc (D 2 (by omega))
   have C3:=zc (E 3 (by omega))
   have D3:=zc (D 3 (by omega))
   have HX:=zc X
   have HY:=zc U
   clear E D ga gb X U
   obtain⟨Q,O⟩: ∃Q,Q=j+1:=⟨_,rfl⟩
   have ej:(j:Int)+1=(Q:Int):=by omega
   have HJ:=zc O
   clear O
   obtain⟨b,z⟩: ∃b,zdj x y=b:=⟨_,rfl⟩
   have ac: ∀W:World,Sem.run Tryz.prog (binOp .neq 77 (.agg #[.int .i64 x.kind,.string x.name,.string x.loc,.string x.spec]) (.agg #[.int .i64 y.kind,.string y.name,.string y.loc,.string y.spec])) W= .ok (.bool !b) W:=fun W=>by rw[aa,z]
   have ad: ∀(M:BinOp) (a b:Operand) (W:World),Sem.run Tryz.prog (eqGuard M 77 a b (.agg #[.int .i64 x.kind,.string x.name,.string x.loc,.string x.spec]) (.agg #[.int .i64 y.kind,.string y.name,.string y.loc,.string y.spec])) W= .ok () W:=fun M a b W=>Z M a b x y W
   go_wp2
   have k0:=cell_regrown C0.out
   have m0:=cell_regrown D0.out
   have k1:=cell_regrown C1.out
   have m1:=cell_regrown D1.out
   have k2:=cell_regrown C2.out
   have m2:=cell_regrown D2.out
   have k3:=cell_regrown C3.out
   have m3:=cell_regrown D3.out
   simp only[Nat.add_zero] at k0 m0
   refine wp_region_quiet_below (by kernel_rfl) (by kernel_rfl) ?_
   repeat (go_big_quiet_step (fail))
   refine wpQuiet_nil ?_
   intro w2 V
   obtain⟨⟨dq,ab⟩,H⟩:=V
   have K:Hid (Below w.heap.size w w2):=by show Below _ _ _;rw[H];exact N.out.trans ((below_regrown wr dq ab).mono N.out.size)
   clear H k0 m0 C0 D0 k1 m1 C1 D1 k2 m2 C2 D2 k3 m3 C3 D3
   cases b with
   |true=>
    go_wp2
    go_roundg (gk-1)
    case rel=>exact⟨Q,rfl,by have:=HJ.out;omega,by rw[HJ.out];have e:=zi6.1 z;exact zfY HT.out HX.out (by rw[e];exact HY.out),K.out⟩
    case measure=>omega
   |false=>
    go_wp2
    go_ret
    exact⟨⟨false,rfl,⟨fun k=>(by cases k),fun k=>(by have e:=HX.out;rw[k,HY.out] at e;cases e;rw[zi6.2 rfl] at z;cases z)⟩⟩,K.out⟩
  ·have L: ¬(j:Int)<(o.length:Int):=by omega
   obtain rfl:j=o.length:=by omega
   go_wp2
   go_ret
   exact⟨⟨true,rfl,⟨fun _=>zfZ HL.out HT.out,fun _=>rfl⟩⟩,N.out⟩
theorem zrj (L: ∀(x y:Ep) (W:World),Sem.run Tryz.prog (binOp .neq 77 (.agg #[.int .i64 x.kind,.string x.name,.string x.loc,.string x.spec]) (.agg #[.int .i64 y.kind,.string y.name,.string y.loc,.string y.spec])) W= .ok (.bool (!zdj x y)) W) (J: ∀(Z:BinOp) (a b:Operand) (x y:Ep) (W:World),Sem.run Tryz.prog (eqGuard Z 77 a b (.agg #[.int .i64 x.kind,.string x.name,.string x.loc,.string x.spec]) (.agg #[.int .i64 y.kind,.string y.name,.string y.loc,.string y.spec])) W= .ok () W) (Q b2:Nat) (H E:Rw) (j o:List Ep) (w:World) (O:OwnR w Q 77 4 H j.length (j.flatMap epL)) (N:OwnR w b2 77 4 E o.length (o.flatMap epL)) (X:j.length≤4294967296):
  Calls Tryz.prog 74 #[.slice H.a j.length H.cap,.slice E.a o.length E.cap] w fun e K=>zc9 (j=o) e∧Below w.heap.size w K:=by
 by_cases z:j.length=o.length
 ·rw[←z]
  by_cases D:j.length=0
  ·rw[D]
   refine (zrh _ _ _ _ w).mono ?_
   rintro e K ⟨rfl,I⟩
   exact⟨⟨true,rfl,⟨fun _=>(by rw[List.eq_nil_of_length_eq_zero D,List.eq_nil_of_length_eq_zero (z.symm.trans D)]),fun _=>rfl⟩⟩,I⟩
  ·rcases O.nil_or with ⟨_,_,e⟩|⟨V,U⟩
   ·exact absurd e D
   ·rcases N.nil_or with ⟨_,_,e⟩|⟨Y,M⟩
    ·exact absurd (z.trans e) D
    ·rw[U,M]
     exact zri L J Q b2 V Y H E j o w O N U M z X
 ·refine (zrg _ _ _ _ _ _ w (by omega)).mono ?_
  rintro e K ⟨rfl,I⟩
  exact⟨⟨false,rfl,⟨fun k=>(by cases k),fun k=>absurd (by rw[k]) z⟩⟩,I⟩
def zdk (x y:Sm):Bool:=x.kind==y.kind&&x.name.toList==y.name.toList&&x.expr==y.expr
theorem zi7 {x y:Sm}:zdk x y=true↔x=y:=by
 constructor
 ·intro h
  unfold zdk at h
  simp only[Bool.and_eq_true] at h
  obtain⟨⟨j,z⟩,o⟩:=h
  cases x
  cases y
  simp only at j z o
  congr 1<;>first|(apply zga;assumption)|(apply eq_of_beq;assumption)
 ·intro h
  rw[h]
  simp[zdk]
theorem zrk (E I:Option Addr) (j o H D:Nat) (w:World) (h:(j:Int)≠(o:Int)):Calls Tryz.prog 75 #[.slice E j H,.slice I o D] w fun e z=>e= .returned (.bool false)∧Below w.heap.size w z:=by
 go_enter Tryz.func75,Tryz.ntmps75
 go_wp2
 go_ret
 exact⟨rfl,Below.refl _ _⟩
theorem zrl (z E:Option Addr) (j D:Nat) (w:World):Calls Tryz.prog 75 #[.slice z 0 j,.slice E 0 D] w fun e o=>e= .returned (.bool true)∧Below w.heap.size w o:=by
 go_enter Tryz.func75,Tryz.ntmps75
 go_wp2
 go_loopg [13] 1 (fun k i wr=>k=1∧i= .int .i64 0∧wr=w)
 case atStart=>exact⟨rfl,rfl,rfl⟩
 case round=>
  obtain⟨rfl,rfl,rfl⟩:=hrel
  go_wp2
  go_ret
  exact⟨rfl,Below.refl _ _⟩
theorem zrm (aa: ∀(x y:Sm) (W:World),Sem.run Tryz.prog (binOp .neq 79 (.agg #[.int .i64 x.kind,.string x.name,.int .i64 x.expr]) (.agg #[.int .i64 y.kind,.string y.name,.int .i64 y.expr])) W= .ok (.bool (!zdk x y)) W) (Z: ∀(M:BinOp) (a b:Operand) (x y:Sm) (W:World),Sem.run Tryz.prog (eqGuard M 79 a b (.agg #[.int .i64 x.kind,.string x.name,.int .i64 x.expr]) (.agg #[.int .i64 y.kind,.string y.name,.int .i64 y.expr])) W= .ok () W) (b1 b2 Y g2:Nat) (r1 r2:Rw) (o I:List Sm) (w:World) (H:OwnR w b1 79 3 r1 o.length (o.flatMap smL)) (E:OwnR w b2 79 3 r2 I.length (I.flatMap smL)) (e1:r1.a=some ⟨Y,0,none⟩) (e2:r2.a=some ⟨g2,0,none⟩) (hl:o.length=I.length) (hb:o.length≤4294967296):
  Calls Tryz.prog 75 #[.slice (some ⟨Y,0,none⟩) o.length r1.cap,.slice (some ⟨g2,0,none⟩) o.length r2.cap] w fun e w'=>zc9 (o=I) e∧Below w.heap.size w w':=by
 have H1:=zc H
 have H2:=zc E
 have E1:=zc e1
 have E2:=zc e2
 have HL:=zc hl
 clear H E e1 e2 hl
 go_enter Tryz.func75,Tryz.ntmps75
 go_wp2
 go_loopg [13] o.length (fun k i wr=>∃j:Nat,i= .int .i64 j∧j+k=o.length∧o.take j=I.take j∧Below w.heap.size w wr)
 case atStart=>exact⟨0,rfl,by omega,rfl,Below.refl _ _⟩
 case round=>
  obtain⟨j,rfl,hj,ht,hb⟩:=hrel
  have N:=zc hb
  have HT:=zc ht
  clear hb ht
  by_cases J:j<o.length
  ·have L:(j:Int)<(o.length:Int):=by omega
   obtain⟨x,X⟩:=zch J
   obtain⟨y,U⟩:=zch (show j<I.length by rw[←HL.out];exact J)
   obtain⟨g',ga,H⟩:=OwnR.elem (f:=smL) (m:=3) (fun _=>rfl) (H1.out.keep fun k g=>N.out.block k (H1.out.typed g).2.1) X
   obtain rfl:g'=Y:=by have:=ga.symm.trans E1.out;simpa using this
   obtain⟨g',gb,E⟩:=OwnR.elem (f:=smL) (m:=3) (fun _=>rfl) (H2.out.keep fun k g=>N.out.block k (H2.out.typed g).2.1) U
   obtain rfl:g'=g2:=by have:=gb.symm.trans E2.out;simpa using this
   have C0:=zc (H 0 (by omega))
   have D0:=zc (E 0 (by omega))
   have C1:=zc (H 1 (by omega))
   have D1:=zc (E 1 (by omega))
   have C2:=zc (H 2 (by omega))
   have D2:=zc (E 2 (by omega))
   have HX:=zc X
   have HY:=zc U
   clear H E ga gb X U
   obtain⟨Q,O⟩: ∃Q,Q=j+1:=⟨_,rfl⟩
   have ej:(j:Int)+1=(Q:Int):=by omega
   have HJ:=zc O
   clear O
   obtain⟨b,z⟩: ∃b,zdk x y=b:=⟨_,rfl⟩
   have ac: ∀W:World,Sem.run Tryz.prog (binOp .neq 79 (.agg #[.int .i64 x.kind,.string x.name,.int .i64 x.expr]) (.agg #[.int .i64 y.kind,.string y.name,.int .i64 y.expr])) W= .ok (.bool !b) W:=fun W=>by rw[aa,z]
   have ad: ∀(M:BinOp) (a b:Operand) (W:World),Sem.run Tryz.prog (eqGuard M 79 a b (.agg #[.int .i64 x.kind,.string x.name,.int .i64 x.expr]) (.agg #[.int .i64 y.kind,.string y.name,.int .i64 y.expr])) W= .ok () W:=fun M a b W=>Z M a b x y W
   go_wp2
   have k0:=cell_regrown C0.out
   have m0:=cell_regrown D0.out
   have k1:=cell_regrown C1.out
   have m1:=cell_regrown D1.out
   have k2:=cell_regrown C2.out
   have m2:=cell_regrown D2.out
   simp only[Nat.add_zero] at k0 m0
   refine wp_region_quiet_below (by kernel_rfl) (by kernel_rfl) ?_
   repeat (go_big_quiet_step (fail))
   refine wpQuiet_nil ?_
   intro w2 V
   obtain⟨⟨dq,ab⟩,D⟩:=V
   have K:Hid (Below w.heap.size w w2):=by show Below _ _ _;rw[D];exact N.out.trans ((below_regrown wr dq ab).mono N.out.size)
   clear D k0 m0 C0 D0 k1 m1 C1 D1 k2 m2 C2 D2
   cases b with
   |true=>
    go_wp2
    go_roundg (gk-1)
    case rel=>exact⟨Q,rfl,by have:=HJ.out;omega,by rw[HJ.out];have e:=zi7.1 z;exact zfY HT.out HX.out (by rw[e];exact HY.out),K.out⟩
    case measure=>omega
   |false=>
    go_wp2
    go_ret
    exact⟨⟨false,rfl,⟨fun k=>(by cases k),fun k=>(by have e:=HX.out;rw[k,HY.out] at e;cases e;rw[zi7.2 rfl] at z;cases z)⟩⟩,K.out⟩
  ·have L: ¬(j:Int)<(o.length:Int):=by omega
   obtain rfl:j=o.length:=by omega
   go_wp2
   go_ret
   exact⟨⟨true,rfl,⟨fun _=>zfZ HL.out HT.out,fun _=>rfl⟩⟩,N.out⟩
theorem zrn (L: ∀(x y:Sm) (W:World),Sem.run Tryz.prog (binOp .neq 79 (.agg #[.int .i64 x.kind,.string x.name,.int .i64 x.expr]) (.agg #[.int .i64 y.kind,.string y.name,.int .i64 y.expr])) W= .ok (.bool (!zdk x y)) W) (J: ∀(Z:BinOp) (a b:Operand) (x y:Sm) (W:World),Sem.run Tryz.prog (eqGuard Z 79 a b (.agg #[.int .i64 x.kind,.string x.name,.int .i64 x.expr]) (.agg #[.int .i64 y.kind,.string y.name,.int .i64 y.expr])) W= .ok () W) (Q b2:Nat) (H E:Rw) (j o:List Sm) (w:World) (O:OwnR w Q 79 3 H j.length (j.flatMap smL)) (N:OwnR w b2 79 3 E o.length (o.flatMap smL)) (X:j.length≤4294967296):
  Calls Tryz.prog 75 #[.slice H.a j.length H.cap,.slice E.a o.length E.cap] w fun e K=>zc9 (j=o) e∧Below w.heap.size w K:=by
 by_cases z:j.length=o.length
 ·rw[←z]
  by_cases D:j.length=0
  ·rw[D]
   refine (zrl _ _ _ _ w).mono ?_
   rintro e K ⟨rfl,I⟩
   exact⟨⟨true,rfl,⟨fun _=>(by rw[List.eq_nil_of_length_eq_zero D,List.eq_nil_of_length_eq_zero (z.symm.trans D)]),fun _=>rfl⟩⟩,I⟩
  ·rcases O.nil_or with ⟨_,_,e⟩|⟨V,U⟩
   ·exact absurd e D
   ·rcases N.nil_or with ⟨_,_,e⟩|⟨Y,M⟩
    ·exact absurd (z.trans e) D
    ·rw[U,M]
     exact zrm L J Q b2 V Y H E j o w O N U M z X
 ·refine (zrk _ _ _ _ _ _ w (by omega)).mono ?_
  rintro e K ⟨rfl,I⟩
  exact⟨⟨false,rfl,⟨fun k=>(by cases k),fun k=>absurd (by rw[k]) z⟩⟩,I⟩
def zdl (x y:Ex):Bool:=x.kind==y.kind&&x.num==y.num&&x.name.toList==y.name.toList&&x.field.toList==y.field.toList&&x.l==y.l&&x.r==y.r
theorem zi8 {x y:Ex}:zdl x y=true↔x=y:=by
 constructor
 ·intro h
  unfold zdl at h
  simp only[Bool.and_eq_true] at h
  obtain⟨⟨⟨⟨⟨H,D⟩,z⟩,o⟩,E⟩,j⟩:=h
  cases x
  cases y
  simp only at H D z o E j
  congr 1<;>first|(apply zga;assumption)|(apply eq_of_beq;assumption)
 ·intro h
  rw[h]
  simp[zdl]
theorem zro (E I:Option Addr) (j o H D:Nat) (w:World) (h:(j:Int)≠(o:Int)):Calls Tryz.prog 76 #[.slice E j H,.slice I o D] w fun e z=>e= .returned (.bool false)∧Below w.heap.size w z:=by
 go_enter Tryz.func76,Tryz.ntmps76
 go_wp2
 go_ret
 exact⟨rfl,Below.refl _ _⟩
theorem zrp (z E:Option Addr) (j D:Nat) (w:World):Calls Tryz.prog 76 #[.slice z 0 j,.slice E 0 D] w fun e o=>e= .returned (.bool true)∧Below w.heap.size w o:=by
 go_enter Tryz.func76,Tryz.ntmps76
 go_wp2
 go_loopg [13] 1 (fun k i wr=>k=1∧i= .int .i64 0∧wr=w)
 case atStart=>exact⟨rfl,rfl,rfl⟩
 case round=>
  obtain⟨rfl,rfl,rfl⟩:=hrel
  go_wp2
  go_ret
  exact⟨rfl,Below.refl _ _⟩
theorem zrq (ab: ∀(x y:Ex) (W:World),Sem.run Tryz.prog (binOp .neq 81 (.agg #[.int .i64 x.kind,.int .i64 x.num,.string x.name,.string x.field,.int .i64 x.l,.int .i64 x.r]) (.agg #[.int .i64 y.kind,.int .i64 y.num,.string y.name,.string y.field,.int .i64 y.l,.int .i64 y.r])) W= .ok (.bool (!zdl x y)) W) (Z: ∀(M:BinOp) (a b:Operand) (x y:Ex) (W:World),Sem.run Tryz.prog (eqGuard M 81 a b (.agg #[.int .i64 x.kind,.int .i64 x.num,.string x.name,.string x.field,.int .i64 x.l,.int .i64 x.r]) (.agg #[.int .i64 y.kind,.int .i64 y.num,.string y.name,.string y.field,.int .i64 y.l,.int .i64 y.r])) W= .ok () W) (b1 b2 Y g2:Nat) (r1 r2:Rw) (o I:List Ex) (w:World) (D:OwnR w b1 81 6 r1 o.length (o.flatMap exL)) (z:OwnR w b2 81 6 r2 I.length (I.flatMap exL)) (e1:r1.a=some ⟨Y,0,none⟩) (e2:r2.a=some ⟨g2,0,none⟩) (hl:o.length=I.length) (hb:o.length≤4294967296):
  Calls Tryz.prog 76 #[.slice (some ⟨Y,0,none⟩) o.length r1.cap,.slice (some ⟨g2,0,none⟩) o.length r2.cap] w fun e w'=>zc9 (o=I) e∧Below w.heap.size w w':=by
 have H1:=zc D
 have H2:=zc z
 have E1:=zc e1
 have E2:=zc e2
 have HL:=zc hl
 clear D z e1 e2 hl
 go_enter Tryz.func76,Tryz.ntmps76
 go_wp2
 go_loopg [13] o.length (fun k i wr=>∃j:Nat,i= .int .i64 j∧j+k=o.length∧o.take j=I.take j∧Below w.heap.size w wr)
 case atStart=>exact⟨0,rfl,by omega,rfl,Below.refl _ _⟩
 case round=>
  obtain⟨j,rfl,hj,ht,hb⟩:=hrel
  have N:=zc hb
  have HT:=zc ht
  clear hb ht
  by_cases J:j<o.length
  ·have L:(j:Int)<(o.length:Int):=by omega
   obtain⟨x,V⟩:=zch J
   obtain⟨y,U⟩:=zch (show j<I.length by rw[←HL.out];exact J)
   obtain⟨g',ga,D⟩:=OwnR.elem (f:=exL) (m:=6) (fun _=>rfl) (H1.out.keep fun k g=>N.out.block k (H1.out.typed g).2.1) V
   obtain rfl:g'=Y:=by have:=ga.symm.trans E1.out;simpa using this
   obtain⟨g',gb,z⟩:=OwnR.elem (f:=exL) (m:=6) (fun _=>rfl) (H2.out.keep fun k g=>N.out.block k (H2.out.typed g).2.1) U
   obtain rfl:g'=g2:=by have:=gb.symm.trans E2.out;simpa using this
   have C0:=zc (D 0 (by omega))
   have D0:=zc (z 0 (by omega))
   have C1:=zc (D 1 (by omega))
   have D1:=zc (z 1 (by omega))
   have C2:=zc (D 2 (by omega))
   have D2:=zc (z 2 (by omega))
   have C3:=zc (D 3 (by omega))
   have D3:=zc (z 3 (by omega))
   have C4:=zc (D 4 (by omega))
   have D4:=zc (z 4 (by omega))
   have C5:=zc (D 5 (by omega))
   have D5:=zc (z 5 (by omega))
   have HX:=zc V
   have HY:=zc U
   clear D z ga gb V U
   obtain⟨Q,O⟩: ∃Q,Q=j+1:=⟨_,rfl⟩
   have ej:(j:Int)+1=(Q:Int):=by omega
   have HJ:=zc O
   clear O
   obtain⟨b,E⟩: ∃b,zdl x y=b:=⟨_,rfl⟩
   have ac: ∀W:World,Sem.run Tryz.prog (binOp .neq 81 (.agg #[.int .i64 x.kind,.int .i64 x.num,.string x.name,.string x.field,.int .i64 x.l,.int .i64 x.r]) (.agg #[.int .i64 y.kind,.int .i64 y.num,.string y.name,.string y.field,.int .i64 y.l,.int .i64 y.r])) W= .ok (.bool !b) W:=fun W=>by rw[ab,E]
   have ad: ∀(M:BinOp) (a b:Operand) (W:World),Sem.run Tryz.prog (eqGuard M 81 a b (.agg #[.int .i64 x.kind,.int .i64 x.num,.string x.name,.string x.field,.int .i64 x.l,.int .i64 x.r]) (.agg #[.int .i64 y.kind,.int .i64 y.num,.string y.name,.string y.field,.int .i64 y.l,.int .i64 y.r])) W= .ok () W:=fun M a b W=>Z M a b x y W
   go_wp2
   have k0:=cell_regrown C0.out
   have m0:=cell_regrown D0.out
   have k1:=cell_regrown C1.out
   have m1:=cell_regrown D1.out
   have k2:=cell_regrown C2.out
   have m2:=cell_regrown D2.out
   have k3:=cell_regrown C3.out
   have m3:=cell_regrown D3.out
   have k4:=cell_regrown C4.out
   have m4:=cell_regrown D4.out
   have k5:=cell_regrown C5.out
   have m5:=cell_regrown D5.out
   simp only[Nat.add_zero] at k0 m0
   refine wp_region_quiet_below (by kernel_rfl) (by kernel_rfl) ?_
   repeat (go_big_quiet_step (fail))
   refine wpQuiet_nil ?_
   intro w2 X
   obtain⟨⟨dq,aa⟩,H⟩:=X
   have K:Hid (Below w.heap.size w w2):=by show Below _ _ _;rw[H];exact N.out.trans ((below_regrown wr dq aa).mono N.out.size)
   clear H k0 m0 C0 D0 k1 m1 C1 D1 k2 m2 C2 D2 k3 m3 C3 D3 k4 m4 C4 D4 k5 m5 C5 D5
   cases b with
   |true=>
    go_wp2
    go_roundg (gk-1)
    case rel=>exact⟨Q,rfl,by have:=HJ.out;omega,by rw[HJ.out];have e:=zi8.1 E;exact zfY HT.out HX.out (by rw[e];exact HY.out),K.out⟩
    case measure=>omega
   |false=>
    go_wp2
    go_ret
    exact⟨⟨false,rfl,⟨fun k=>(by cases k),fun k=>(by have e:=HX.out;rw[k,HY.out] at e;cases e;rw[zi8.2 rfl] at E;cases E)⟩⟩,K.out⟩
  ·have L: ¬(j:Int)<(o.length:Int):=by omega
   obtain rfl:j=o.length:=by omega
   go_wp2
   go_ret
   exact⟨⟨true,rfl,⟨fun _=>zfZ HL.out HT.out,fun _=>rfl⟩⟩,N.out⟩
theorem zrr (L: ∀(x y:Ex) (W:World),Sem.run Tryz.prog (binOp .neq 81 (.agg #[.int .i64 x.kind,.int .i64 x.num,.string x.name,.string x.field,.int .i64 x.l,.int .i64 x.r]) (.agg #[.int .i64 y.kind,.int .i64 y.num,.string y.name,.string y.field,.int .i64 y.l,.int .i64 y.r])) W= .ok (.bool (!zdl x y)) W) (J: ∀(Z:BinOp) (a b:Operand) (x y:Ex) (W:World),Sem.run Tryz.prog (eqGuard Z 81 a b (.agg #[.int .i64 x.kind,.int .i64 x.num,.string x.name,.string x.field,.int .i64 x.l,.int .i64 x.r]) (.agg #[.int .i64 y.kind,.int .i64 y.num,.string y.name,.string y.field,.int .i64 y.l,.int .i64 y.r])) W= .ok () W) (Q b2:Nat) (H E:Rw) (j o:List Ex) (w:World) (O:OwnR w Q 81 6 H j.length (j.flatMap exL)) (N:OwnR w b2 81 6 E o.length (o.flatMap exL)) (X:j.length≤4294967296):
  Calls Tryz.prog 76 #[.slice H.a j.length H.cap,.slice E.a o.length E.cap] w fun e K=>zc9 (j=o) e∧Below w.heap.size w K:=by
 by_cases z:j.length=o.length
 ·rw[←z]
  by_cases D:j.length=0
  ·rw[D]
   refine (zrp _ _ _ _ w).mono ?_
   rintro e K ⟨rfl,I⟩
   exact⟨⟨true,rfl,⟨fun _=>(by rw[List.eq_nil_of_length_eq_zero D,List.eq_nil_of_length_eq_zero (z.symm.trans D)]),fun _=>rfl⟩⟩,I⟩
  ·rcases O.nil_or with ⟨_,_,e⟩|⟨V,U⟩
   ·exact absurd e D
   ·rcases N.nil_or with ⟨_,_,e⟩|⟨Y,M⟩
    ·exact absurd (z.trans e) D
    ·rw[U,M]
     exact zrq L J Q b2 V Y H E j o w O N U M z X
 ·refine (zro _ _ _ _ _ _ w (by omega)).mono ?_
  rintro e K ⟨rfl,I⟩
  exact⟨⟨false,rfl,⟨fun k=>(by cases k),fun k=>absurd (by rw[k]) z⟩⟩,I⟩
end Go.Proofs.YthfeoomfiafldaaGreat