/-
 What slices.Equal answers of rows of the call's own,the model's != handed in: the walks.
-/
import Derived.Test.YthfeoomfiafldaaGreatCdImplParseJToMdMem
namespace Go.Proofs.YthfeoomfiafldaaGreat
set_option maxRecDepth 100000
set_option maxHeartbeats 6400000
open Go.RowKit Go.PlainAid Go.Sort
def zc9 (P:Prop) (e:Ending):Prop:=∃b,e= .returned (.bool b)∧(b=true↔P)
theorem zch {α:Type} {l:List α} {j:Nat} (h:j<l.length): ∃x,l[j]? =some x:=⟨_,List.getElem?_eq_getElem h⟩
theorem zfY {α:Type} {z o:List α} {j:Nat} {x:α} (h:z.take j=o.take j) (E:z[j]? =some x) (H:o[j]? =some x):z.take (j+1)=o.take (j+1):=by
 obtain⟨a,rfl⟩:=List.getElem?_eq_some_iff.1 E
 obtain⟨b,D⟩:=List.getElem?_eq_some_iff.1 H
 rw[List.take_succ_eq_append_getElem a,List.take_succ_eq_append_getElem b,h,D]
theorem zfZ {α:Type} {j o:List α} (z:j.length=o.length) (h:j.take j.length=o.take j.length):j=o:=by
 rw[List.take_length,z,List.take_length] at h
 exact h
theorem zga {a b:ByteArray} (h:(a.toList==b.toList)=true):a=b:=(zeF a b).1 h
def zld (x y:ByteArray):Bool:=x.toList==y.toList
theorem zle {x y:ByteArray}:zld x y=true↔x=y:=⟨fun h=>zga h,fun h=>by rw[h];exact beq_self_eq_true _⟩
theorem zqY (H I:Option Addr) (o j E D:Nat) (w:World) (h:(o:Int)≠(j:Int)):Calls Tryz.prog 72 #[.slice H o E,.slice I j D] w fun e z=>e= .returned (.bool false)∧Below w.heap.size w z:=by
 go_enter Tryz.func72,Tryz.ntmps72
 go_wp2
 go_ret
 exact⟨rfl,Below.refl _ _⟩
theorem zqZ (D E:Option Addr) (o z:Nat) (w:World):Calls Tryz.prog 72 #[.slice D 0 o,.slice E 0 z] w fun e j=>e= .returned (.bool true)∧Below w.heap.size w j:=by
 go_enter Tryz.func72,Tryz.ntmps72
 go_wp2
 go_loopg [13] 1 (fun k i wr=>k=1∧i= .int .i64 0∧wr=w)
 case atStart=>exact⟨rfl,rfl,rfl⟩
 case round=>
  obtain⟨rfl,rfl,rfl⟩:=hrel
  go_wp2
  go_ret
  exact⟨rfl,Below.refl _ _⟩
theorem zra (b1 b2 g1 Z:Nat) (X r2:Rw) (o E:List ByteArray) (w:World) (H:OwnR w b1 9 1 X o.length (o.flatMap (fun x=>[Value.string x]))) (L:OwnR w b2 9 1 r2 E.length (E.flatMap (fun x=>[Value.string x]))) (e1:X.a=some ⟨g1,0,none⟩) (e2:r2.a=some ⟨Z,0,none⟩) (hl:o.length=E.length) (hb:o.length≤4294967296):
  Calls Tryz.prog 72 #[.slice (some ⟨g1,0,none⟩) o.length X.cap,.slice (some ⟨Z,0,none⟩) o.length r2.cap] w fun e w'=>zc9 (o=E) e∧Below w.heap.size w w':=by
 have H1:=zc H
 have H2:=zc L
 have E1:=zc e1
 have E2:=zc e2
 have HL:=zc hl
 clear H L e1 e2 hl
 go_enter Tryz.func72,Tryz.ntmps72
 go_wp2
 go_loopg [13] o.length (fun k i wr=>∃j:Nat,i= .int .i64 j∧j+k=o.length∧o.take j=E.take j∧Below w.heap.size w wr)
 case atStart=>exact⟨0,rfl,by omega,rfl,Below.refl _ _⟩
 case round=>
  obtain⟨j,rfl,hj,ht,hb⟩:=hrel
  have J:=zc hb
  have HT:=zc ht
  clear hb ht
  by_cases M:j<o.length
  ·have K:(j:Int)<(o.length:Int):=by omega
   obtain⟨x,V⟩:=zch M
   obtain⟨y,Y⟩:=zch (show j<E.length by rw[←HL.out];exact M)
   obtain⟨Q,ga,H⟩:=OwnR.elem (f:=(fun x=>[Value.string x])) (m:=1) (fun _=>rfl) (H1.out.keep fun k g=>J.out.block k (H1.out.typed g).2.1) V
   obtain rfl:Q=g1:=by have:=ga.symm.trans E1.out;simpa using this
   obtain⟨Q,gb,L⟩:=OwnR.elem (f:=(fun x=>[Value.string x])) (m:=1) (fun _=>rfl) (H2.out.keep fun k g=>J.out.block k (H2.out.typed g).2.1) Y
   obtain rfl:Q=Z:=by have:=gb.symm.trans E2.out;simpa using this
   have C0:=zc (H 0 (by omega))
   have D0:=zc (L 0 (by omega))
   have HX:=zc V
   have HY:=zc Y
   clear H L ga gb V Y
   obtain⟨O,I⟩: ∃O,O=j+1:=⟨_,rfl⟩
   have ej:(j:Int)+1=(O:Int):=by omega
   have HJ:=zc I
   clear I
   obtain⟨b,z⟩: ∃b,zld x y=b:=⟨_,rfl⟩
   have ab:(x.toList==y.toList)=b:=z
   go_wp2
   have k0:=cell_regrown C0.out
   have m0:=cell_regrown D0.out
   simp only[Nat.add_zero,Nat.mul_one] at k0 m0
   refine wp_region_quiet_below (by kernel_rfl) (by kernel_rfl) ?_
   repeat (go_big_quiet_step (fail))
   refine wpQuiet_nil ?_
   intro w2 aa
   obtain⟨⟨dq,U⟩,D⟩:=aa
   have N:Hid (Below w.heap.size w w2):=by show Below _ _ _;rw[D];exact J.out.trans ((below_regrown wr dq U).mono J.out.size)
   clear D k0 m0 C0 D0
   cases b with
   |true=>
    go_wp2
    go_roundg (gk-1)
    case rel=>exact⟨O,rfl,by have:=HJ.out;omega,by rw[HJ.out];have e:=zle.1 z;exact zfY HT.out HX.out (by rw[e];exact HY.out),N.out⟩
    case measure=>omega
   |false=>
    go_wp2
    go_ret
    exact⟨⟨false,rfl,⟨fun k=>(by cases k),fun k=>(by have e:=HX.out;rw[k,HY.out] at e;cases e;rw[zle.2 rfl] at z;cases z)⟩⟩,N.out⟩
  ·have K: ¬(j:Int)<(o.length:Int):=by omega
   obtain rfl:j=o.length:=by omega
   go_wp2
   go_ret
   exact⟨⟨true,rfl,⟨fun _=>zfZ HL.out HT.out,fun _=>rfl⟩⟩,J.out⟩
theorem zrb (K b2:Nat) (H E:Rw) (j o:List ByteArray) (w:World) (N:OwnR w K 9 1 H j.length (j.flatMap (fun x=>[Value.string x]))) (O:OwnR w b2 9 1 E o.length (o.flatMap (fun x=>[Value.string x]))) (U:j.length≤4294967296):
  Calls Tryz.prog 72 #[.slice H.a j.length H.cap,.slice E.a o.length E.cap] w fun e I=>zc9 (j=o) e∧Below w.heap.size w I:=by
 by_cases z:j.length=o.length
 ·rw[←z]
  by_cases D:j.length=0
  ·rw[D]
   refine (zqZ _ _ _ _ w).mono ?_
   rintro e I ⟨rfl,J⟩
   exact⟨⟨true,rfl,⟨fun _=>(by rw[List.eq_nil_of_length_eq_zero D,List.eq_nil_of_length_eq_zero (z.symm.trans D)]),fun _=>rfl⟩⟩,J⟩
  ·rcases N.nil_or with ⟨_,_,e⟩|⟨V,M⟩
   ·exact absurd e D
   ·rcases O.nil_or with ⟨_,_,e⟩|⟨Q,L⟩
    ·exact absurd (z.trans e) D
    ·rw[M,L]
     exact zra K b2 V Q H E j o w N O M L z U
 ·refine (zqY _ _ _ _ _ _ w (by omega)).mono ?_
  rintro e I ⟨rfl,J⟩
  exact⟨⟨false,rfl,⟨fun k=>(by cases k),fun k=>absurd (by rw[k]) z⟩⟩,J⟩
def zdi (x y:Im):Bool:=x.spec.toList==y.spec.toList&&x.first.toList==y.first.toList&&x.loc.toList==y.loc.toList
theorem zi5 {x y:Im}:zdi x y=true↔x=y:=by
 constructor
 ·intro h
  unfold zdi at h
  simp only[Bool.and_eq_true] at h
  obtain⟨⟨j,o⟩,z⟩:=h
  cases x
  cases y
  simp only at j o z
  congr 1<;>first|(apply zga;assumption)|(apply eq_of_beq;assumption)
 ·intro h
  rw[h]
  simp[zdi]
theorem zrc (H I:Option Addr) (o j E D:Nat) (w:World) (h:(o:Int)≠(j:Int)):Calls Tryz.prog 73 #[.slice H o E,.slice I j D] w fun e z=>e= .returned (.bool false)∧Below w.heap.size w z:=by
 go_enter Tryz.func73,Tryz.ntmps73
 go_wp2
 go_ret
 exact⟨rfl,Below.refl _ _⟩
theorem zrd (D E:Option Addr) (o z:Nat) (w:World):Calls Tryz.prog 73 #[.slice D 0 o,.slice E 0 z] w fun e j=>e= .returned (.bool true)∧Below w.heap.size w j:=by
 go_enter Tryz.func73,Tryz.ntmps73
 go_wp2
 go_loopg [13] 1 (fun k i wr=>k=1∧i= .int .i64 0∧wr=w)
 case atStart=>exact⟨rfl,rfl,rfl⟩
 case round=>
  obtain⟨rfl,rfl,rfl⟩:=hrel
  go_wp2
  go_ret
  exact⟨rfl,Below.refl _ _⟩
theorem zre (aa: ∀(x y:Im) (W:World),Sem.run Tryz.prog (binOp .neq 75 (.agg #[.string x.spec,.string x.first,.string x.loc]) (.agg #[.string y.spec,.string y.first,.string y.loc])) W= .ok (.bool (!zdi x y)) W) (Y: ∀(M:BinOp) (a b:Operand) (x y:Im) (W:World),Sem.run Tryz.prog (eqGuard M 75 a b (.agg #[.string x.spec,.string x.first,.string x.loc]) (.agg #[.string y.spec,.string y.first,.string y.loc])) W= .ok () W) (b1 b2 g1 g2:Nat) (Z r2:Rw) (o I:List Im) (w:World) (E:OwnR w b1 75 3 Z o.length (o.flatMap imL)) (H:OwnR w b2 75 3 r2 I.length (I.flatMap imL)) (e1:Z.a=some ⟨g1,0,none⟩) (e2:r2.a=some ⟨g2,0,none⟩) (hl:o.length=I.length) (hb:o.length≤4294967296):
  Calls Tryz.prog 73 #[.slice (some ⟨g1,0,none⟩) o.length Z.cap,.slice (some ⟨g2,0,none⟩) o.length r2.cap] w fun e w'=>zc9 (o=I) e∧Below w.heap.size w w':=by
 have H1:=zc E
 have H2:=zc H
 have E1:=zc e1
 have E2:=zc e2
 have HL:=zc hl
 clear E H e1 e2 hl
 go_enter Tryz.func73,Tryz.ntmps73
 go_wp2
 go_loopg [13] o.length (fun k i wr=>∃j:Nat,i= .int .i64 j∧j+k=o.length∧o.take j=I.take j∧Below w.heap.size w wr)
 case atStart=>exact⟨0,rfl,by omega,rfl,Below.refl _ _⟩
 case round=>
  obtain⟨j,rfl,hj,ht,hb⟩:=hrel
  have K:=zc hb
  have HT:=zc ht
  clear hb ht
  by_cases O:j<o.length
  ·have L:(j:Int)<(o.length:Int):=by omega
   obtain⟨x,X⟩:=zch O
   obtain⟨y,hy⟩:=zch (show j<I.length by rw[←HL.out];exact O)
   obtain⟨U,ga,E⟩:=OwnR.elem (f:=imL) (m:=3) (fun _=>rfl) (H1.out.keep fun k g=>K.out.block k (H1.out.typed g).2.1) X
   obtain rfl:U=g1:=by have:=ga.symm.trans E1.out;simpa using this
   obtain⟨U,gb,H⟩:=OwnR.elem (f:=imL) (m:=3) (fun _=>rfl) (H2.out.keep fun k g=>K.out.block k (H2.out.typed g).2.1) hy
   obtain rfl:U=g2:=by have:=gb.symm.trans E2.out;simpa using this
   have C0:=zc (E 0 (by omega))
   have D0:=zc (H 0 (by omega))
   have C1:=zc (E 1 (by omega))
   have D1:=zc (H 1 (by omega))
   have C2:=zc (E 2 (by omega))
   have D2:=zc (H 2 (by omega))
   have HX:=zc X
   have HY:=zc hy
   clear E H ga gb X hy
   obtain⟨Q,J⟩: ∃Q,Q=j+1:=⟨_,rfl⟩
   have ej:(j:Int)+1=(Q:Int):=by omega
   have HJ:=zc J
   clear J
   obtain⟨b,z⟩: ∃b,zdi x y=b:=⟨_,rfl⟩
   have ad: ∀W:World,Sem.run Tryz.prog (binOp .neq 75 (.agg #[.string x.spec,.string x.first,.string x.loc]) (.agg #[.string y.spec,.string y.first,.string y.loc])) W= .ok (.bool !b) W:=fun W=>by rw[aa,z]
   have ac: ∀(M:BinOp) (a b:Operand) (W:World),Sem.run Tryz.prog (eqGuard M 75 a b (.agg #[.string x.spec,.string x.first,.string x.loc]) (.agg #[.string y.spec,.string y.first,.string y.loc])) W= .ok () W:=fun M a b W=>Y M a b x y W
   go_wp2
   have k0:=cell_regrown C0.out
   have m0:=cell_regrown D0.out
   have k1:=cell_regrown C1.out
   have m1:=cell_regrown D1.out
   have k2:=cell_regrown C2.out
   have m2:=cell_regrown D2.out
   simp only[Nat.add_zero] at k0 m0
   refine wp_region_quiet_below (by kernel_rfl) (by kernel_rfl) ?_
   repeat (go_big_quiet_step (fail))
   refine wpQuiet_nil ?_
   intro w2 ab
   obtain⟨⟨dq,V⟩,D⟩:=ab
   have N:Hid (Below w.heap.size w w2):=by show Below _ _ _;rw[D];exact K.out.trans ((below_regrown wr dq V).mono K.out.size)
   clear D k0 m0 C0 D0 k1 m1 C1 D1 k2 m2 C2 D2
   cases b with
   |true=>
    go_wp2
    go_roundg (gk-1)
    case rel=>exact⟨Q,rfl,by have:=HJ.out;omega,by rw[HJ.out];have e:=zi5.1 z;exact zfY HT.out HX.out (by rw[e];exact HY.out),N.out⟩
    case measure=>omega
   |false=>
    go_wp2
    go_ret
    exact⟨⟨false,rfl,⟨fun k=>(by cases k),fun k=>(by have e:=HX.out;rw[k,HY.out] at e;cases e;rw[zi5.2 rfl] at z;cases z)⟩⟩,N.out⟩
  ·have L: ¬(j:Int)<(o.length:Int):=by omega
   obtain rfl:j=o.length:=by omega
   go_wp2
   go_ret
   exact⟨⟨true,rfl,⟨fun _=>zfZ HL.out HT.out,fun _=>rfl⟩⟩,K.out⟩
theorem zrf (K: ∀(x y:Im) (W:World),Sem.run Tryz.prog (binOp .neq 75 (.agg #[.string x.spec,.string x.first,.string x.loc]) (.agg #[.string y.spec,.string y.first,.string y.loc])) W= .ok (.bool (!zdi x y)) W) (J: ∀(X:BinOp) (a b:Operand) (x y:Im) (W:World),Sem.run Tryz.prog (eqGuard X 75 a b (.agg #[.string x.spec,.string x.first,.string x.loc]) (.agg #[.string y.spec,.string y.first,.string y.loc])) W= .ok () W) (O b2:Nat) (E H:Rw) (j o:List Im) (w:World) (M:OwnR w O 75 3 E j.length (j.flatMap imL)) (Q:OwnR w b2 75 3 H o.length (o.flatMap imL)) (Z:j.length≤4294967296):
  Calls Tryz.prog 73 #[.slice E.a j.length E.cap,.slice H.a o.length H.cap] w fun e I=>zc9 (j=o) e∧Below w.heap.size w I:=by
 by_cases D:j.length=o.length
 ·rw[←D]
  by_cases z:j.length=0
  ·rw[z]
   refine (zrd _ _ _ _ w).mono ?_
   rintro e I ⟨rfl,L⟩
   exact⟨⟨true,rfl,⟨fun _=>(by rw[List.eq_nil_of_length_eq_zero z,List.eq_nil_of_length_eq_zero (D.symm.trans z)]),fun _=>rfl⟩⟩,L⟩
  ·rcases M.nil_or with ⟨_,_,e⟩|⟨Y,N⟩
   ·exact absurd e z
   ·rcases Q.nil_or with ⟨_,_,e⟩|⟨V,U⟩
    ·exact absurd (D.trans e) z
    ·rw[N,U]
     exact zre K J O b2 Y V E H j o w M Q N U D Z
 ·refine (zrc _ _ _ _ _ _ w (by omega)).mono ?_
  rintro e I ⟨rfl,L⟩
  exact⟨⟨false,rfl,⟨fun k=>(by cases k),fun k=>absurd (by rw[k]) D⟩⟩,L⟩
def zdj (x y:Ep):Bool:=x.kind==y.kind&&x.name.toList==y.name.toList&&x.loc.toList==y.loc.toList&&x.spec.toList==y.spec.toList
theorem zi6 {x y:Ep}:zdj x y=true↔x=y:=by
 constructor
 ·intro h
  unfold zdj at h
  simp only[Bool.and_eq_true] at h
  obtain⟨⟨⟨o,z⟩,D⟩,j⟩:=h
  cases x
  cases y
  simp only at o z D j
  congr 1<;>first|(apply zga;assumption)|(apply eq_of_beq;assumption)
 ·intro h
  rw[h]
  simp[zdj]
theorem zrg (H I:Option Addr) (o j E D:Nat) (w:World) (h:(o:Int)≠(j:Int)):Calls Tryz.prog 74 #[.slice H o E,.slice I j D] w fun e z=>e= .returned (.bool false)∧Below w.heap.size w z:=by
 go_enter Tryz.func74,Tryz.ntmps74
 go_wp2
 go_ret
 exact⟨rfl,Below.refl _ _⟩
theorem zrh (D E:Option Addr) (o z:Nat) (w:World):Calls Tryz.prog 74 #[.slice D 0 o,.slice E 0 z] w fun e j=>e= .returned (.bool true)∧Below w.heap.size w j:=by
 go_enter Tryz.func74,Tryz.ntmps74
 go_wp2
 go_loopg [13] 1 (fun k i wr=>k=1∧i= .int .i64 0∧wr=w)
 case atStart=>exact⟨rfl,rfl,rfl⟩
 case round=>
  obtain⟨rfl,rfl,rfl⟩:=hrel
  go_wp2
  go_ret
  exact⟨rfl,Below.refl _ _⟩
theorem zri (aa: ∀(x y:Ep) (W:World),Sem.run Tryz.prog (binOp .neq 77 (.agg #[.int .i64 x.kind,.string x.name,.string x.loc,.string x.spec]) (.agg #[.int .i64 y.kind,.string y.name,.string y.loc,.string y.spec])) W= .ok (.bool (!zdj x y)) W) (Y: ∀(M:BinOp) (a b:Operand) (x y:Ep) (W:World),Sem.run Tryz.prog (eqGuard M 77 a b (.agg #[.int .i64 x.kind,.string x.name,.string x.loc,.string x.spec]) (.agg #[.int .i64 y.kind,.string y.name,.string y.loc,.string y.spec])) W= .ok () W) (b1 b2 g1 g2:Nat) (Z r2:Rw) (o I:List Ep) (w:World) (D:OwnR w b1 77 4 Z o.length (o.flatMap epL)) (H:OwnR w b2 77 4 r2 I.length (I.flatMap epL)) (e1:Z.a=some ⟨g1,0,none⟩) (e2:r2.a=some ⟨g2,0,none⟩) (hl:o.length=I.length) (hb:o.length≤4294967296):
  Calls Tryz.prog 74 #[.slice (some ⟨g1,0,none⟩) o.length Z.cap,.slice (some ⟨g2,0,none⟩) o.length r2.cap] w fun e w'=>zc9 (o=I) e∧Below w.heap.size w w':=by
 have H1:=zc D
 have H2:=zc H
 have E1:=zc e1
 have E2:=zc e2
 have HL:=zc hl
 clear D H e1 e2 hl
 go_enter Tryz.func74,Tryz.ntmps74
 go_wp2
 go_loopg [13] o.length (fun k i wr=>∃j:Nat,i= .int .i64 j∧j+k=o.length∧o.take j=I.take j∧Below w.heap.size w wr)
 case atStart=>exact⟨0,rfl,by omega,rfl,Below.refl _ _⟩
 case round=>
  obtain⟨j,rfl,hj,ht,hb⟩:=hrel
  have K:=zc hb
  have HT:=zc ht
  clear hb ht
  by_cases O:j<o.length
  ·have L:(j:Int)<(o.length:Int):=by omega
   obtain⟨x,X⟩:=zch O
   obtain⟨y,hy⟩:=zch (show j<I.length by rw[←HL.out];exact O)
   obtain⟨U,ga,D⟩:=OwnR.elem (f:=epL) (m:=4) (fun _=>rfl) (H1.out.keep fun k g=>K.out.block k (H1.out.typed g).2.1) X
   obtain rfl:U=g1:=by have:=ga.symm.trans E1.out;simpa using this
   obtain⟨U,gb,H⟩:=OwnR.elem (f:=epL) (m:=4) (fun _=>rfl) (H2.out.keep fun k g=>K.out.block k (H2.out.typed g).2.1) hy
   obtain rfl:U=g2:=by have:=gb.symm.trans E2.out;simpa using this
   have C0:=zc (D 0 (by omega))
   have D0:=zc (H 0 (by omega))
   have C1:=zc (D 1 (by omega))
   have D1:=zc (H 1 (by omega))
   have C2:=zc (D 2 (by omega))
   have D2:=zc (H 2 (by omega))
   have C3:=zc (D 3 (by omega))
   have D3:=zc (H 3 (by omega))
   have HX:=zc X
   have HY:=zc hy
   clear D H ga gb X hy
   obtain⟨Q,J⟩: ∃Q,Q=j+1:=⟨_,rfl⟩
   have ej:(j:Int)+1=(Q:Int):=by omega
   have HJ:=zc J
   clear J
   obtain⟨b,z⟩: ∃b,zdj x y=b:=⟨_,rfl⟩
   have ad: ∀W:World,Sem.run Tryz.prog (binOp .neq 77 (.agg #[.int .i64 x.kind,.string x.name,.string x.loc,.string x.spec]) (.agg #[.int .i64 y.kind,.string y.name,.string y.loc,.string y.spec])) W= .ok (.bool !b) W:=fun W=>by rw[aa,z]
   have ac: ∀(M:BinOp) (a b:Operand) (W:World),Sem.run Tryz.prog (eqGuard M 77 a b (.agg #[.int .i64 x.kind,.string x.name,.string x.loc,.string x.spec]) (.agg #[.int .i64 y.kind,.string y.name,.string y.loc,.string y.spec])) W= .ok () W:=fun M a b W=>Y M a b x y W
   go_wp2
   have k0:=cell_regrown C0.out
   have m0:=cell_regrown D0.out
   have k1:=cell_regrown C1.out
   have m1:=cell_regrown D1.out
   have k2:=cell_regrown C2.out
   have m2:=cell_regrown D2.out
   have k3:=cell_regrown C3.out
   have m3:=cell_regrown D3.out
   simp only[Nat.add_zero] at k0 m0
   refine wp_region_quiet_below (by kernel_rfl) (by kernel_rfl) ?_
   repeat (go_big_quiet_step (fail))
   refine wpQuiet_nil ?_
   intro w2 ab
   obtain⟨⟨dq,V⟩,E⟩:=ab
   have N:Hid (Below w.heap.size w w2):=by show Below _ _ _;rw[E];exact K.out.trans ((below_regrown wr dq V).mono K.out.size)
   clear E k0 m0 C0 D0 k1 m1 C1 D1 k2 m2 C2 D2 k3 m3 C3 D3
   cases b with
   |true=>
    go_wp2
    go_roundg (gk-1)
    case rel=>exact⟨Q,rfl,by have:=HJ.out;omega,by rw[HJ.out];have e:=zi6.1 z;exact zfY HT.out HX.out (by rw[e];exact HY.out),N.out⟩
    case measure=>omega
   |false=>
    go_wp2
    go_ret
    exact⟨⟨false,rfl,⟨fun k=>(by cases k),fun k=>(by have e:=HX.out;rw[k,HY.out] at e;cases e;rw[zi6.2 rfl] at z;cases z)⟩⟩,N.out⟩
  ·have L: ¬(j:Int)<(o.length:Int):=by omega
   obtain rfl:j=o.length:=by omega
   go_wp2
   go_ret
   exact⟨⟨true,rfl,⟨fun _=>zfZ HL.out HT.out,fun _=>rfl⟩⟩,K.out⟩
theorem zrj (K: ∀(x y:Ep) (W:World),Sem.run Tryz.prog (binOp .neq 77 (.agg #[.int .i64 x.kind,.string x.name,.string x.loc,.string x.spec]) (.agg #[.int .i64 y.kind,.string y.name,.string y.loc,.string y.spec])) W= .ok (.bool (!zdj x y)) W) (J: ∀(X:BinOp) (a b:Operand) (x y:Ep) (W:World),Sem.run Tryz.prog (eqGuard X 77 a b (.agg #[.int .i64 x.kind,.string x.name,.string x.loc,.string x.spec]) (.agg #[.int .i64 y.kind,.string y.name,.string y.loc,.string y.spec])) W= .ok () W) (O b2:Nat) (E H:Rw) (j o:List Ep) (w:World) (M:OwnR w O 77 4 E j.length (j.flatMap epL)) (Q:OwnR w b2 77 4 H o.length (o.flatMap epL)) (Z:j.length≤4294967296):
  Calls Tryz.prog 74 #[.slice E.a j.length E.cap,.slice H.a o.length H.cap] w fun e I=>zc9 (j=o) e∧Below w.heap.size w I:=by
 by_cases D:j.length=o.length
 ·rw[←D]
  by_cases z:j.length=0
  ·rw[z]
   refine (zrh _ _ _ _ w).mono ?_
   rintro e I ⟨rfl,L⟩
   exact⟨⟨true,rfl,⟨fun _=>(by rw[List.eq_nil_of_length_eq_zero z,List.eq_nil_of_length_eq_zero (D.symm.trans z)]),fun _=>rfl⟩⟩,L⟩
  ·rcases M.nil_or with ⟨_,_,e⟩|⟨Y,N⟩
   ·exact absurd e z
   ·rcases Q.nil_or with ⟨_,_,e⟩|⟨V,U⟩
    ·exact absurd (D.trans e) z
    ·rw[N,U]
     exact zri K J O b2 Y V E H j o w M Q N U D Z
 ·refine (zrg _ _ _ _ _ _ w (by omega)).mono ?_
  rintro e I ⟨rfl,L⟩
  exact⟨⟨false,rfl,⟨fun k=>(by cases k),fun k=>absurd (by rw[k]) D⟩⟩,L⟩
def zdk (x y:Sm):Bool:=x.kind==y.kind&&x.name.toList==y.name.toList&&x.expr==y.expr
theorem zi7 {x y:Sm}:zdk x y=true↔x=y:=by
 constructor
 ·intro h
  unfold zdk at h
  simp only[Bool.and_eq_true] at h
  obtain⟨⟨j,o⟩,z⟩:=h
  cases x
  cases y
  simp only at j o z
  congr 1<;>first|(apply zga;assumption)|(apply eq_of_beq;assumption)
 ·intro h
  rw[h]
  simp[zdk]
theorem zrk (H I:Option Addr) (o j E D:Nat) (w:World) (h:(o:Int)≠(j:Int)):Calls Tryz.prog 75 #[.slice H o E,.slice I j D] w fun e z=>e= .returned (.bool false)∧Below w.heap.size w z:=by
 go_enter Tryz.func75,Tryz.ntmps75
 go_wp2
 go_ret
 exact⟨rfl,Below.refl _ _⟩
theorem zrl (D E:Option Addr) (o z:Nat) (w:World):Calls Tryz.prog 75 #[.slice D 0 o,.slice E 0 z] w fun e j=>e= .returned (.bool true)∧Below w.heap.size w j:=by
 go_enter Tryz.func75,Tryz.ntmps75
 go_wp2
 go_loopg [13] 1 (fun k i wr=>k=1∧i= .int .i64 0∧wr=w)
 case atStart=>exact⟨rfl,rfl,rfl⟩
 case round=>
  obtain⟨rfl,rfl,rfl⟩:=hrel
  go_wp2
  go_ret
  exact⟨rfl,Below.refl _ _⟩
theorem zrm (aa: ∀(x y:Sm) (W:World),Sem.run Tryz.prog (binOp .neq 79 (.agg #[.int .i64 x.kind,.string x.name,.int .i64 x.expr]) (.agg #[.int .i64 y.kind,.string y.name,.int .i64 y.expr])) W= .ok (.bool (!zdk x y)) W) (Y: ∀(M:BinOp) (a b:Operand) (x y:Sm) (W:World),Sem.run Tryz.prog (eqGuard M 79 a b (.agg #[.int .i64 x.kind,.string x.name,.int .i64 x.expr]) (.agg #[.int .i64 y.kind,.string y.name,.int .i64 y.expr])) W= .ok () W) (b1 b2 g1 g2:Nat) (Z r2:Rw) (o I:List Sm) (w:World) (E:OwnR w b1 79 3 Z o.length (o.flatMap smL)) (H:OwnR w b2 79 3 r2 I.length (I.flatMap smL)) (e1:Z.a=some ⟨g1,0,none⟩) (e2:r2.a=some ⟨g2,0,none⟩) (hl:o.length=I.length) (hb:o.length≤4294967296):
  Calls Tryz.prog 75 #[.slice (some ⟨g1,0,none⟩) o.length Z.cap,.slice (some ⟨g2,0,none⟩) o.length r2.cap] w fun e w'=>zc9 (o=I) e∧Below w.heap.size w w':=by
 have H1:=zc E
 have H2:=zc H
 have E1:=zc e1
 have E2:=zc e2
 have HL:=zc hl
 clear E H e1 e2 hl
 go_enter Tryz.func75,Tryz.ntmps75
 go_wp2
 go_loopg [13] o.length (fun k i wr=>∃j:Nat,i= .int .i64 j∧j+k=o.length∧o.take j=I.take j∧Below w.heap.size w wr)
 case atStart=>exact⟨0,rfl,by omega,rfl,Below.refl _ _⟩
 case round=>
  obtain⟨j,rfl,hj,ht,hb⟩:=hrel
  have K:=zc hb
  have HT:=zc ht
  clear hb ht
  by_cases O:j<o.length
  ·have L:(j:Int)<(o.length:Int):=by omega
   obtain⟨x,X⟩:=zch O
   obtain⟨y,hy⟩:=zch (show j<I.length by rw[←HL.out];exact O)
   obtain⟨U,ga,E⟩:=OwnR.elem (f:=smL) (m:=3) (fun _=>rfl) (H1.out.keep fun k g=>K.out.block k (H1.out.typed g).2.1) X
   obtain rfl:U=g1:=by have:=ga.symm.trans E1.out;simpa using this
   obtain⟨U,gb,H⟩:=OwnR.elem (f:=smL) (m:=3) (fun _=>rfl) (H2.out.keep fun k g=>K.out.block k (H2.out.typed g).2.1) hy
   obtain rfl:U=g2:=by have:=gb.symm.trans E2.out;simpa using this
   have C0:=zc (E 0 (by omega))
   have D0:=zc (H 0 (by omega))
   have C1:=zc (E 1 (by omega))
   have D1:=zc (H 1 (by omega))
   have C2:=zc (E 2 (by omega))
   have D2:=zc (H 2 (by omega))
   have HX:=zc X
   have HY:=zc hy
   clear E H ga gb X hy
   obtain⟨Q,J⟩: ∃Q,Q=j+1:=⟨_,rfl⟩
   have ej:(j:Int)+1=(Q:Int):=by omega
   have HJ:=zc J
   clear J
   obtain⟨b,z⟩: ∃b,zdk x y=b:=⟨_,rfl⟩
   have ad: ∀W:World,Sem.run Tryz.prog (binOp .neq 79 (.agg #[.int .i64 x.kind,.string x.name,.int .i64 x.expr]) (.agg #[.int .i64 y.kind,.string y.name,.int .i64 y.expr])) W= .ok (.bool !b) W:=fun W=>by rw[aa,z]
   have ac: ∀(M:BinOp) (a b:Operand) (W:World),Sem.run Tryz.prog (eqGuard M 79 a b (.agg #[.int .i64 x.kind,.string x.name,.int .i64 x.expr]) (.agg #[.int .i64 y.kind,.string y.name,.int .i64 y.expr])) W= .ok () W:=fun M a b W=>Y M a b x y W
   go_wp2
   have k0:=cell_regrown C0.out
   have m0:=cell_regrown D0.out
   have k1:=cell_regrown C1.out
   have m1:=cell_regrown D1.out
   have k2:=cell_regrown C2.out
   have m2:=cell_regrown D2.out
   simp only[Nat.add_zero] at k0 m0
   refine wp_region_quiet_below (by kernel_rfl) (by kernel_rfl) ?_
   repeat (go_big_quiet_step (fail))
   refine wpQuiet_nil ?_
   intro w2 ab
   obtain⟨⟨dq,V⟩,D⟩:=ab
   have N:Hid (Below w.heap.size w w2):=by show Below _ _ _;rw[D];exact K.out.trans ((below_regrown wr dq V).mono K.out.size)
   clear D k0 m0 C0 D0 k1 m1 C1 D1 k2 m2 C2 D2
   cases b with
   |true=>
    go_wp2
    go_roundg (gk-1)
    case rel=>exact⟨Q,rfl,by have:=HJ.out;omega,by rw[HJ.out];have e:=zi7.1 z;exact zfY HT.out HX.out (by rw[e];exact HY.out),N.out⟩
    case measure=>omega
   |false=>
    go_wp2
    go_ret
    exact⟨⟨false,rfl,⟨fun k=>(by cases k),fun k=>(by have e:=HX.out;rw[k,HY.out] at e;cases e;rw[zi7.2 rfl] at z;cases z)⟩⟩,N.out⟩
  ·have L: ¬(j:Int)<(o.length:Int):=by omega
   obtain rfl:j=o.length:=by omega
   go_wp2
   go_ret
   exact⟨⟨true,rfl,⟨fun _=>zfZ HL.out HT.out,fun _=>rfl⟩⟩,K.out⟩
theorem zrn (K: ∀(x y:Sm) (W:World),Sem.run Tryz.prog (binOp .neq 79 (.agg #[.int .i64 x.kind,.string x.name,.int .i64 x.expr]) (.agg #[.int .i64 y.kind,.string y.name,.int .i64 y.expr])) W= .ok (.bool (!zdk x y)) W) (J: ∀(X:BinOp) (a b:Operand) (x y:Sm) (W:World),Sem.run Tryz.prog (eqGuard X 79 a b (.agg #[.int .i64 x.kind,.string x.name,.int .i64 x.expr]) (.agg #[.int .i64 y.kind,.string y.name,.int .i64 y.expr])) W= .ok () W) (O b2:Nat) (E H:Rw) (j o:List Sm) (w:World) (M:OwnR w O 79 3 E j.length (j.flatMap smL)) (Q:OwnR w b2 79 3 H o.length (o.flatMap smL)) (Z:j.length≤4294967296):
  Calls Tryz.prog 75 #[.slice E.a j.length E.cap,.slice H.a o.length H.cap] w fun e I=>zc9 (j=o) e∧Below w.heap.size w I:=by
 by_cases D:j.length=o.length
 ·rw[←D]
  by_cases z:j.length=0
  ·rw[z]
   refine (zrl _ _ _ _ w).mono ?_
   rintro e I ⟨rfl,L⟩
   exact⟨⟨true,rfl,⟨fun _=>(by rw[List.eq_nil_of_length_eq_zero z,List.eq_nil_of_length_eq_zero (D.symm.trans z)]),fun _=>rfl⟩⟩,L⟩
  ·rcases M.nil_or with ⟨_,_,e⟩|⟨Y,N⟩
   ·exact absurd e z
   ·rcases Q.nil_or with ⟨_,_,e⟩|⟨V,U⟩
    ·exact absurd (D.trans e) z
    ·rw[N,U]
     exact zrm K J O b2 Y V E H j o w M Q N U D Z
 ·refine (zrk _ _ _ _ _ _ w (by omega)).mono ?_
  rintro e I ⟨rfl,L⟩
  exact⟨⟨false,rfl,⟨fun k=>(by cases k),fun k=>absurd (by rw[k]) D⟩⟩,L⟩
def zdl (x y:Ex):Bool:=x.kind==y.kind&&x.num==y.num&&x.name.toList==y.name.toList&&x.field.toList==y.field.toList&&x.l==y.l&&x.r==y.r
theorem zi8 {x y:Ex}:zdl x y=true↔x=y:=by
 constructor
 ·intro h
  unfold zdl at h
  simp only[Bool.and_eq_true] at h
  obtain⟨⟨⟨⟨⟨z,E⟩,H⟩,o⟩,j⟩,D⟩:=h
  cases x
  cases y
  simp only at z E H o j D
  congr 1<;>first|(apply zga;assumption)|(apply eq_of_beq;assumption)
 ·intro h
  rw[h]
  simp[zdl]
theorem zro (H I:Option Addr) (o j E D:Nat) (w:World) (h:(o:Int)≠(j:Int)):Calls Tryz.prog 76 #[.slice H o E,.slice I j D] w fun e z=>e= .returned (.bool false)∧Below w.heap.size w z:=by
 go_enter Tryz.func76,Tryz.ntmps76
 go_wp2
 go_ret
 exact⟨rfl,Below.refl _ _⟩
theorem zrp (D E:Option Addr) (o z:Nat) (w:World):Calls Tryz.prog 76 #[.slice D 0 o,.slice E 0 z] w fun e j=>e= .returned (.bool true)∧Below w.heap.size w j:=by
 go_enter Tryz.func76,Tryz.ntmps76
 go_wp2
 go_loopg [13] 1 (fun k i wr=>k=1∧i= .int .i64 0∧wr=w)
 case atStart=>exact⟨rfl,rfl,rfl⟩
 case round=>
  obtain⟨rfl,rfl,rfl⟩:=hrel
  go_wp2
  go_ret
  exact⟨rfl,Below.refl _ _⟩
theorem zrq (aa: ∀(x y:Ex) (W:World),Sem.run Tryz.prog (binOp .neq 81 (.agg #[.int .i64 x.kind,.int .i64 x.num,.string x.name,.string x.field,.int .i64 x.l,.int .i64 x.r]) (.agg #[.int .i64 y.kind,.int .i64 y.num,.string y.name,.string y.field,.int .i64 y.l,.int .i64 y.r])) W= .ok (.bool (!zdl x y)) W) (Y: ∀(M:BinOp) (a b:Operand) (x y:Ex) (W:World),Sem.run Tryz.prog (eqGuard M 81 a b (.agg #[.int .i64 x.kind,.int .i64 x.num,.string x.name,.string x.field,.int .i64 x.l,.int .i64 x.r]) (.agg #[.int .i64 y.kind,.int .i64 y.num,.string y.name,.string y.field,.int .i64 y.l,.int .i64 y.r])) W= .ok () W) (b1 b2 g1 g2:Nat) (Z r2:Rw) (o I:List Ex) (w:World) (z:OwnR w b1 81 6 Z o.length (o.flatMap exL)) (D:OwnR w b2 81 6 r2 I.length (I.flatMap exL)) (e1:Z.a=some ⟨g1,0,none⟩) (e2:r2.a=some ⟨g2,0,none⟩) (hl:o.length=I.length) (hb:o.length≤4294967296):
  Calls Tryz.prog 76 #[.slice (some ⟨g1,0,none⟩) o.length Z.cap,.slice (some ⟨g2,0,none⟩) o.length r2.cap] w fun e w'=>zc9 (o=I) e∧Below w.heap.size w w':=by
 have H1:=zc z
 have H2:=zc D
 have E1:=zc e1
 have E2:=zc e2
 have HL:=zc hl
 clear z D e1 e2 hl
 go_enter Tryz.func76,Tryz.ntmps76
 go_wp2
 go_loopg [13] o.length (fun k i wr=>∃j:Nat,i= .int .i64 j∧j+k=o.length∧o.take j=I.take j∧Below w.heap.size w wr)
 case atStart=>exact⟨0,rfl,by omega,rfl,Below.refl _ _⟩
 case round=>
  obtain⟨j,rfl,hj,ht,hb⟩:=hrel
  have K:=zc hb
  have HT:=zc ht
  clear hb ht
  by_cases O:j<o.length
  ·have L:(j:Int)<(o.length:Int):=by omega
   obtain⟨x,X⟩:=zch O
   obtain⟨y,hy⟩:=zch (show j<I.length by rw[←HL.out];exact O)
   obtain⟨U,ga,z⟩:=OwnR.elem (f:=exL) (m:=6) (fun _=>rfl) (H1.out.keep fun k g=>K.out.block k (H1.out.typed g).2.1) X
   obtain rfl:U=g1:=by have:=ga.symm.trans E1.out;simpa using this
   obtain⟨U,gb,D⟩:=OwnR.elem (f:=exL) (m:=6) (fun _=>rfl) (H2.out.keep fun k g=>K.out.block k (H2.out.typed g).2.1) hy
   obtain rfl:U=g2:=by have:=gb.symm.trans E2.out;simpa using this
   have C0:=zc (z 0 (by omega))
   have D0:=zc (D 0 (by omega))
   have C1:=zc (z 1 (by omega))
   have D1:=zc (D 1 (by omega))
   have C2:=zc (z 2 (by omega))
   have D2:=zc (D 2 (by omega))
   have C3:=zc (z 3 (by omega))
   have D3:=zc (D 3 (by omega))
   have C4:=zc (z 4 (by omega))
   have D4:=zc (D 4 (by omega))
   have C5:=zc (z 5 (by omega))
   have D5:=zc (D 5 (by omega))
   have HX:=zc X
   have HY:=zc hy
   clear z D ga gb X hy
   obtain⟨Q,J⟩: ∃Q,Q=j+1:=⟨_,rfl⟩
   have ej:(j:Int)+1=(Q:Int):=by omega
   have HJ:=zc J
   clear J
   obtain⟨b,E⟩: ∃b,zdl x y=b:=⟨_,rfl⟩
   have ad: ∀W:World,Sem.run Tryz.prog (binOp .neq 81 (.agg #[.int .i64 x.kind,.int .i64 x.num,.string x.name,.string x.field,.int .i64 x.l,.int .i64 x.r]) (.agg #[.int .i64 y.kind,.int .i64 y.num,.string y.name,.string y.field,.int .i64 y.l,.int .i64 y.r])) W= .ok (.bool !b) W:=fun W=>by rw[aa,E]
   have ac: ∀(M:BinOp) (a b:Operand) (W:World),Sem.run Tryz.prog (eqGuard M 81 a b (.agg #[.int .i64 x.kind,.int .i64 x.num,.string x.name,.string x.field,.int .i64 x.l,.int .i64 x.r]) (.agg #[.int .i64 y.kind,.int .i64 y.num,.string y.name,.string y.field,.int .i64 y.l,.int .i64 y.r])) W= .ok () W:=fun M a b W=>Y M a b x y W
   go_wp2
   have k0:=cell_regrown C0.out
   have m0:=cell_regrown D0.out
   have k1:=cell_regrown C1.out
   have m1:=cell_regrown D1.out
   have k2:=cell_regrown C2.out
   have m2:=cell_regrown D2.out
   have k3:=cell_regrown C3.out
   have m3:=cell_regrown D3.out
   have k4:=cell_regrown C4.out
   have m4:=cell_regrown D4.out
   have k5:=cell_regrown C5.out
   have m5:=cell_regrown D5.out
   simp only[Nat.add_zero] at k0 m0
   refine wp_region_quiet_below (by kernel_rfl) (by kernel_rfl) ?_
   repeat (go_big_quiet_step (fail))
   refine wpQuiet_nil ?_
   intro w2 ab
   obtain⟨⟨dq,V⟩,H⟩:=ab
   have N:Hid (Below w.heap.size w w2):=by show Below _ _ _;rw[H];exact K.out.trans ((below_regrown wr dq V).mono K.out.size)
   clear H k0 m0 C0 D0 k1 m1 C1 D1 k2 m2 C2 D2 k3 m3 C3 D3 k4 m4 C4 D4 k5 m5 C5 D5
   cases b with
   |true=>
    go_wp2
    go_roundg (gk-1)
    case rel=>exact⟨Q,rfl,by have:=HJ.out;omega,by rw[HJ.out];have e:=zi8.1 E;exact zfY HT.out HX.out (by rw[e];exact HY.out),N.out⟩
    case measure=>omega
   |false=>
    go_wp2
    go_ret
    exact⟨⟨false,rfl,⟨fun k=>(by cases k),fun k=>(by have e:=HX.out;rw[k,HY.out] at e;cases e;rw[zi8.2 rfl] at E;cases E)⟩⟩,N.out⟩
  ·have L: ¬(j:Int)<(o.length:Int):=by omega
   obtain rfl:j=o.length:=by omega
   go_wp2
   go_ret
   exact⟨⟨true,rfl,⟨fun _=>zfZ HL.out HT.out,fun _=>rfl⟩⟩,K.out⟩
theorem zrr (K: ∀(x y:Ex) (W:World),Sem.run Tryz.prog (binOp .neq 81 (.agg #[.int .i64 x.kind,.int .i64 x.num,.string x.name,.string x.field,.int .i64 x.l,.int .i64 x.r]) (.agg #[.int .i64 y.kind,.int .i64 y.num,.string y.name,.string y.field,.int .i64 y.l,.int .i64 y.r])) W= .ok (.bool (!zdl x y)) W) (J: ∀(X:BinOp) (a b:Operand) (x y:Ex) (W:World),Sem.run Tryz.prog (eqGuard X 81 a b (.agg #[.int .i64 x.kind,.int .i64 x.num,.string x.name,.string x.field,.int .i64 x.l,.int .i64 x.r]) (.agg #[.int .i64 y.kind,.int .i64 y.num,.string y.name,.string y.field,.int .i64 y.l,.int .i64 y.r])) W= .ok () W) (O b2:Nat) (E H:Rw) (j o:List Ex) (w:World) (M:OwnR w O 81 6 E j.length (j.flatMap exL)) (Q:OwnR w b2 81 6 H o.length (o.flatMap exL)) (Z:j.length≤4294967296):
  Calls Tryz.prog 76 #[.slice E.a j.length E.cap,.slice H.a o.length H.cap] w fun e I=>zc9 (j=o) e∧Below w.heap.size w I:=by
 by_cases D:j.length=o.length
 ·rw[←D]
  by_cases z:j.length=0
  ·rw[z]
   refine (zrp _ _ _ _ w).mono ?_
   rintro e I ⟨rfl,L⟩
   exact⟨⟨true,rfl,⟨fun _=>(by rw[List.eq_nil_of_length_eq_zero z,List.eq_nil_of_length_eq_zero (D.symm.trans z)]),fun _=>rfl⟩⟩,L⟩
  ·rcases M.nil_or with ⟨_,_,e⟩|⟨Y,N⟩
   ·exact absurd e z
   ·rcases Q.nil_or with ⟨_,_,e⟩|⟨V,U⟩
    ·exact absurd (D.trans e) z
    ·rw[N,U]
     exact zrq K J O b2 Y V E H j o w M Q N U D Z
 ·refine (zro _ _ _ _ _ _ w (by omega)).mono ?_
  rintro e I ⟨rfl,L⟩
  exact⟨⟨false,rfl,⟨fun k=>(by cases k),fun k=>absurd (by rw[k]) D⟩⟩,L⟩
end Go.Proofs.YthfeoomfiafldaaGreat