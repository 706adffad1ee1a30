/-
 What slices.Equal answers of rows of the call's own,the model's != handed in: the walks.
-/
import Derived.Test.YtlnohpdiiileeaaGreatClImplParseJToMdMem
import Derived.WalkLawsBesides
import Derived.Lib.QuietBelow
import Derived.BigQuiet
namespace Go.Proofs.YtlnohpdiiileeaaGreat
set_option maxRecDepth 100000
set_option maxHeartbeats 6400000
open Go.RowKit Go.PlainAid Go.Sort
/-- A bool that tells whether P. -/
def zgy (P:Prop) (e:Ending):Prop:=∃b,e= .returned (.bool b)∧(b=true↔P)
theorem zes {α:Type} {l:List α} {j:Nat} (h:j<l.length): ∃x,l[j]? =some x:=⟨_,List.getElem?_eq_getElem h⟩
theorem zmm {α:Type} {l1 l2:List α} {j:Nat} {x:α} (h:l1.take j=l2.take j) (h1:l1[j]? =some x) (h2:l2[j]? =some x):l1.take (j+1)=l2.take (j+1):=by
 obtain⟨a,rfl⟩:=List.getElem?_eq_some_iff.1 h1
 obtain⟨b,hb⟩:=List.getElem?_eq_some_iff.1 h2
 rw[List.take_succ_eq_append_getElem a,List.take_succ_eq_append_getElem b,h,hb]
theorem zns {α:Type} {l1 l2:List α} (hl:l1.length=l2.length) (h:l1.take l1.length=l2.take l1.length):l1=l2:=by
 rw[List.take_length,hl,List.take_length] at h
 exact h
theorem znt {a b:ByteArray} (h:(a.toList==b.toList)=true):a=b:=(zgx a b).1 h
def zbrx (x y:ByteArray):Bool:=x.toList==y.toList
theorem zym {x y:ByteArray}:zbrx x y=true↔x=y:=⟨fun h=>znt h,fun h=>by rw[h];exact beq_self_eq_true _⟩
theorem zbcl (a1 a2:Option Addr) (n1 n2 c1 c2:Nat) (w:World) (h:(n1:Int)≠(n2:Int)):Calls Tryz.prog 172 #[.slice a1 n1 c1,.slice a2 n2 c2] w fun e w'=>e= .returned (.bool false)∧Below w.heap.size w w':=by
 go_enter Tryz.func172,Tryz.ntmps172
 go_wp2
 go_ret
 exact⟨rfl,Below.refl _ _⟩
theorem zzm (a1 a2:Option Addr) (c1 c2:Nat) (w:World):Calls Tryz.prog 172 #[.slice a1 0 c1,.slice a2 0 c2] w fun e w'=>e= .returned (.bool true)∧Below w.heap.size w w':=by
 go_enter Tryz.func172,Tryz.ntmps172
 go_wp2
 go_loopg [13] 1 (fun k i wr=>k=1∧i= .int .i64 0∧wr=w)
 case atStart=>exact⟨rfl,rfl,rfl⟩
 case round=>
  obtain⟨rfl,rfl,rfl⟩:=hrel
  go_wp2
  go_ret
  exact⟨rfl,Below.refl _ _⟩
theorem zbcm (b1 b2 g1 g2:Nat) (r1 r2:Rw) (l1 l2:List ByteArray) (w:World) (h1:OwnR w b1 9 1 r1 l1.length (l1.flatMap (fun x=>[Value.string x]))) (h2:OwnR w b2 9 1 r2 l2.length (l2.flatMap (fun x=>[Value.string x]))) (e1:r1.a=some ⟨g1,0,none⟩) (e2:r2.a=some ⟨g2,0,none⟩) (hl:l1.length=l2.length) (hb:l1.length≤4294967296):
  Calls Tryz.prog 172 #[.slice (some ⟨g1,0,none⟩) l1.length r1.cap,.slice (some ⟨g2,0,none⟩) l1.length r2.cap] w fun e w'=>zgy (l1=l2) e∧Below w.heap.size w w':=by
 have H1:=hidI h1
 have H2:=hidI h2
 have E1:=hidI e1
 have E2:=hidI e2
 have HL:=hidI hl
 clear h1 h2 e1 e2 hl
 go_enter Tryz.func172,Tryz.ntmps172
 go_wp2
 go_loopg [13] l1.length (fun k i wr=>∃j:Nat,i= .int .i64 j∧j+k=l1.length∧l1.take j=l2.take j∧Below w.heap.size w wr)
 case atStart=>exact⟨0,rfl,by omega,rfl,Below.refl _ _⟩
 case round=>
  obtain⟨j,rfl,hj,ht,hb⟩:=hrel
  have HB:=hidI hb
  have HT:=hidI ht
  clear hb ht
  by_cases hlt:j<l1.length
  ·have hlti:(j:Int)<(l1.length:Int):=by omega
   obtain⟨x,hx⟩:=zes hlt
   obtain⟨y,hy⟩:=zes (show j<l2.length by rw[←HL.out];exact hlt)
   obtain⟨g',ga,h1⟩:=OwnR.elem (f:=(fun x=>[Value.string x])) (m:=1) (fun _=>rfl) (H1.out.keep fun k g=>HB.out.block k (H1.out.typed g).2.1) hx
   obtain rfl:g'=g1:=by have:=ga.symm.trans E1.out;simpa using this
   obtain⟨g',gb,h2⟩:=OwnR.elem (f:=(fun x=>[Value.string x])) (m:=1) (fun _=>rfl) (H2.out.keep fun k g=>HB.out.block k (H2.out.typed g).2.1) hy
   obtain rfl:g'=g2:=by have:=gb.symm.trans E2.out;simpa using this
   have C0:=hidI (h1 0 (by omega))
   have D0:=hidI (h2 0 (by omega))
   have HX:=hidI hx
   have HY:=hidI hy
   clear h1 h2 ga gb hx hy
   obtain⟨j1,hj1⟩: ∃j1,j1=j+1:=⟨_,rfl⟩
   have ej:(j:Int)+1=(j1:Int):=by omega
   have HJ:=hidI hj1
   clear hj1
   obtain⟨b,hxy⟩: ∃b,zbrx x y=b:=⟨_,rfl⟩
   have hxz:(x.toList==y.toList)=b:=hxy
   go_wp2
   have k0:=cell_regrown C0.out
   have m0:=cell_regrown D0.out
   simp only[Nat.add_zero,Nat.mul_one] at k0 m0
   refine wp_region_quiet_below (by kernel_rfl) (by kernel_rfl) ?_
   repeat (go_big_quiet_step (fail))
   refine wpQuiet_nil ?_
   intro w2 hw'
   obtain⟨⟨dq,osq⟩,hw''⟩:=hw'
   have HB2:Hid (Below w.heap.size w w2):=by show Below _ _ _;rw[hw''];exact HB.out.trans ((below_regrown wr dq osq).mono HB.out.size)
   clear hw'' k0 m0 C0 D0
   cases b with
   |true=>
    go_wp2
    go_roundg (gk-1)
    case rel=>exact⟨j1,rfl,by have:=HJ.out;omega,by rw[HJ.out];have e:=zym.1 hxy;exact zmm HT.out HX.out (by rw[e];exact HY.out),HB2.out⟩
    case measure=>omega
   |false=>
    go_wp2
    go_ret
    exact⟨⟨false,rfl,⟨fun k=>(by cases k),fun k=>(by have e:=HX.out;rw[k,HY.out] at e;cases e;rw[zym.2 rfl] at hxy;cases hxy)⟩⟩,HB2.out⟩
  ·have hlti: ¬(j:Int)<(l1.length:Int):=by omega
   obtain rfl:j=l1.length:=by omega
   go_wp2
   go_ret
   exact⟨⟨true,rfl,⟨fun _=>zns HL.out HT.out,fun _=>rfl⟩⟩,HB.out⟩
theorem zbcn (b1 b2:Nat) (r1 r2:Rw) (l1 l2:List ByteArray) (w:World) (h1:OwnR w b1 9 1 r1 l1.length (l1.flatMap (fun x=>[Value.string x]))) (h2:OwnR w b2 9 1 r2 l2.length (l2.flatMap (fun x=>[Value.string x]))) (hb:l1.length≤4294967296):
  Calls Tryz.prog 172 #[.slice r1.a l1.length r1.cap,.slice r2.a l2.length r2.cap] w fun e w'=>zgy (l1=l2) e∧Below w.heap.size w w':=by
 by_cases hl:l1.length=l2.length
 ·rw[←hl]
  by_cases h0:l1.length=0
  ·rw[h0]
   refine (zzm _ _ _ _ w).mono ?_
   rintro e w' ⟨rfl,hw⟩
   exact⟨⟨true,rfl,⟨fun _=>(by rw[List.eq_nil_of_length_eq_zero h0,List.eq_nil_of_length_eq_zero (hl.symm.trans h0)]),fun _=>rfl⟩⟩,hw⟩
  ·rcases h1.nil_or with ⟨_,_,e⟩|⟨g1,e1⟩
   ·exact absurd e h0
   ·rcases h2.nil_or with ⟨_,_,e⟩|⟨g2,e2⟩
    ·exact absurd (hl.trans e) h0
    ·rw[e1,e2]
     exact zbcm b1 b2 g1 g2 r1 r2 l1 l2 w h1 h2 e1 e2 hl hb
 ·refine (zbcl _ _ _ _ _ _ w (by omega)).mono ?_
  rintro e w' ⟨rfl,hw⟩
  exact⟨⟨false,rfl,⟨fun k=>(by cases k),fun k=>absurd (by rw[k]) hl⟩⟩,hw⟩
def eqIm (x y:Im):Bool:=x.spec.toList==y.spec.toList&&x.first.toList==y.first.toList&&x.loc.toList==y.loc.toList
theorem zup {x y:Im}:eqIm x y=true↔x=y:=by
 constructor
 ·intro h
  unfold eqIm at h
  simp only[Bool.and_eq_true] at h
  obtain⟨⟨h0,h1⟩,h2⟩:=h
  cases x
  cases y
  simp only at h0 h1 h2
  congr 1<;>first|(apply znt;assumption)|(apply eq_of_beq;assumption)
 ·intro h
  rw[h]
  simp[eqIm]
theorem zbfb (a1 a2:Option Addr) (n1 n2 c1 c2:Nat) (w:World) (h:(n1:Int)≠(n2:Int)):Calls Tryz.prog 173 #[.slice a1 n1 c1,.slice a2 n2 c2] w fun e w'=>e= .returned (.bool false)∧Below w.heap.size w w':=by
 go_enter Tryz.func173,Tryz.ntmps173
 go_wp2
 go_ret
 exact⟨rfl,Below.refl _ _⟩
theorem zbco (a1 a2:Option Addr) (c1 c2:Nat) (w:World):Calls Tryz.prog 173 #[.slice a1 0 c1,.slice a2 0 c2] w fun e w'=>e= .returned (.bool true)∧Below w.heap.size w w':=by
 go_enter Tryz.func173,Tryz.ntmps173
 go_wp2
 go_loopg [13] 1 (fun k i wr=>k=1∧i= .int .i64 0∧wr=w)
 case atStart=>exact⟨rfl,rfl,rfl⟩
 case round=>
  obtain⟨rfl,rfl,rfl⟩:=hrel
  go_wp2
  go_ret
  exact⟨rfl,Below.refl _ _⟩
theorem zbfc (hne: ∀(x y:Im) (W:World),Sem.run Tryz.prog (binOp .neq 141 (.agg #[.string x.spec,.string x.first,.string x.loc]) (.agg #[.string y.spec,.string y.first,.string y.loc])) W= .ok (.bool (!eqIm x y)) W) (hgd: ∀(op:BinOp) (a b:Operand) (x y:Im) (W:World),Sem.run Tryz.prog (eqGuard op 141 a b (.agg #[.string x.spec,.string x.first,.string x.loc]) (.agg #[.string y.spec,.string y.first,.string y.loc])) W= .ok () W) (b1 b2 g1 g2:Nat) (r1 r2:Rw) (l1 l2:List Im) (w:World) (h1:OwnR w b1 141 3 r1 l1.length (l1.flatMap imL)) (h2:OwnR w b2 141 3 r2 l2.length (l2.flatMap imL)) (e1:r1.a=some ⟨g1,0,none⟩) (e2:r2.a=some ⟨g2,0,none⟩) (hl:l1.length=l2.length) (hb:l1.length≤4294967296):
  Calls Tryz.prog 173 #[.slice (some ⟨g1,0,none⟩) l1.length r1.cap,.slice (some ⟨g2,0,none⟩) l1.length r2.cap] w fun e w'=>zgy (l1=l2) e∧Below w.heap.size w w':=by
 have H1:=hidI h1
 have H2:=hidI h2
 have E1:=hidI e1
 have E2:=hidI e2
 have HL:=hidI hl
 clear h1 h2 e1 e2 hl
 go_enter Tryz.func173,Tryz.ntmps173
 go_wp2
 go_loopg [13] l1.length (fun k i wr=>∃j:Nat,i= .int .i64 j∧j+k=l1.length∧l1.take j=l2.take j∧Below w.heap.size w wr)
 case atStart=>exact⟨0,rfl,by omega,rfl,Below.refl _ _⟩
 case round=>
  obtain⟨j,rfl,hj,ht,hb⟩:=hrel
  have HB:=hidI hb
  have HT:=hidI ht
  clear hb ht
  by_cases hlt:j<l1.length
  ·have hlti:(j:Int)<(l1.length:Int):=by omega
   obtain⟨x,hx⟩:=zes hlt
   obtain⟨y,hy⟩:=zes (show j<l2.length by rw[←HL.out];exact hlt)
   obtain⟨g',ga,h1⟩:=OwnR.elem (f:=imL) (m:=3) (fun _=>rfl) (H1.out.keep fun k g=>HB.out.block k (H1.out.typed g).2.1) hx
   obtain rfl:g'=g1:=by have:=ga.symm.trans E1.out;simpa using this
   obtain⟨g',gb,h2⟩:=OwnR.elem (f:=imL) (m:=3) (fun _=>rfl) (H2.out.keep fun k g=>HB.out.block k (H2.out.typed g).2.1) hy
   obtain rfl:g'=g2:=by have:=gb.symm.trans E2.out;simpa using this
   have C0:=hidI (h1 0 (by omega))
   have D0:=hidI (h2 0 (by omega))
   have C1:=hidI (h1 1 (by omega))
   have D1:=hidI (h2 1 (by omega))
   have C2:=hidI (h1 2 (by omega))
   have D2:=hidI (h2 2 (by omega))
   have HX:=hidI hx
   have HY:=hidI hy
   clear h1 h2 ga gb hx hy
   obtain⟨j1,hj1⟩: ∃j1,j1=j+1:=⟨_,rfl⟩
   have ej:(j:Int)+1=(j1:Int):=by omega
   have HJ:=hidI hj1
   clear hj1
   obtain⟨b,hxy⟩: ∃b,eqIm x y=b:=⟨_,rfl⟩
   have hn1: ∀W:World,Sem.run Tryz.prog (binOp .neq 141 (.agg #[.string x.spec,.string x.first,.string x.loc]) (.agg #[.string y.spec,.string y.first,.string y.loc])) W= .ok (.bool !b) W:=fun W=>by rw[hne,hxy]
   have hg1: ∀(op:BinOp) (a b:Operand) (W:World),Sem.run Tryz.prog (eqGuard op 141 a b (.agg #[.string x.spec,.string x.first,.string x.loc]) (.agg #[.string y.spec,.string y.first,.string y.loc])) W= .ok () W:=fun op a b W=>hgd op a b x y W
   go_wp2
   have k0:=cell_regrown C0.out
   have m0:=cell_regrown D0.out
   have k1:=cell_regrown C1.out
   have m1:=cell_regrown D1.out
   have k2:=cell_regrown C2.out
   have m2:=cell_regrown D2.out
   simp only[Nat.add_zero] at k0 m0
   refine wp_region_quiet_below (by kernel_rfl) (by kernel_rfl) ?_
   repeat (go_big_quiet_step (fail))
   refine wpQuiet_nil ?_
   intro w2 hw'
   obtain⟨⟨dq,osq⟩,hw''⟩:=hw'
   have HB2:Hid (Below w.heap.size w w2):=by show Below _ _ _;rw[hw''];exact HB.out.trans ((below_regrown wr dq osq).mono HB.out.size)
   clear hw'' k0 m0 C0 D0 k1 m1 C1 D1 k2 m2 C2 D2
   cases b with
   |true=>
    go_wp2
    go_roundg (gk-1)
    case rel=>exact⟨j1,rfl,by have:=HJ.out;omega,by rw[HJ.out];have e:=zup.1 hxy;exact zmm HT.out HX.out (by rw[e];exact HY.out),HB2.out⟩
    case measure=>omega
   |false=>
    go_wp2
    go_ret
    exact⟨⟨false,rfl,⟨fun k=>(by cases k),fun k=>(by have e:=HX.out;rw[k,HY.out] at e;cases e;rw[zup.2 rfl] at hxy;cases hxy)⟩⟩,HB2.out⟩
  ·have hlti: ¬(j:Int)<(l1.length:Int):=by omega
   obtain rfl:j=l1.length:=by omega
   go_wp2
   go_ret
   exact⟨⟨true,rfl,⟨fun _=>zns HL.out HT.out,fun _=>rfl⟩⟩,HB.out⟩
theorem zbfd (hne: ∀(x y:Im) (W:World),Sem.run Tryz.prog (binOp .neq 141 (.agg #[.string x.spec,.string x.first,.string x.loc]) (.agg #[.string y.spec,.string y.first,.string y.loc])) W= .ok (.bool (!eqIm x y)) W) (hgd: ∀(op:BinOp) (a b:Operand) (x y:Im) (W:World),Sem.run Tryz.prog (eqGuard op 141 a b (.agg #[.string x.spec,.string x.first,.string x.loc]) (.agg #[.string y.spec,.string y.first,.string y.loc])) W= .ok () W) (b1 b2:Nat) (r1 r2:Rw) (l1 l2:List Im) (w:World) (h1:OwnR w b1 141 3 r1 l1.length (l1.flatMap imL)) (h2:OwnR w b2 141 3 r2 l2.length (l2.flatMap imL)) (hb:l1.length≤4294967296):
  Calls Tryz.prog 173 #[.slice r1.a l1.length r1.cap,.slice r2.a l2.length r2.cap] w fun e w'=>zgy (l1=l2) e∧Below w.heap.size w w':=by
 by_cases hl:l1.length=l2.length
 ·rw[←hl]
  by_cases h0:l1.length=0
  ·rw[h0]
   refine (zbco _ _ _ _ w).mono ?_
   rintro e w' ⟨rfl,hw⟩
   exact⟨⟨true,rfl,⟨fun _=>(by rw[List.eq_nil_of_length_eq_zero h0,List.eq_nil_of_length_eq_zero (hl.symm.trans h0)]),fun _=>rfl⟩⟩,hw⟩
  ·rcases h1.nil_or with ⟨_,_,e⟩|⟨g1,e1⟩
   ·exact absurd e h0
   ·rcases h2.nil_or with ⟨_,_,e⟩|⟨g2,e2⟩
    ·exact absurd (hl.trans e) h0
    ·rw[e1,e2]
     exact zbfc hne hgd b1 b2 g1 g2 r1 r2 l1 l2 w h1 h2 e1 e2 hl hb
 ·refine (zbfb _ _ _ _ _ _ w (by omega)).mono ?_
  rintro e w' ⟨rfl,hw⟩
  exact⟨⟨false,rfl,⟨fun k=>(by cases k),fun k=>absurd (by rw[k]) hl⟩⟩,hw⟩
def eqEp (x y:Ep):Bool:=x.kind==y.kind&&x.name.toList==y.name.toList&&x.loc.toList==y.loc.toList&&x.spec.toList==y.spec.toList
theorem zuq {x y:Ep}:eqEp x y=true↔x=y:=by
 constructor
 ·intro h
  unfold eqEp at h
  simp only[Bool.and_eq_true] at h
  obtain⟨⟨⟨h0,h1⟩,h2⟩,h3⟩:=h
  cases x
  cases y
  simp only at h0 h1 h2 h3
  congr 1<;>first|(apply znt;assumption)|(apply eq_of_beq;assumption)
 ·intro h
  rw[h]
  simp[eqEp]
theorem zbfe (a1 a2:Option Addr) (n1 n2 c1 c2:Nat) (w:World) (h:(n1:Int)≠(n2:Int)):Calls Tryz.prog 174 #[.slice a1 n1 c1,.slice a2 n2 c2] w fun e w'=>e= .returned (.bool false)∧Below w.heap.size w w':=by
 go_enter Tryz.func174,Tryz.ntmps174
 go_wp2
 go_ret
 exact⟨rfl,Below.refl _ _⟩
theorem zbcp (a1 a2:Option Addr) (c1 c2:Nat) (w:World):Calls Tryz.prog 174 #[.slice a1 0 c1,.slice a2 0 c2] w fun e w'=>e= .returned (.bool true)∧Below w.heap.size w w':=by
 go_enter Tryz.func174,Tryz.ntmps174
 go_wp2
 go_loopg [13] 1 (fun k i wr=>k=1∧i= .int .i64 0∧wr=w)
 case atStart=>exact⟨rfl,rfl,rfl⟩
 case round=>
  obtain⟨rfl,rfl,rfl⟩:=hrel
  go_wp2
  go_ret
  exact⟨rfl,Below.refl _ _⟩
theorem zbff (hne: ∀(x y:Ep) (W:World),Sem.run Tryz.prog (binOp .neq 143 (.agg #[.int .i64 x.kind,.string x.name,.string x.loc,.string x.spec]) (.agg #[.int .i64 y.kind,.string y.name,.string y.loc,.string y.spec])) W= .ok (.bool (!eqEp x y)) W) (hgd: ∀(op:BinOp) (a b:Operand) (x y:Ep) (W:World),Sem.run Tryz.prog (eqGuard op 143 a b (.agg #[.int .i64 x.kind,.string x.name,.string x.loc,.string x.spec]) (.agg #[.int .i64 y.kind,.string y.name,.string y.loc,.string y.spec])) W= .ok () W) (b1 b2 g1 g2:Nat) (r1 r2:Rw) (l1 l2:List Ep) (w:World) (h1:OwnR w b1 143 4 r1 l1.length (l1.flatMap epL)) (h2:OwnR w b2 143 4 r2 l2.length (l2.flatMap epL)) (e1:r1.a=some ⟨g1,0,none⟩) (e2:r2.a=some ⟨g2,0,none⟩) (hl:l1.length=l2.length) (hb:l1.length≤4294967296):
  Calls Tryz.prog 174 #[.slice (some ⟨g1,0,none⟩) l1.length r1.cap,.slice (some ⟨g2,0,none⟩) l1.length r2.cap] w fun e w'=>zgy (l1=l2) e∧Below w.heap.size w w':=by
 have H1:=hidI h1
 have H2:=hidI h2
 have E1:=hidI e1
 have E2:=hidI e2
 have HL:=hidI hl
 clear h1 h2 e1 e2 hl
 go_enter Tryz.func174,Tryz.ntmps174
 go_wp2
 go_loopg [13] l1.length (fun k i wr=>∃j:Nat,i= .int .i64 j∧j+k=l1.length∧l1.take j=l2.take j∧Below w.heap.size w wr)
 case atStart=>exact⟨0,rfl,by omega,rfl,Below.refl _ _⟩
 case round=>
  obtain⟨j,rfl,hj,ht,hb⟩:=hrel
  have HB:=hidI hb
  have HT:=hidI ht
  clear hb ht
  by_cases hlt:j<l1.length
  ·have hlti:(j:Int)<(l1.length:Int):=by omega
   obtain⟨x,hx⟩:=zes hlt
   obtain⟨y,hy⟩:=zes (show j<l2.length by rw[←HL.out];exact hlt)
   obtain⟨g',ga,h1⟩:=OwnR.elem (f:=epL) (m:=4) (fun _=>rfl) (H1.out.keep fun k g=>HB.out.block k (H1.out.typed g).2.1) hx
   obtain rfl:g'=g1:=by have:=ga.symm.trans E1.out;simpa using this
   obtain⟨g',gb,h2⟩:=OwnR.elem (f:=epL) (m:=4) (fun _=>rfl) (H2.out.keep fun k g=>HB.out.block k (H2.out.typed g).2.1) hy
   obtain rfl:g'=g2:=by have:=gb.symm.trans E2.out;simpa using this
   have C0:=hidI (h1 0 (by omega))
   have D0:=hidI (h2 0 (by omega))
   have C1:=hidI (h1 1 (by omega))
   have D1:=hidI (h2 1 (by omega))
   have C2:=hidI (h1 2 (by omega))
   have D2:=hidI (h2 2 (by omega))
   have C3:=hidI (h1 3 (by omega))
   have D3:=hidI (h2 3 (by omega))
   have HX:=hidI hx
   have HY:=hidI hy
   clear h1 h2 ga gb hx hy
   obtain⟨j1,hj1⟩: ∃j1,j1=j+1:=⟨_,rfl⟩
   have ej:(j:Int)+1=(j1:Int):=by omega
   have HJ:=hidI hj1
   clear hj1
   obtain⟨b,hxy⟩: ∃b,eqEp x y=b:=⟨_,rfl⟩
   have hn1: ∀W:World,Sem.run Tryz.prog (binOp .neq 143 (.agg #[.int .i64 x.kind,.string x.name,.string x.loc,.string x.spec]) (.agg #[.int .i64 y.kind,.string y.name,.string y.loc,.string y.spec])) W= .ok (.bool !b) W:=fun W=>by rw[hne,hxy]
   have hg1: ∀(op:BinOp) (a b:Operand) (W:World),Sem.run Tryz.prog (eqGuard op 143 a b (.agg #[.int .i64 x.kind,.string x.name,.string x.loc,.string x.spec]) (.agg #[.int .i64 y.kind,.string y.name,.string y.loc,.string y.spec])) W= .ok () W:=fun op a b W=>hgd op a b x y W
   go_wp2
   have k0:=cell_regrown C0.out
   have m0:=cell_regrown D0.out
   have k1:=cell_regrown C1.out
   have m1:=cell_regrown D1.out
   have k2:=cell_regrown C2.out
   have m2:=cell_regrown D2.out
   have k3:=cell_regrown C3.out
   have m3:=cell_regrown D3.out
   simp only[Nat.add_zero] at k0 m0
   refine wp_region_quiet_below (by kernel_rfl) (by kernel_rfl) ?_
   repeat (go_big_quiet_step (fail))
   refine wpQuiet_nil ?_
   intro w2 hw'
   obtain⟨⟨dq,osq⟩,hw''⟩:=hw'
   have HB2:Hid (Below w.heap.size w w2):=by show Below _ _ _;rw[hw''];exact HB.out.trans ((below_regrown wr dq osq).mono HB.out.size)
   clear hw'' k0 m0 C0 D0 k1 m1 C1 D1 k2 m2 C2 D2 k3 m3 C3 D3
   cases b with
   |true=>
    go_wp2
    go_roundg (gk-1)
    case rel=>exact⟨j1,rfl,by have:=HJ.out;omega,by rw[HJ.out];have e:=zuq.1 hxy;exact zmm HT.out HX.out (by rw[e];exact HY.out),HB2.out⟩
    case measure=>omega
   |false=>
    go_wp2
    go_ret
    exact⟨⟨false,rfl,⟨fun k=>(by cases k),fun k=>(by have e:=HX.out;rw[k,HY.out] at e;cases e;rw[zuq.2 rfl] at hxy;cases hxy)⟩⟩,HB2.out⟩
  ·have hlti: ¬(j:Int)<(l1.length:Int):=by omega
   obtain rfl:j=l1.length:=by omega
   go_wp2
   go_ret
   exact⟨⟨true,rfl,⟨fun _=>zns HL.out HT.out,fun _=>rfl⟩⟩,HB.out⟩
theorem zbfg (hne: ∀(x y:Ep) (W:World),Sem.run Tryz.prog (binOp .neq 143 (.agg #[.int .i64 x.kind,.string x.name,.string x.loc,.string x.spec]) (.agg #[.int .i64 y.kind,.string y.name,.string y.loc,.string y.spec])) W= .ok (.bool (!eqEp x y)) W) (hgd: ∀(op:BinOp) (a b:Operand) (x y:Ep) (W:World),Sem.run Tryz.prog (eqGuard op 143 a b (.agg #[.int .i64 x.kind,.string x.name,.string x.loc,.string x.spec]) (.agg #[.int .i64 y.kind,.string y.name,.string y.loc,.string y.spec])) W= .ok () W) (b1 b2:Nat) (r1 r2:Rw) (l1 l2:List Ep) (w:World) (h1:OwnR w b1 143 4 r1 l1.length (l1.flatMap epL)) (h2:OwnR w b2 143 4 r2 l2.length (l2.flatMap epL)) (hb:l1.length≤4294967296):
  Calls Tryz.prog 174 #[.slice r1.a l1.length r1.cap,.slice r2.a l2.length r2.cap] w fun e w'=>zgy (l1=l2) e∧Below w.heap.size w w':=by
 by_cases hl:l1.length=l2.length
 ·rw[←hl]
  by_cases h0:l1.length=0
  ·rw[h0]
   refine (zbcp _ _ _ _ w).mono ?_
   rintro e w' ⟨rfl,hw⟩
   exact⟨⟨true,rfl,⟨fun _=>(by rw[List.eq_nil_of_length_eq_zero h0,List.eq_nil_of_length_eq_zero (hl.symm.trans h0)]),fun _=>rfl⟩⟩,hw⟩
  ·rcases h1.nil_or with ⟨_,_,e⟩|⟨g1,e1⟩
   ·exact absurd e h0
   ·rcases h2.nil_or with ⟨_,_,e⟩|⟨g2,e2⟩
    ·exact absurd (hl.trans e) h0
    ·rw[e1,e2]
     exact zbff hne hgd b1 b2 g1 g2 r1 r2 l1 l2 w h1 h2 e1 e2 hl hb
 ·refine (zbfe _ _ _ _ _ _ w (by omega)).mono ?_
  rintro e w' ⟨rfl,hw⟩
  exact⟨⟨false,rfl,⟨fun k=>(by cases k),fun k=>absurd (by rw[k]) hl⟩⟩,hw⟩
def eqSm (x y:Sm):Bool:=x.kind==y.kind&&x.name.toList==y.name.toList&&x.expr==y.expr
theorem zur {x y:Sm}:eqSm x y=true↔x=y:=by
 constructor
 ·intro h
  unfold eqSm at h
  simp only[Bool.and_eq_true] at h
  obtain⟨⟨h0,h1⟩,h2⟩:=h
  cases x
  cases y
  simp only at h0 h1 h2
  congr 1<;>first|(apply znt;assumption)|(apply eq_of_beq;assumption)
 ·intro h
  rw[h]
  simp[eqSm]
theorem zbfh (a1 a2:Option Addr) (n1 n2 c1 c2:Nat) (w:World) (h:(n1:Int)≠(n2:Int)):Calls Tryz.prog 175 #[.slice a1 n1 c1,.slice a2 n2 c2] w fun e w'=>e= .returned (.bool false)∧Below w.heap.size w w':=by
 go_enter Tryz.func175,Tryz.ntmps175
 go_wp2
 go_ret
 exact⟨rfl,Below.refl _ _⟩
theorem zbcq (a1 a2:Option Addr) (c1 c2:Nat) (w:World):Calls Tryz.prog 175 #[.slice a1 0 c1,.slice a2 0 c2] w fun e w'=>e= .returned (.bool true)∧Below w.heap.size w w':=by
 go_enter Tryz.func175,Tryz.ntmps175
 go_wp2
 go_loopg [13] 1 (fun k i wr=>k=1∧i= .int .i64 0∧wr=w)
 case atStart=>exact⟨rfl,rfl,rfl⟩
 case round=>
  obtain⟨rfl,rfl,rfl⟩:=hrel
  go_wp2
  go_ret
  exact⟨rfl,Below.refl _ _⟩
theorem zbfi (hne: ∀(x y:Sm) (W:World),Sem.run Tryz.prog (binOp .neq 61 (.agg #[.int .i64 x.kind,.string x.name,.int .i64 x.expr]) (.agg #[.int .i64 y.kind,.string y.name,.int .i64 y.expr])) W= .ok (.bool (!eqSm x y)) W) (hgd: ∀(op:BinOp) (a b:Operand) (x y:Sm) (W:World),Sem.run Tryz.prog (eqGuard op 61 a b (.agg #[.int .i64 x.kind,.string x.name,.int .i64 x.expr]) (.agg #[.int .i64 y.kind,.string y.name,.int .i64 y.expr])) W= .ok () W) (b1 b2 g1 g2:Nat) (r1 r2:Rw) (l1 l2:List Sm) (w:World) (h1:OwnR w b1 61 3 r1 l1.length (l1.flatMap smL)) (h2:OwnR w b2 61 3 r2 l2.length (l2.flatMap smL)) (e1:r1.a=some ⟨g1,0,none⟩) (e2:r2.a=some ⟨g2,0,none⟩) (hl:l1.length=l2.length) (hb:l1.length≤4294967296):
  Calls Tryz.prog 175 #[.slice (some ⟨g1,0,none⟩) l1.length r1.cap,.slice (some ⟨g2,0,none⟩) l1.length r2.cap] w fun e w'=>zgy (l1=l2) e∧Below w.heap.size w w':=by
 have H1:=hidI h1
 have H2:=hidI h2
 have E1:=hidI e1
 have E2:=hidI e2
 have HL:=hidI hl
 clear h1 h2 e1 e2 hl
 go_enter Tryz.func175,Tryz.ntmps175
 go_wp2
 go_loopg [13] l1.length (fun k i wr=>∃j:Nat,i= .int .i64 j∧j+k=l1.length∧l1.take j=l2.take j∧Below w.heap.size w wr)
 case atStart=>exact⟨0,rfl,by omega,rfl,Below.refl _ _⟩
 case round=>
  obtain⟨j,rfl,hj,ht,hb⟩:=hrel
  have HB:=hidI hb
  have HT:=hidI ht
  clear hb ht
  by_cases hlt:j<l1.length
  ·have hlti:(j:Int)<(l1.length:Int):=by omega
   obtain⟨x,hx⟩:=zes hlt
   obtain⟨y,hy⟩:=zes (show j<l2.length by rw[←HL.out];exact hlt)
   obtain⟨g',ga,h1⟩:=OwnR.elem (f:=smL) (m:=3) (fun _=>rfl) (H1.out.keep fun k g=>HB.out.block k (H1.out.typed g).2.1) hx
   obtain rfl:g'=g1:=by have:=ga.symm.trans E1.out;simpa using this
   obtain⟨g',gb,h2⟩:=OwnR.elem (f:=smL) (m:=3) (fun _=>rfl) (H2.out.keep fun k g=>HB.out.block k (H2.out.typed g).2.1) hy
   obtain rfl:g'=g2:=by have:=gb.symm.trans E2.out;simpa using this
   have C0:=hidI (h1 0 (by omega))
   have D0:=hidI (h2 0 (by omega))
   have C1:=hidI (h1 1 (by omega))
   have D1:=hidI (h2 1 (by omega))
   have C2:=hidI (h1 2 (by omega))
   have D2:=hidI (h2 2 (by omega))
   have HX:=hidI hx
   have HY:=hidI hy
   clear h1 h2 ga gb hx hy
   obtain⟨j1,hj1⟩: ∃j1,j1=j+1:=⟨_,rfl⟩
   have ej:(j:Int)+1=(j1:Int):=by omega
   have HJ:=hidI hj1
   clear hj1
   obtain⟨b,hxy⟩: ∃b,eqSm x y=b:=⟨_,rfl⟩
   have hn1: ∀W:World,Sem.run Tryz.prog (binOp .neq 61 (.agg #[.int .i64 x.kind,.string x.name,.int .i64 x.expr]) (.agg #[.int .i64 y.kind,.string y.name,.int .i64 y.expr])) W= .ok (.bool !b) W:=fun W=>by rw[hne,hxy]
   have hg1: ∀(op:BinOp) (a b:Operand) (W:World),Sem.run Tryz.prog (eqGuard op 61 a b (.agg #[.int .i64 x.kind,.string x.name,.int .i64 x.expr]) (.agg #[.int .i64 y.kind,.string y.name,.int .i64 y.expr])) W= .ok () W:=fun op a b W=>hgd op a b x y W
   go_wp2
   have k0:=cell_regrown C0.out
   have m0:=cell_regrown D0.out
   have k1:=cell_regrown C1.out
   have m1:=cell_regrown D1.out
   have k2:=cell_regrown C2.out
   have m2:=cell_regrown D2.out
   simp only[Nat.add_zero] at k0 m0
   refine wp_region_quiet_below (by kernel_rfl) (by kernel_rfl) ?_
   repeat (go_big_quiet_step (fail))
   refine wpQuiet_nil ?_
   intro w2 hw'
   obtain⟨⟨dq,osq⟩,hw''⟩:=hw'
   have HB2:Hid (Below w.heap.size w w2):=by show Below _ _ _;rw[hw''];exact HB.out.trans ((below_regrown wr dq osq).mono HB.out.size)
   clear hw'' k0 m0 C0 D0 k1 m1 C1 D1 k2 m2 C2 D2
   cases b with
   |true=>
    go_wp2
    go_roundg (gk-1)
    case rel=>exact⟨j1,rfl,by have:=HJ.out;omega,by rw[HJ.out];have e:=zur.1 hxy;exact zmm HT.out HX.out (by rw[e];exact HY.out),HB2.out⟩
    case measure=>omega
   |false=>
    go_wp2
    go_ret
    exact⟨⟨false,rfl,⟨fun k=>(by cases k),fun k=>(by have e:=HX.out;rw[k,HY.out] at e;cases e;rw[zur.2 rfl] at hxy;cases hxy)⟩⟩,HB2.out⟩
  ·have hlti: ¬(j:Int)<(l1.length:Int):=by omega
   obtain rfl:j=l1.length:=by omega
   go_wp2
   go_ret
   exact⟨⟨true,rfl,⟨fun _=>zns HL.out HT.out,fun _=>rfl⟩⟩,HB.out⟩
theorem zbfj (hne: ∀(x y:Sm) (W:World),Sem.run Tryz.prog (binOp .neq 61 (.agg #[.int .i64 x.kind,.string x.name,.int .i64 x.expr]) (.agg #[.int .i64 y.kind,.string y.name,.int .i64 y.expr])) W= .ok (.bool (!eqSm x y)) W) (hgd: ∀(op:BinOp) (a b:Operand) (x y:Sm) (W:World),Sem.run Tryz.prog (eqGuard op 61 a b (.agg #[.int .i64 x.kind,.string x.name,.int .i64 x.expr]) (.agg #[.int .i64 y.kind,.string y.name,.int .i64 y.expr])) W= .ok () W) (b1 b2:Nat) (r1 r2:Rw) (l1 l2:List Sm) (w:World) (h1:OwnR w b1 61 3 r1 l1.length (l1.flatMap smL)) (h2:OwnR w b2 61 3 r2 l2.length (l2.flatMap smL)) (hb:l1.length≤4294967296):
  Calls Tryz.prog 175 #[.slice r1.a l1.length r1.cap,.slice r2.a l2.length r2.cap] w fun e w'=>zgy (l1=l2) e∧Below w.heap.size w w':=by
 by_cases hl:l1.length=l2.length
 ·rw[←hl]
  by_cases h0:l1.length=0
  ·rw[h0]
   refine (zbcq _ _ _ _ w).mono ?_
   rintro e w' ⟨rfl,hw⟩
   exact⟨⟨true,rfl,⟨fun _=>(by rw[List.eq_nil_of_length_eq_zero h0,List.eq_nil_of_length_eq_zero (hl.symm.trans h0)]),fun _=>rfl⟩⟩,hw⟩
  ·rcases h1.nil_or with ⟨_,_,e⟩|⟨g1,e1⟩
   ·exact absurd e h0
   ·rcases h2.nil_or with ⟨_,_,e⟩|⟨g2,e2⟩
    ·exact absurd (hl.trans e) h0
    ·rw[e1,e2]
     exact zbfi hne hgd b1 b2 g1 g2 r1 r2 l1 l2 w h1 h2 e1 e2 hl hb
 ·refine (zbfh _ _ _ _ _ _ w (by omega)).mono ?_
  rintro e w' ⟨rfl,hw⟩
  exact⟨⟨false,rfl,⟨fun k=>(by cases k),fun k=>absurd (by rw[k]) hl⟩⟩,hw⟩
def eqEx (x y:Ex):Bool:=x.kind==y.kind&&x.num==y.num&&x.name.toList==y.name.toList&&x.field.toList==y.field.toList&&x.l==y.l&&x.r==y.r
theorem zus {x y:Ex}:eqEx x y=true↔x=y:=by
 constructor
 ·intro h
  unfold eqEx at h
  simp only[Bool.and_eq_true] at h
  obtain⟨⟨⟨⟨⟨h0,h1⟩,h2⟩,h3⟩,h4⟩,h5⟩:=h
  cases x
  cases y
  simp only at h0 h1 h2 h3 h4 h5
  congr 1<;>first|(apply znt;assumption)|(apply eq_of_beq;assumption)
 ·intro h
  rw[h]
  simp[eqEx]
theorem zbfk (a1 a2:Option Addr) (n1 n2 c1 c2:Nat) (w:World) (h:(n1:Int)≠(n2:Int)):Calls Tryz.prog 176 #[.slice a1 n1 c1,.slice a2 n2 c2] w fun e w'=>e= .returned (.bool false)∧Below w.heap.size w w':=by
 go_enter Tryz.func176,Tryz.ntmps176
 go_wp2
 go_ret
 exact⟨rfl,Below.refl _ _⟩
theorem zbcr (a1 a2:Option Addr) (c1 c2:Nat) (w:World):Calls Tryz.prog 176 #[.slice a1 0 c1,.slice a2 0 c2] w fun e w'=>e= .returned (.bool true)∧Below w.heap.size w w':=by
 go_enter Tryz.func176,Tryz.ntmps176
 go_wp2
 go_loopg [13] 1 (fun k i wr=>k=1∧i= .int .i64 0∧wr=w)
 case atStart=>exact⟨rfl,rfl,rfl⟩
 case round=>
  obtain⟨rfl,rfl,rfl⟩:=hrel
  go_wp2
  go_ret
  exact⟨rfl,Below.refl _ _⟩
theorem zbfl (hne: ∀(x y:Ex) (W:World),Sem.run Tryz.prog (binOp .neq 145 (.agg #[.int .i64 x.kind,.int .i64 x.num,.string x.name,.string x.field,.int .i64 x.l,.int .i64 x.r]) (.agg #[.int .i64 y.kind,.int .i64 y.num,.string y.name,.string y.field,.int .i64 y.l,.int .i64 y.r])) W= .ok (.bool (!eqEx x y)) W) (hgd: ∀(op:BinOp) (a b:Operand) (x y:Ex) (W:World),Sem.run Tryz.prog (eqGuard op 145 a b (.agg #[.int .i64 x.kind,.int .i64 x.num,.string x.name,.string x.field,.int .i64 x.l,.int .i64 x.r]) (.agg #[.int .i64 y.kind,.int .i64 y.num,.string y.name,.string y.field,.int .i64 y.l,.int .i64 y.r])) W= .ok () W) (b1 b2 g1 g2:Nat) (r1 r2:Rw) (l1 l2:List Ex) (w:World) (h1:OwnR w b1 145 6 r1 l1.length (l1.flatMap exL)) (h2:OwnR w b2 145 6 r2 l2.length (l2.flatMap exL)) (e1:r1.a=some ⟨g1,0,none⟩) (e2:r2.a=some ⟨g2,0,none⟩) (hl:l1.length=l2.length) (hb:l1.length≤4294967296):
  Calls Tryz.prog 176 #[.slice (some ⟨g1,0,none⟩) l1.length r1.cap,.slice (some ⟨g2,0,none⟩) l1.length r2.cap] w fun e w'=>zgy (l1=l2) e∧Below w.heap.size w w':=by
 have H1:=hidI h1
 have H2:=hidI h2
 have E1:=hidI e1
 have E2:=hidI e2
 have HL:=hidI hl
 clear h1 h2 e1 e2 hl
 go_enter Tryz.func176,Tryz.ntmps176
 go_wp2
 go_loopg [13] l1.length (fun k i wr=>∃j:Nat,i= .int .i64 j∧j+k=l1.length∧l1.take j=l2.take j∧Below w.heap.size w wr)
 case atStart=>exact⟨0,rfl,by omega,rfl,Below.refl _ _⟩
 case round=>
  obtain⟨j,rfl,hj,ht,hb⟩:=hrel
  have HB:=hidI hb
  have HT:=hidI ht
  clear hb ht
  by_cases hlt:j<l1.length
  ·have hlti:(j:Int)<(l1.length:Int):=by omega
   obtain⟨x,hx⟩:=zes hlt
   obtain⟨y,hy⟩:=zes (show j<l2.length by rw[←HL.out];exact hlt)
   obtain⟨g',ga,h1⟩:=OwnR.elem (f:=exL) (m:=6) (fun _=>rfl) (H1.out.keep fun k g=>HB.out.block k (H1.out.typed g).2.1) hx
   obtain rfl:g'=g1:=by have:=ga.symm.trans E1.out;simpa using this
   obtain⟨g',gb,h2⟩:=OwnR.elem (f:=exL) (m:=6) (fun _=>rfl) (H2.out.keep fun k g=>HB.out.block k (H2.out.typed g).2.1) hy
   obtain rfl:g'=g2:=by have:=gb.symm.trans E2.out;simpa using this
   have C0:=hidI (h1 0 (by omega))
   have D0:=hidI (h2 0 (by omega))
   have C1:=hidI (h1 1 (by omega))
   have D1:=hidI (h2 1 (by omega))
   have C2:=hidI (h1 2 (by omega))
   have D2:=hidI (h2 2 (by omega))
   have C3:=hidI (h1 3 (by omega))
   have D3:=hidI (h2 3 (by omega))
   have C4:=hidI (h1 4 (by omega))
   have D4:=hidI (h2 4 (by omega))
   have C5:=hidI (h1 5 (by omega))
   have D5:=hidI (h2 5 (by omega))
   have HX:=hidI hx
   have HY:=hidI hy
   clear h1 h2 ga gb hx hy
   obtain⟨j1,hj1⟩: ∃j1,j1=j+1:=⟨_,rfl⟩
   have ej:(j:Int)+1=(j1:Int):=by omega
   have HJ:=hidI hj1
   clear hj1
   obtain⟨b,hxy⟩: ∃b,eqEx x y=b:=⟨_,rfl⟩
   have hn1: ∀W:World,Sem.run Tryz.prog (binOp .neq 145 (.agg #[.int .i64 x.kind,.int .i64 x.num,.string x.name,.string x.field,.int .i64 x.l,.int .i64 x.r]) (.agg #[.int .i64 y.kind,.int .i64 y.num,.string y.name,.string y.field,.int .i64 y.l,.int .i64 y.r])) W= .ok (.bool !b) W:=fun W=>by rw[hne,hxy]
   have hg1: ∀(op:BinOp) (a b:Operand) (W:World),Sem.run Tryz.prog (eqGuard op 145 a b (.agg #[.int .i64 x.kind,.int .i64 x.num,.string x.name,.string x.field,.int .i64 x.l,.int .i64 x.r]) (.agg #[.int .i64 y.kind,.int .i64 y.num,.string y.name,.string y.field,.int .i64 y.l,.int .i64 y.r])) W= .ok () W:=fun op a b W=>hgd op a b x y W
   go_wp2
   have k0:=cell_regrown C0.out
   have m0:=cell_regrown D0.out
   have k1:=cell_regrown C1.out
   have m1:=cell_regrown D1.out
   have k2:=cell_regrown C2.out
   have m2:=cell_regrown D2.out
   have k3:=cell_regrown C3.out
   have m3:=cell_regrown D3.out
   have k4:=cell_regrown C4.out
   have m4:=cell_regrown D4.out
   have k5:=cell_regrown C5.out
   have m5:=cell_regrown D5.out
   simp only[Nat.add_zero] at k0 m0
   refine wp_region_quiet_below (by kernel_rfl) (by kernel_rfl) ?_
   repeat (go_big_quiet_step (fail))
   refine wpQuiet_nil ?_
   intro w2 hw'
   obtain⟨⟨dq,osq⟩,hw''⟩:=hw'
   have HB2:Hid (Below w.heap.size w w2):=by show Below _ _ _;rw[hw''];exact HB.out.trans ((below_regrown wr dq osq).mono HB.out.size)
   clear hw'' k0 m0 C0 D0 k1 m1 C1 D1 k2 m2 C2 D2 k3 m3 C3 D3 k4 m4 C4 D4 k5 m5 C5 D5
   cases b with
   |true=>
    go_wp2
    go_roundg (gk-1)
    case rel=>exact⟨j1,rfl,by have:=HJ.out;omega,by rw[HJ.out];have e:=zus.1 hxy;exact zmm HT.out HX.out (by rw[e];exact HY.out),HB2.out⟩
    case measure=>omega
   |false=>
    go_wp2
    go_ret
    exact⟨⟨false,rfl,⟨fun k=>(by cases k),fun k=>(by have e:=HX.out;rw[k,HY.out] at e;cases e;rw[zus.2 rfl] at hxy;cases hxy)⟩⟩,HB2.out⟩
  ·have hlti: ¬(j:Int)<(l1.length:Int):=by omega
   obtain rfl:j=l1.length:=by omega
   go_wp2
   go_ret
   exact⟨⟨true,rfl,⟨fun _=>zns HL.out HT.out,fun _=>rfl⟩⟩,HB.out⟩
theorem zbfm (hne: ∀(x y:Ex) (W:World),Sem.run Tryz.prog (binOp .neq 145 (.agg #[.int .i64 x.kind,.int .i64 x.num,.string x.name,.string x.field,.int .i64 x.l,.int .i64 x.r]) (.agg #[.int .i64 y.kind,.int .i64 y.num,.string y.name,.string y.field,.int .i64 y.l,.int .i64 y.r])) W= .ok (.bool (!eqEx x y)) W) (hgd: ∀(op:BinOp) (a b:Operand) (x y:Ex) (W:World),Sem.run Tryz.prog (eqGuard op 145 a b (.agg #[.int .i64 x.kind,.int .i64 x.num,.string x.name,.string x.field,.int .i64 x.l,.int .i64 x.r]) (.agg #[.int .i64 y.kind,.int .i64 y.num,.string y.name,.string y.field,.int .i64 y.l,.int .i64 y.r])) W= .ok () W) (b1 b2:Nat) (r1 r2:Rw) (l1 l2:List Ex) (w:World) (h1:OwnR w b1 145 6 r1 l1.length (l1.flatMap exL)) (h2:OwnR w b2 145 6 r2 l2.length (l2.flatMap exL)) (hb:l1.length≤4294967296):
  Calls Tryz.prog 176 #[.slice r1.a l1.length r1.cap,.slice r2.a l2.length r2.cap] w fun e w'=>zgy (l1=l2) e∧Below w.heap.size w w':=by
 by_cases hl:l1.length=l2.length
 ·rw[←hl]
  by_cases h0:l1.length=0
  ·rw[h0]
   refine (zbcr _ _ _ _ w).mono ?_
   rintro e w' ⟨rfl,hw⟩
   exact⟨⟨true,rfl,⟨fun _=>(by rw[List.eq_nil_of_length_eq_zero h0,List.eq_nil_of_length_eq_zero (hl.symm.trans h0)]),fun _=>rfl⟩⟩,hw⟩
  ·rcases h1.nil_or with ⟨_,_,e⟩|⟨g1,e1⟩
   ·exact absurd e h0
   ·rcases h2.nil_or with ⟨_,_,e⟩|⟨g2,e2⟩
    ·exact absurd (hl.trans e) h0
    ·rw[e1,e2]
     exact zbfl hne hgd b1 b2 g1 g2 r1 r2 l1 l2 w h1 h2 e1 e2 hl hb
 ·refine (zbfk _ _ _ _ _ _ w (by omega)).mono ?_
  rintro e w' ⟨rfl,hw⟩
  exact⟨⟨false,rfl,⟨fun k=>(by cases k),fun k=>absurd (by rw[k]) hl⟩⟩,hw⟩
end Go.Proofs.YtlnohpdiiileeaaGreat