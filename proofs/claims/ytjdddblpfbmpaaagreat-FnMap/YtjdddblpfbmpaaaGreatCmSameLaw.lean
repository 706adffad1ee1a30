/-
 What the laws' sameTexts and sameMod answer of a program that lies twice,the model's != handed in: the walks.
-/
import Derived.Test.YtjdddblpfbmpaaaGreatCmTwoModToVarMath
namespace Go.Proofs.YtjdddblpfbmpaaaGreat
set_option maxRecDepth 100000
set_option maxHeartbeats 12800000
open Go.RowKit Go.PlainAid Go.Sort
theorem zrm (q z:Option Addr) (A j:Nat) (w:World):Calls Tryz.prog 73 #[.slice q 0 A,.slice z 0 j] w fun e w'=>e= .returned (.bool true)∧Below w.heap.size w w':=by
 go_enter Tryz.func73,Tryz.ntmps73
 go_wp2
 go_loopg [5] 1 (fun k i wr=>k=1∧i= .int .i64 0∧wr=w)
 case atStart=>exact⟨rfl,rfl,rfl⟩
 case round=>
  obtain⟨rfl,rfl,rfl⟩:=hrel
  go_wp2
  go_ret
  exact⟨rfl,Below.refl _ _⟩
theorem zrn (b1 b2 Y V:Nat) (O r2:Rw) (l:List ByteArray) (w:World) (I:OwnR w b1 9 1 O l.length (l.flatMap (fun x=>[Value.string x]))) (z:OwnR w b2 9 1 r2 l.length (l.flatMap (fun x=>[Value.string x]))) (e1:O.a=some ⟨Y,0,none⟩) (e2:r2.a=some ⟨V,0,none⟩) (hl:l.length≤4294967296):
  Calls Tryz.prog 73 #[.slice (some ⟨Y,0,none⟩) l.length O.cap,.slice (some ⟨V,0,none⟩) l.length r2.cap] w fun e w'=>e= .returned (.bool true)∧Below w.heap.size w w':=by
 have H1:=zc I
 have H2:=zc z
 have E1:=zc e1
 have E2:=zc e2
 clear I z e1 e2
 go_enter Tryz.func73,Tryz.ntmps73
 go_wp2
 go_loopg [5] l.length (fun k i wr=>∃j:Nat,i= .int .i64 j∧j+k=l.length∧Below w.heap.size w wr)
 case atStart=>exact⟨0,rfl,by omega,Below.refl _ _⟩
 case round=>
  obtain⟨j,rfl,hj,hb⟩:=hrel
  have H:=zc hb
  clear hb
  by_cases N:j<l.length
  ·have J:(j:Int)<(l.length:Int):=by omega
   obtain⟨x,hx⟩:=zaS N
   obtain⟨X,ga,I⟩:=OwnR.elem (f:=(fun x=>[Value.string x])) (m:=1) (fun _=>rfl) (H1.out.keep fun k g=>H.out.block k (H1.out.typed g).2.1) hx
   obtain rfl:X=Y:=by have:=ga.symm.trans E1.out;simpa using this
   obtain⟨X,gb,z⟩:=OwnR.elem (f:=(fun x=>[Value.string x])) (m:=1) (fun _=>rfl) (H2.out.keep fun k g=>H.out.block k (H2.out.typed g).2.1) hx
   obtain rfl:X=V:=by have:=gb.symm.trans E2.out;simpa using this
   have C0:=zc (I 0 (by omega))
   have D0:=zc (z 0 (by omega))
   clear I z ga gb hx
   obtain⟨L,A⟩: ∃L,L=j+1:=⟨_,rfl⟩
   have ej:(j:Int)+1=(L:Int):=by omega
   have HJ:=zc A
   clear A
   go_wp2
   have k0:=cell_regrown C0.out
   have l0:=cell_regrown D0.out
   simp only[Nat.add_zero,Nat.mul_one] at k0 l0
   refine wp_region_quiet_below (by kernel_rfl) (by kernel_rfl) ?_
   repeat (go_big_quiet_step (fail))
   refine wpQuiet_nil ?_
   intro w2 M
   obtain⟨⟨dq,U⟩,q⟩:=M
   have Z:Hid (Below w.heap.size w w2):=by show Below _ _ _;rw[q];exact H.out.trans ((below_regrown wr dq U).mono H.out.size)
   clear q k0 l0 C0 D0
   go_wp2
   go_roundg (gk-1)
   case rel=>exact⟨L,rfl,by have:=HJ.out;omega,Z.out⟩
   case measure=>omega
  ·have J: ¬(j:Int)<(l.length:Int):=by omega
   go_wp2
   go_ret
   exact⟨rfl,H.out⟩
theorem zro (A b2:Nat) (q j:Rw) (l:List ByteArray) (w:World) (J:OwnR w A 9 1 q l.length (l.flatMap (fun x=>[Value.string x]))) (I:OwnR w b2 9 1 j l.length (l.flatMap (fun x=>[Value.string x]))) (O:l.length≤4294967296):
  Calls Tryz.prog 73 #[.slice q.a l.length q.cap,.slice j.a l.length j.cap] w fun e w'=>e= .returned (.bool true)∧Below w.heap.size w w':=by
 by_cases z:l.length=0
 ·rw[z]
  exact zrm _ _ _ _ w
 ·rcases J.nil_or with ⟨_,_,e⟩|⟨N,H⟩
  ·exact absurd e z
  ·rcases I.nil_or with ⟨_,_,e⟩|⟨M,L⟩
   ·exact absurd e z
   ·rw[H,L]
    exact zrn A b2 N M q j l w J I H L O
theorem zrp (ae: ∀(x y:Im) (W:World),Sem.run Tryz.prog (binOp .neq 84 (.agg #[.string x.spec,.string x.first,.string x.loc]) (.agg #[.string y.spec,.string y.first,.string y.loc])) W= .ok (.bool (!zcD x y)) W) (al: ∀(M:BinOp) (a b:Operand) (x y:Im) (W:World),Sem.run Tryz.prog (eqGuard M 84 a b (.agg #[.string x.spec,.string x.first,.string x.loc]) (.agg #[.string y.spec,.string y.first,.string y.loc])) W= .ok () W) (aj: ∀(x y:Ep) (W:World),Sem.run Tryz.prog (binOp .neq 86 (.agg #[.int .i64 x.kind,.string x.name,.string x.loc,.string x.spec]) (.agg #[.int .i64 y.kind,.string y.name,.string y.loc,.string y.spec])) W= .ok (.bool (!zcE x y)) W) (ah: ∀(M:BinOp) (a b:Operand) (x y:Ep) (W:World),Sem.run Tryz.prog (eqGuard M 86 a b (.agg #[.int .i64 x.kind,.string x.name,.string x.loc,.string x.spec]) (.agg #[.int .i64 y.kind,.string y.name,.string y.loc,.string y.spec])) W= .ok () W) (ak: ∀(x y:Sm) (W:World),Sem.run Tryz.prog (binOp .neq 107 (.agg #[.int .i64 x.kind,.string x.name,.int .i64 x.expr]) (.agg #[.int .i64 y.kind,.string y.name,.int .i64 y.expr])) W= .ok (.bool (!zcF x y)) W) (ag: ∀(M:BinOp) (a b:Operand) (x y:Sm) (W:World),Sem.run Tryz.prog (eqGuard M 107 a b (.agg #[.int .i64 x.kind,.string x.name,.int .i64 x.expr]) (.agg #[.int .i64 y.kind,.string y.name,.int .i64 y.expr])) W= .ok () W) (ai: ∀(x y:Ex) (W:World),Sem.run Tryz.prog (binOp .neq 109 (.agg #[.int .i64 x.kind,.int .i64 x.num,.string x.name,.string x.field,.int .i64 x.l,.int .i64 x.r]) (.agg #[.int .i64 y.kind,.int .i64 y.num,.string y.name,.string y.field,.int .i64 y.l,.int .i64 y.r])) W= .ok (.bool (!zcG x y)) W) (af: ∀(M:BinOp) (a b:Operand) (x y:Ex) (W:World),Sem.run Tryz.prog (eqGuard M 109 a b (.agg #[.int .i64 x.kind,.int .i64 x.num,.string x.name,.string x.field,.int .i64 x.l,.int .i64 x.r]) (.agg #[.int .i64 y.kind,.int .i64 y.num,.string y.name,.string y.field,.int .i64 y.l,.int .i64 y.r])) W= .ok () W) (b1 b2:Nat) (S1 S2:Sv) (m:Md) (w:World) (H:OwnMd w b1 S1 m) (A:OwnMd w b2 S2 m) (hf:zee m):
  Calls Tryz.prog 25 #[zp S1 m,zp S2 m] w fun e w'=>e= .returned (.bool true)∧Below w.heap.size w w':=by
 have H1:=zc H
 have H2:=zc A
 obtain⟨f1,f2,f3,f4,f5⟩:=hf
 clear H A
 unfold zp
 go_enter Tryz.func25,Tryz.ntmps25
 go_upto_region 1 with fail
 refine zac (R:=TwoM w b1 b2 S1 S2 m m) (zh9 w b1 b2 S1 S2 m m H1.out H2.out) ?_
 clear H1 H2
 intro w0 h
 have T0:=zc h
 clear h
 obtain⟨c0,Y,U,Z,c4,cf⟩:=zg T0.out.1
 obtain⟨d0,X,O,V,d4,df⟩:=zg T0.out.2.1
 go_wp2_with fail
 refine (zro b1 b2 S1.rq S2.rq m.rq w0 (by rw[←zeD];exact T0.out.2.2.1.rq) (by rw[←zeD];exact T0.out.2.2.2.1.rq) f1).mono ?_
 rintro e w1 ⟨rfl,hb⟩
 have T:=zc (T0.out.later hb)
 clear hb c0 Y U Z c4 cf d0 X O V d4 df T0
 obtain⟨c0,Y,U,Z,c4,cf⟩:=zg T.out.1
 obtain⟨d0,X,O,V,d4,df⟩:=zg T.out.2.1
 go_wp2
 go_loopg [5] m.im.length (fun k i wr=>∃j:Nat,i= .int .i64 j∧j+k=m.im.length∧TwoM w b1 b2 S1 S2 m m wr)
 case atStart=>exact⟨0,rfl,by omega,T.out⟩
 case round=>
  obtain⟨j,rfl,hj,hT⟩:=hrel
  clear T c0 Y U Z c4 cf d0 X O V d4 df
  have T:=zc hT
  clear hT
  obtain⟨c0,Y,U,Z,c4,cf⟩:=zg T.out.1
  obtain⟨d0,X,O,V,d4,df⟩:=zg T.out.2.1
  by_cases I:j<m.im.length
  ·have z:(j:Int)<(m.im.length:Int):=by omega
   obtain⟨x,hx⟩:=zaS I
   obtain⟨g1,ga,H⟩:=OwnR.elem (f:=imL) (m:=3) (fun _=>rfl) T.out.2.2.1.im hx
   obtain⟨g2,gb,A⟩:=OwnR.elem (f:=imL) (m:=3) (fun _=>rfl) T.out.2.2.2.1.im hx
   rw[ga] at Y
   rw[gb] at X
   obtain⟨y,hy⟩: ∃y,y=x:=⟨_,rfl⟩
   rw[←hy] at A
   obtain⟨b,L⟩: ∃b,zcD x y=b:=⟨_,rfl⟩
   have BT:Hid (b=true):=by show _=_;rw[←L,hy];exact zfu.2 rfl
   have C0:=zc (H 0 (by omega))
   have D0:=zc (A 0 (by omega))
   have C1:=zc (H 1 (by omega))
   have D1:=zc (A 1 (by omega))
   have C2:=zc (H 2 (by omega))
   have D2:=zc (A 2 (by omega))
   clear H A ga gb hx
   obtain⟨N,J⟩: ∃N,N=j+1:=⟨_,rfl⟩
   have ej:(j:Int)+1=(N:Int):=by omega
   have HJ:=zc J
   clear J
   have aa: ∀W:World,Sem.run Tryz.prog (binOp .neq 84 (.agg #[.string x.spec,.string x.first,.string x.loc]) (.agg #[.string y.spec,.string y.first,.string y.loc])) W= .ok (.bool !b) W:=fun W=>by rw[ae,L]
   have ac: ∀(M:BinOp) (a b:Operand) (W:World),Sem.run Tryz.prog (eqGuard M 84 a b (.agg #[.string x.spec,.string x.first,.string x.loc]) (.agg #[.string y.spec,.string y.first,.string y.loc])) W= .ok () W:=fun M a b W=>al M a b x y W
   clear hy
   go_wp2
   have kc:=cell_regrown Y
   have kd:=cell_regrown X
   have k0:=cell_regrown C0.out
   have v0:=cell_regrown D0.out
   have k1:=cell_regrown C1.out
   have v1:=cell_regrown D1.out
   have k2:=cell_regrown C2.out
   have v2:=cell_regrown D2.out
   simp only[Nat.add_zero] at k0 v0
   refine wp_region_quiet_below (by kernel_rfl) (by kernel_rfl) ?_
   repeat (go_big_quiet_step (fail))
   refine wpQuiet_nil ?_
   intro w2 ab
   obtain⟨⟨dq,ad⟩,q⟩:=ab
   have T2:Hid (TwoM w b1 b2 S1 S2 m m w2):=by show TwoM _ _ _ _ _ _ _ _;rw[q];exact T.out.later (below_regrown wr dq ad)
   clear q kc kd c0 Y U Z c4 cf d0 X O V d4 df aa ac k0 v0 C0 D0 k1 v1 C1 D1 k2 v2 C2 D2
   cases b with
   |false=>exact absurd BT.out (by decide)
   |true=>
    go_wp2
    go_roundg (gk-1)
    case rel=>exact⟨N,rfl,by have:=HJ.out;omega,T2.out⟩
    case measure=>omega
  ·have z: ¬(j:Int)<(m.im.length:Int):=by omega
   obtain rfl:j=m.im.length:=by omega
   clear z I hj
   go_wp2
   go_loopg [6] m.ep.length (fun k i wr=>∃j:Nat,i= .int .i64 j∧j+k=m.ep.length∧TwoM w b1 b2 S1 S2 m m wr)
   case atStart=>exact⟨0,rfl,by omega,T.out⟩
   case round=>
    obtain⟨j,rfl,hj,hT⟩:=hrel
    clear T c0 Y U Z c4 cf d0 X O V d4 df
    have T:=zc hT
    clear hT
    obtain⟨c0,Y,U,Z,c4,cf⟩:=zg T.out.1
    obtain⟨d0,X,O,V,d4,df⟩:=zg T.out.2.1
    by_cases I:j<m.ep.length
    ·have z:(j:Int)<(m.ep.length:Int):=by omega
     obtain⟨x,hx⟩:=zaS I
     obtain⟨g1,ga,H⟩:=OwnR.elem (f:=epL) (m:=4) (fun _=>rfl) T.out.2.2.1.ep hx
     obtain⟨g2,gb,A⟩:=OwnR.elem (f:=epL) (m:=4) (fun _=>rfl) T.out.2.2.2.1.ep hx
     rw[ga] at U
     rw[gb] at O
     obtain⟨y,hy⟩: ∃y,y=x:=⟨_,rfl⟩
     rw[←hy] at A
     obtain⟨b,L⟩: ∃b,zcE x y=b:=⟨_,rfl⟩
     have BT:Hid (b=true):=by show _=_;rw[←L,hy];exact zfv.2 rfl
     have C0:=zc (H 0 (by omega))
     have D0:=zc (A 0 (by omega))
     have C1:=zc (H 1 (by omega))
     have D1:=zc (A 1 (by omega))
     have C2:=zc (H 2 (by omega))
     have D2:=zc (A 2 (by omega))
     have C3:=zc (H 3 (by omega))
     have D3:=zc (A 3 (by omega))
     clear H A ga gb hx
     obtain⟨N,J⟩: ∃N,N=j+1:=⟨_,rfl⟩
     have ej:(j:Int)+1=(N:Int):=by omega
     have HJ:=zc J
     clear J
     have aa: ∀W:World,Sem.run Tryz.prog (binOp .neq 86 (.agg #[.int .i64 x.kind,.string x.name,.string x.loc,.string x.spec]) (.agg #[.int .i64 y.kind,.string y.name,.string y.loc,.string y.spec])) W= .ok (.bool !b) W:=fun W=>by rw[aj,L]
     have ac: ∀(M:BinOp) (a b:Operand) (W:World),Sem.run Tryz.prog (eqGuard M 86 a b (.agg #[.int .i64 x.kind,.string x.name,.string x.loc,.string x.spec]) (.agg #[.int .i64 y.kind,.string y.name,.string y.loc,.string y.spec])) W= .ok () W:=fun M a b W=>ah M a b x y W
     clear hy
     go_wp2
     have kc:=cell_regrown U
     have kd:=cell_regrown O
     have k0:=cell_regrown C0.out
     have v0:=cell_regrown D0.out
     have k1:=cell_regrown C1.out
     have v1:=cell_regrown D1.out
     have k2:=cell_regrown C2.out
     have v2:=cell_regrown D2.out
     have k3:=cell_regrown C3.out
     have v3:=cell_regrown D3.out
     simp only[Nat.add_zero] at k0 v0
     refine wp_region_quiet_below (by kernel_rfl) (by kernel_rfl) ?_
     repeat (go_big_quiet_step (fail))
     refine wpQuiet_nil ?_
     intro w2 ab
     obtain⟨⟨dq,ad⟩,q⟩:=ab
     have T2:Hid (TwoM w b1 b2 S1 S2 m m w2):=by show TwoM _ _ _ _ _ _ _ _;rw[q];exact T.out.later (below_regrown wr dq ad)
     clear q kc kd c0 Y U Z c4 cf d0 X O V d4 df aa ac k0 v0 C0 D0 k1 v1 C1 D1 k2 v2 C2 D2 k3 v3 C3 D3
     cases b with
     |false=>exact absurd BT.out (by decide)
     |true=>
      go_wp2
      go_roundg (gk-1)
      case rel=>exact⟨N,rfl,by have:=HJ.out;omega,T2.out⟩
      case measure=>omega
    ·have z: ¬(j:Int)<(m.ep.length:Int):=by omega
     obtain rfl:j=m.ep.length:=by omega
     clear z I hj
     go_wp2
     go_loopg [7] m.st.length (fun k i wr=>∃j:Nat,i= .int .i64 j∧j+k=m.st.length∧TwoM w b1 b2 S1 S2 m m wr)
     case atStart=>exact⟨0,rfl,by omega,T.out⟩
     case round=>
      obtain⟨j,rfl,hj,hT⟩:=hrel
      clear T c0 Y U Z c4 cf d0 X O V d4 df
      have T:=zc hT
      clear hT
      obtain⟨c0,Y,U,Z,c4,cf⟩:=zg T.out.1
      obtain⟨d0,X,O,V,d4,df⟩:=zg T.out.2.1
      by_cases I:j<m.st.length
      ·have z:(j:Int)<(m.st.length:Int):=by omega
       obtain⟨x,hx⟩:=zaS I
       obtain⟨g1,ga,H⟩:=OwnR.elem (f:=smL) (m:=3) (fun _=>rfl) T.out.2.2.1.st hx
       obtain⟨g2,gb,A⟩:=OwnR.elem (f:=smL) (m:=3) (fun _=>rfl) T.out.2.2.2.1.st hx
       rw[ga] at Z
       rw[gb] at V
       obtain⟨y,hy⟩: ∃y,y=x:=⟨_,rfl⟩
       rw[←hy] at A
       obtain⟨b,L⟩: ∃b,zcF x y=b:=⟨_,rfl⟩
       have BT:Hid (b=true):=by show _=_;rw[←L,hy];exact zfw.2 rfl
       have C0:=zc (H 0 (by omega))
       have D0:=zc (A 0 (by omega))
       have C1:=zc (H 1 (by omega))
       have D1:=zc (A 1 (by omega))
       have C2:=zc (H 2 (by omega))
       have D2:=zc (A 2 (by omega))
       clear H A ga gb hx
       obtain⟨N,J⟩: ∃N,N=j+1:=⟨_,rfl⟩
       have ej:(j:Int)+1=(N:Int):=by omega
       have HJ:=zc J
       clear J
       have aa: ∀W:World,Sem.run Tryz.prog (binOp .neq 107 (.agg #[.int .i64 x.kind,.string x.name,.int .i64 x.expr]) (.agg #[.int .i64 y.kind,.string y.name,.int .i64 y.expr])) W= .ok (.bool !b) W:=fun W=>by rw[ak,L]
       have ac: ∀(M:BinOp) (a b:Operand) (W:World),Sem.run Tryz.prog (eqGuard M 107 a b (.agg #[.int .i64 x.kind,.string x.name,.int .i64 x.expr]) (.agg #[.int .i64 y.kind,.string y.name,.int .i64 y.expr])) W= .ok () W:=fun M a b W=>ag M a b x y W
       clear hy
       go_wp2
       have kc:=cell_regrown Z
       have kd:=cell_regrown V
       have k0:=cell_regrown C0.out
       have v0:=cell_regrown D0.out
       have k1:=cell_regrown C1.out
       have v1:=cell_regrown D1.out
       have k2:=cell_regrown C2.out
       have v2:=cell_regrown D2.out
       simp only[Nat.add_zero] at k0 v0
       refine wp_region_quiet_below (by kernel_rfl) (by kernel_rfl) ?_
       repeat (go_big_quiet_step (fail))
       refine wpQuiet_nil ?_
       intro w2 ab
       obtain⟨⟨dq,ad⟩,q⟩:=ab
       have T2:Hid (TwoM w b1 b2 S1 S2 m m w2):=by show TwoM _ _ _ _ _ _ _ _;rw[q];exact T.out.later (below_regrown wr dq ad)
       clear q kc kd c0 Y U Z c4 cf d0 X O V d4 df aa ac k0 v0 C0 D0 k1 v1 C1 D1 k2 v2 C2 D2
       cases b with
       |false=>exact absurd BT.out (by decide)
       |true=>
        go_wp2
        go_roundg (gk-1)
        case rel=>exact⟨N,rfl,by have:=HJ.out;omega,T2.out⟩
        case measure=>omega
      ·have z: ¬(j:Int)<(m.st.length:Int):=by omega
       obtain rfl:j=m.st.length:=by omega
       clear z I hj
       go_wp2
       go_loopg [8] m.ex.length (fun k i wr=>∃j:Nat,i= .int .i64 j∧j+k=m.ex.length∧TwoM w b1 b2 S1 S2 m m wr)
       case atStart=>exact⟨0,rfl,by omega,T.out⟩
       case round=>
        obtain⟨j,rfl,hj,hT⟩:=hrel
        clear T c0 Y U Z c4 cf d0 X O V d4 df
        have T:=zc hT
        clear hT
        obtain⟨c0,Y,U,Z,c4,cf⟩:=zg T.out.1
        obtain⟨d0,X,O,V,d4,df⟩:=zg T.out.2.1
        by_cases I:j<m.ex.length
        ·have z:(j:Int)<(m.ex.length:Int):=by omega
         obtain⟨x,hx⟩:=zaS I
         obtain⟨g1,ga,H⟩:=OwnR.elem (f:=exL) (m:=6) (fun _=>rfl) T.out.2.2.1.ex hx
         obtain⟨g2,gb,A⟩:=OwnR.elem (f:=exL) (m:=6) (fun _=>rfl) T.out.2.2.2.1.ex hx
         rw[ga] at c4
         rw[gb] at d4
         obtain⟨y,hy⟩: ∃y,y=x:=⟨_,rfl⟩
         rw[←hy] at A
         obtain⟨b,L⟩: ∃b,zcG x y=b:=⟨_,rfl⟩
         have BT:Hid (b=true):=by show _=_;rw[←L,hy];exact zfx.2 rfl
         have C0:=zc (H 0 (by omega))
         have D0:=zc (A 0 (by omega))
         have C1:=zc (H 1 (by omega))
         have D1:=zc (A 1 (by omega))
         have C2:=zc (H 2 (by omega))
         have D2:=zc (A 2 (by omega))
         have C3:=zc (H 3 (by omega))
         have D3:=zc (A 3 (by omega))
         have C4:=zc (H 4 (by omega))
         have D4:=zc (A 4 (by omega))
         have C5:=zc (H 5 (by omega))
         have D5:=zc (A 5 (by omega))
         clear H A ga gb hx
         obtain⟨N,J⟩: ∃N,N=j+1:=⟨_,rfl⟩
         have ej:(j:Int)+1=(N:Int):=by omega
         have HJ:=zc J
         clear J
         have aa: ∀W:World,Sem.run Tryz.prog (binOp .neq 109 (.agg #[.int .i64 x.kind,.int .i64 x.num,.string x.name,.string x.field,.int .i64 x.l,.int .i64 x.r]) (.agg #[.int .i64 y.kind,.int .i64 y.num,.string y.name,.string y.field,.int .i64 y.l,.int .i64 y.r])) W= .ok (.bool !b) W:=fun W=>by rw[ai,L]
         have ac: ∀(M:BinOp) (a b:Operand) (W:World),Sem.run Tryz.prog (eqGuard M 109 a b (.agg #[.int .i64 x.kind,.int .i64 x.num,.string x.name,.string x.field,.int .i64 x.l,.int .i64 x.r]) (.agg #[.int .i64 y.kind,.int .i64 y.num,.string y.name,.string y.field,.int .i64 y.l,.int .i64 y.r])) W= .ok () W:=fun M a b W=>af M a b x y W
         clear hy
         go_wp2
         have kc:=cell_regrown c4
         have kd:=cell_regrown d4
         have k0:=cell_regrown C0.out
         have v0:=cell_regrown D0.out
         have k1:=cell_regrown C1.out
         have v1:=cell_regrown D1.out
         have k2:=cell_regrown C2.out
         have v2:=cell_regrown D2.out
         have k3:=cell_regrown C3.out
         have v3:=cell_regrown D3.out
         have k4:=cell_regrown C4.out
         have v4:=cell_regrown D4.out
         have k5:=cell_regrown C5.out
         have v5:=cell_regrown D5.out
         simp only[Nat.add_zero] at k0 v0
         refine wp_region_quiet_below (by kernel_rfl) (by kernel_rfl) ?_
         repeat (go_big_quiet_step (fail))
         refine wpQuiet_nil ?_
         intro w2 ab
         obtain⟨⟨dq,ad⟩,q⟩:=ab
         have T2:Hid (TwoM w b1 b2 S1 S2 m m w2):=by show TwoM _ _ _ _ _ _ _ _;rw[q];exact T.out.later (below_regrown wr dq ad)
         clear q kc kd c0 Y U Z c4 cf d0 X O V d4 df aa ac k0 v0 C0 D0 k1 v1 C1 D1 k2 v2 C2 D2 k3 v3 C3 D3 k4 v4 C4 D4 k5 v5 C5 D5
         cases b with
         |false=>exact absurd BT.out (by decide)
         |true=>
          go_wp2
          go_roundg (gk-1)
          case rel=>exact⟨N,rfl,by have:=HJ.out;omega,T2.out⟩
          case measure=>omega
        ·have z: ¬(j:Int)<(m.ex.length:Int):=by omega
         obtain rfl:j=m.ex.length:=by omega
         clear z I hj
         go_wp2
         go_ret
         exact⟨rfl,T.out.2.2.2.2⟩
end Go.Proofs.YtjdddblpfbmpaaaGreat