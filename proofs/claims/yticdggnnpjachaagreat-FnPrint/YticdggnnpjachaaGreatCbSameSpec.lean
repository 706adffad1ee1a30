/-
 What l4Same of the specification answers,the model's != handed in: the walk.
-/
import Derived.Test.YticdggnnpjachaaGreatCbDrawModToOkMath
namespace Go.Proofs.YticdggnnpjachaaGreat
set_option maxRecDepth 100000
set_option maxHeartbeats 12800000
open Go.RowKit Go.PlainAid Go.Sort
theorem zoG (ai: ∀(x y:Im) (W:World),Sem.run Tryz.prog (binOp .neq 100 (.agg #[.string x.spec,.string x.first,.string x.loc]) (.agg #[.string y.spec,.string y.first,.string y.loc])) W= .ok (.bool (!zco x y)) W) (af: ∀(K:BinOp) (a b:Operand) (x y:Im) (W:World),Sem.run Tryz.prog (eqGuard K 100 a b (.agg #[.string x.spec,.string x.first,.string x.loc]) (.agg #[.string y.spec,.string y.first,.string y.loc])) W= .ok () W) (ak: ∀(x y:Ep) (W:World),Sem.run Tryz.prog (binOp .neq 102 (.agg #[.int .i64 x.kind,.string x.name,.string x.loc,.string x.spec]) (.agg #[.int .i64 y.kind,.string y.name,.string y.loc,.string y.spec])) W= .ok (.bool (!zcp x y)) W) (ag: ∀(K:BinOp) (a b:Operand) (x y:Ep) (W:World),Sem.run Tryz.prog (eqGuard K 102 a b (.agg #[.int .i64 x.kind,.string x.name,.string x.loc,.string x.spec]) (.agg #[.int .i64 y.kind,.string y.name,.string y.loc,.string y.spec])) W= .ok () W) (ad: ∀(x y:Sm) (W:World),Sem.run Tryz.prog (binOp .neq 106 (.agg #[.int .i64 x.kind,.string x.name,.int .i64 x.expr]) (.agg #[.int .i64 y.kind,.string y.name,.int .i64 y.expr])) W= .ok (.bool (!zcq x y)) W) (ac: ∀(K:BinOp) (a b:Operand) (x y:Sm) (W:World),Sem.run Tryz.prog (eqGuard K 106 a b (.agg #[.int .i64 x.kind,.string x.name,.int .i64 x.expr]) (.agg #[.int .i64 y.kind,.string y.name,.int .i64 y.expr])) W= .ok () W) (ah: ∀(x y:Ex) (W:World),Sem.run Tryz.prog (binOp .neq 108 (.agg #[.int .i64 x.kind,.int .i64 x.num,.string x.name,.string x.field,.int .i64 x.l,.int .i64 x.r]) (.agg #[.int .i64 y.kind,.int .i64 y.num,.string y.name,.string y.field,.int .i64 y.l,.int .i64 y.r])) W= .ok (.bool (!zcr x y)) W) (ae: ∀(K:BinOp) (a b:Operand) (x y:Ex) (W:World),Sem.run Tryz.prog (eqGuard K 108 a b (.agg #[.int .i64 x.kind,.int .i64 x.num,.string x.name,.string x.field,.int .i64 x.l,.int .i64 x.r]) (.agg #[.int .i64 y.kind,.int .i64 y.num,.string y.name,.string y.field,.int .i64 y.l,.int .i64 y.r])) W= .ok () W) (b1 b2:Nat) (S1 S2:Sv) (n A:Md) (w:World) (H:OwnMd w b1 S1 n) (E:OwnMd w b2 S2 A) (hf:zem n):
  Calls Tryz.prog 45 #[zp S1 n,zp S2 A] w fun e w'=>zbZ (n=A) e∧Below w.heap.size w w':=by
 have H1:=zc H
 have H2:=zc E
 obtain⟨f1,f2,f3,f4,f5⟩:=hf
 clear H E
 unfold zp
 go_enter Tryz.func45,Tryz.ntmps45
 go_upto_region 1 with fail
 refine zau (R:=TwoM w b1 b2 S1 S2 n A) (zgM w b1 b2 S1 S2 n A H1.out H2.out) ?_
 clear H1 H2
 intro w0 h
 have T:=zc h
 clear h
 obtain⟨U,c1,X,c3,Z,cf⟩:=zl T.out.1
 obtain⟨d0,V,Y,d3,d4,df⟩:=zl T.out.2.1
 by_cases q0:(n.rq.length:Int)=(A.rq.length:Int)
 case neg=>
  go_wp2
  go_ret
  exact⟨⟨false,rfl,⟨fun k=>(by cases k),fun k=>absurd (by rw[k]) q0⟩⟩,T.out.2.2.2.2⟩
 by_cases q1:(n.im.length:Int)=(A.im.length:Int)
 case neg=>
  go_wp2
  go_ret
  exact⟨⟨false,rfl,⟨fun k=>(by cases k),fun k=>absurd (by rw[k]) q1⟩⟩,T.out.2.2.2.2⟩
 by_cases q2:(n.ep.length:Int)=(A.ep.length:Int)
 case neg=>
  go_wp2
  go_ret
  exact⟨⟨false,rfl,⟨fun k=>(by cases k),fun k=>absurd (by rw[k]) q2⟩⟩,T.out.2.2.2.2⟩
 by_cases q3:(n.st.length:Int)=(A.st.length:Int)
 case neg=>
  go_wp2
  go_ret
  exact⟨⟨false,rfl,⟨fun k=>(by cases k),fun k=>absurd (by rw[k]) q3⟩⟩,T.out.2.2.2.2⟩
 by_cases q4:(n.ex.length:Int)=(A.ex.length:Int)
 case neg=>
  go_wp2
  go_ret
  exact⟨⟨false,rfl,⟨fun k=>(by cases k),fun k=>absurd (by rw[k]) q4⟩⟩,T.out.2.2.2.2⟩
 go_wp2
 go_loopg [5] n.rq.length (fun k i wr=>∃j:Nat,i= .int .i64 j∧j+k=n.rq.length∧n.rq.take j=A.rq.take j∧TwoM w b1 b2 S1 S2 n A wr)
 case atStart=>exact⟨0,rfl,by omega,rfl,T.out⟩
 case round=>
  obtain⟨j,rfl,hj,ht,hT⟩:=hrel
  clear T U c1 X c3 Z cf d0 V Y d3 d4 df
  have T:=zc hT
  have M:=zc ht
  clear hT ht
  obtain⟨U,c1,X,c3,Z,cf⟩:=zl T.out.1
  obtain⟨d0,V,Y,d3,d4,df⟩:=zl T.out.2.1
  by_cases I:j<n.rq.length
  ·have q:(j:Int)<(n.rq.length:Int):=by omega
   have aa:(j:Int)<(A.rq.length:Int):=by omega
   obtain⟨x,N⟩:=zaN I
   obtain⟨y,O⟩:=zaN (show j<A.rq.length by omega)
   obtain⟨g1,ga,H⟩:=OwnR.elem (f:=(fun x=>[Value.string x])) (m:=1) (fun _=>rfl) (show OwnR wr b1 9 1 S1.rq n.rq.length (n.rq.flatMap (fun x=>[Value.string x])) by rw[←zel];exact T.out.2.2.1.rq) N
   obtain⟨g2,gb,E⟩:=OwnR.elem (f:=(fun x=>[Value.string x])) (m:=1) (fun _=>rfl) (show OwnR wr b2 9 1 S2.rq A.rq.length (A.rq.flatMap (fun x=>[Value.string x])) by rw[←zel];exact T.out.2.2.2.1.rq) O
   rw[ga] at U
   rw[gb] at d0
   have C0:=zc (H 0 (by omega))
   have D0:=zc (E 0 (by omega))
   have HX:=zc N
   have HY:=zc O
   clear H E ga gb N O
   obtain⟨J,D⟩: ∃J,J=j+1:=⟨_,rfl⟩
   have ej:(j:Int)+1=(J:Int):=by omega
   have HJ:=zc D
   clear D
   obtain⟨b,o⟩: ∃b,zgL x y=b:=⟨_,rfl⟩
   have al:(x.toList==y.toList)=b:=o
   go_wp2
   have kc:=cell_regrown U
   have kd:=cell_regrown d0
   have k0:=cell_regrown C0.out
   have v0:=cell_regrown D0.out
   simp only[Nat.add_zero,Nat.mul_one] at k0 v0
   refine wp_region_quiet_below (by kernel_rfl) (by kernel_rfl) ?_
   repeat (go_big_quiet_step (fail))
   refine wpQuiet_nil ?_
   intro w2 Q
   obtain⟨⟨dq,L⟩,z⟩:=Q
   have T2:Hid (TwoM w b1 b2 S1 S2 n A w2):=by show TwoM _ _ _ _ _ _ _ _;rw[z];exact T.out.later (below_regrown wr dq L)
   clear z kc kd U c1 X c3 Z cf d0 V Y d3 d4 df k0 v0 C0 D0
   cases b with
   |true=>
    go_wp2
    go_roundg (gk-1)
    case rel=>exact⟨J,rfl,by have:=HJ.out;omega,by rw[HJ.out];have e:=zfA.1 o;exact zcQ M.out HX.out (by rw[e];exact HY.out),T2.out⟩
    case measure=>omega
   |false=>
    go_wp2
    go_ret
    exact⟨⟨false,rfl,⟨fun k=>(by cases k),fun k=>(by have e:=HX.out;rw[k,HY.out] at e;cases e;rw[zfA.2 rfl] at o;cases o)⟩⟩,T2.out.2.2.2.2⟩
  ·have q: ¬(j:Int)<(n.rq.length:Int):=by omega
   obtain rfl:j=n.rq.length:=by omega
   have A0:=zc (zcR (by omega) M.out)
   clear M q I hj
   go_wp2
   go_loopg [6] n.im.length (fun k i wr=>∃j:Nat,i= .int .i64 j∧j+k=n.im.length∧n.im.take j=A.im.take j∧TwoM w b1 b2 S1 S2 n A wr)
   case atStart=>exact⟨0,rfl,by omega,rfl,T.out⟩
   case round=>
    obtain⟨j,rfl,hj,ht,hT⟩:=hrel
    clear T U c1 X c3 Z cf d0 V Y d3 d4 df
    have T:=zc hT
    have M:=zc ht
    clear hT ht
    obtain⟨U,c1,X,c3,Z,cf⟩:=zl T.out.1
    obtain⟨d0,V,Y,d3,d4,df⟩:=zl T.out.2.1
    by_cases I:j<n.im.length
    ·have q:(j:Int)<(n.im.length:Int):=by omega
     have aa:(j:Int)<(A.im.length:Int):=by omega
     obtain⟨x,N⟩:=zaN I
     obtain⟨y,O⟩:=zaN (show j<A.im.length by omega)
     obtain⟨g1,ga,H⟩:=OwnR.elem (f:=imL) (m:=3) (fun _=>rfl) T.out.2.2.1.im N
     obtain⟨g2,gb,E⟩:=OwnR.elem (f:=imL) (m:=3) (fun _=>rfl) T.out.2.2.2.1.im O
     rw[ga] at c1
     rw[gb] at V
     have C0:=zc (H 0 (by omega))
     have D0:=zc (E 0 (by omega))
     have C1:=zc (H 1 (by omega))
     have D1:=zc (E 1 (by omega))
     have C2:=zc (H 2 (by omega))
     have D2:=zc (E 2 (by omega))
     have HX:=zc N
     have HY:=zc O
     clear H E ga gb N O
     obtain⟨J,D⟩: ∃J,J=j+1:=⟨_,rfl⟩
     have ej:(j:Int)+1=(J:Int):=by omega
     have HJ:=zc D
     clear D
     obtain⟨b,o⟩: ∃b,zco x y=b:=⟨_,rfl⟩
     have ab: ∀W:World,Sem.run Tryz.prog (binOp .neq 100 (.agg #[.string x.spec,.string x.first,.string x.loc]) (.agg #[.string y.spec,.string y.first,.string y.loc])) W= .ok (.bool !b) W:=fun W=>by rw[ai,o]
     have aj: ∀(K:BinOp) (a b:Operand) (W:World),Sem.run Tryz.prog (eqGuard K 100 a b (.agg #[.string x.spec,.string x.first,.string x.loc]) (.agg #[.string y.spec,.string y.first,.string y.loc])) W= .ok () W:=fun K a b W=>af K a b x y W
     go_wp2
     have kc:=cell_regrown c1
     have kd:=cell_regrown V
     have k0:=cell_regrown C0.out
     have v0:=cell_regrown D0.out
     have k1:=cell_regrown C1.out
     have v1:=cell_regrown D1.out
     have k2:=cell_regrown C2.out
     have v2:=cell_regrown D2.out
     simp only[Nat.add_zero] at k0 v0
     refine wp_region_quiet_below (by kernel_rfl) (by kernel_rfl) ?_
     repeat (go_big_quiet_step (fail))
     refine wpQuiet_nil ?_
     intro w2 Q
     obtain⟨⟨dq,L⟩,z⟩:=Q
     have T2:Hid (TwoM w b1 b2 S1 S2 n A w2):=by show TwoM _ _ _ _ _ _ _ _;rw[z];exact T.out.later (below_regrown wr dq L)
     clear z kc kd U c1 X c3 Z cf d0 V Y d3 d4 df k0 v0 C0 D0 k1 v1 C1 D1 k2 v2 C2 D2
     cases b with
     |true=>
      go_wp2
      go_roundg (gk-1)
      case rel=>exact⟨J,rfl,by have:=HJ.out;omega,by rw[HJ.out];have e:=zeX.1 o;exact zcQ M.out HX.out (by rw[e];exact HY.out),T2.out⟩
      case measure=>omega
     |false=>
      go_wp2
      go_ret
      exact⟨⟨false,rfl,⟨fun k=>(by cases k),fun k=>(by have e:=HX.out;rw[k,HY.out] at e;cases e;rw[zeX.2 rfl] at o;cases o)⟩⟩,T2.out.2.2.2.2⟩
    ·have q: ¬(j:Int)<(n.im.length:Int):=by omega
     obtain rfl:j=n.im.length:=by omega
     have A1:=zc (zcR (by omega) M.out)
     clear M q I hj
     go_wp2
     go_loopg [7] n.ep.length (fun k i wr=>∃j:Nat,i= .int .i64 j∧j+k=n.ep.length∧n.ep.take j=A.ep.take j∧TwoM w b1 b2 S1 S2 n A wr)
     case atStart=>exact⟨0,rfl,by omega,rfl,T.out⟩
     case round=>
      obtain⟨j,rfl,hj,ht,hT⟩:=hrel
      clear T U c1 X c3 Z cf d0 V Y d3 d4 df
      have T:=zc hT
      have M:=zc ht
      clear hT ht
      obtain⟨U,c1,X,c3,Z,cf⟩:=zl T.out.1
      obtain⟨d0,V,Y,d3,d4,df⟩:=zl T.out.2.1
      by_cases I:j<n.ep.length
      ·have q:(j:Int)<(n.ep.length:Int):=by omega
       have aa:(j:Int)<(A.ep.length:Int):=by omega
       obtain⟨x,N⟩:=zaN I
       obtain⟨y,O⟩:=zaN (show j<A.ep.length by omega)
       obtain⟨g1,ga,H⟩:=OwnR.elem (f:=epL) (m:=4) (fun _=>rfl) T.out.2.2.1.ep N
       obtain⟨g2,gb,E⟩:=OwnR.elem (f:=epL) (m:=4) (fun _=>rfl) T.out.2.2.2.1.ep O
       rw[ga] at X
       rw[gb] at Y
       have C0:=zc (H 0 (by omega))
       have D0:=zc (E 0 (by omega))
       have C1:=zc (H 1 (by omega))
       have D1:=zc (E 1 (by omega))
       have C2:=zc (H 2 (by omega))
       have D2:=zc (E 2 (by omega))
       have C3:=zc (H 3 (by omega))
       have D3:=zc (E 3 (by omega))
       have HX:=zc N
       have HY:=zc O
       clear H E ga gb N O
       obtain⟨J,D⟩: ∃J,J=j+1:=⟨_,rfl⟩
       have ej:(j:Int)+1=(J:Int):=by omega
       have HJ:=zc D
       clear D
       obtain⟨b,o⟩: ∃b,zcp x y=b:=⟨_,rfl⟩
       have ab: ∀W:World,Sem.run Tryz.prog (binOp .neq 102 (.agg #[.int .i64 x.kind,.string x.name,.string x.loc,.string x.spec]) (.agg #[.int .i64 y.kind,.string y.name,.string y.loc,.string y.spec])) W= .ok (.bool !b) W:=fun W=>by rw[ak,o]
       have aj: ∀(K:BinOp) (a b:Operand) (W:World),Sem.run Tryz.prog (eqGuard K 102 a b (.agg #[.int .i64 x.kind,.string x.name,.string x.loc,.string x.spec]) (.agg #[.int .i64 y.kind,.string y.name,.string y.loc,.string y.spec])) W= .ok () W:=fun K a b W=>ag K a b x y W
       go_wp2
       have kc:=cell_regrown X
       have kd:=cell_regrown Y
       have k0:=cell_regrown C0.out
       have v0:=cell_regrown D0.out
       have k1:=cell_regrown C1.out
       have v1:=cell_regrown D1.out
       have k2:=cell_regrown C2.out
       have v2:=cell_regrown D2.out
       have k3:=cell_regrown C3.out
       have v3:=cell_regrown D3.out
       simp only[Nat.add_zero] at k0 v0
       refine wp_region_quiet_below (by kernel_rfl) (by kernel_rfl) ?_
       repeat (go_big_quiet_step (fail))
       refine wpQuiet_nil ?_
       intro w2 Q
       obtain⟨⟨dq,L⟩,z⟩:=Q
       have T2:Hid (TwoM w b1 b2 S1 S2 n A w2):=by show TwoM _ _ _ _ _ _ _ _;rw[z];exact T.out.later (below_regrown wr dq L)
       clear z kc kd U c1 X c3 Z cf d0 V Y d3 d4 df k0 v0 C0 D0 k1 v1 C1 D1 k2 v2 C2 D2 k3 v3 C3 D3
       cases b with
       |true=>
        go_wp2
        go_roundg (gk-1)
        case rel=>exact⟨J,rfl,by have:=HJ.out;omega,by rw[HJ.out];have e:=zeY.1 o;exact zcQ M.out HX.out (by rw[e];exact HY.out),T2.out⟩
        case measure=>omega
       |false=>
        go_wp2
        go_ret
        exact⟨⟨false,rfl,⟨fun k=>(by cases k),fun k=>(by have e:=HX.out;rw[k,HY.out] at e;cases e;rw[zeY.2 rfl] at o;cases o)⟩⟩,T2.out.2.2.2.2⟩
      ·have q: ¬(j:Int)<(n.ep.length:Int):=by omega
       obtain rfl:j=n.ep.length:=by omega
       have A2:=zc (zcR (by omega) M.out)
       clear M q I hj
       go_wp2
       go_loopg [8] n.st.length (fun k i wr=>∃j:Nat,i= .int .i64 j∧j+k=n.st.length∧n.st.take j=A.st.take j∧TwoM w b1 b2 S1 S2 n A wr)
       case atStart=>exact⟨0,rfl,by omega,rfl,T.out⟩
       case round=>
        obtain⟨j,rfl,hj,ht,hT⟩:=hrel
        clear T U c1 X c3 Z cf d0 V Y d3 d4 df
        have T:=zc hT
        have M:=zc ht
        clear hT ht
        obtain⟨U,c1,X,c3,Z,cf⟩:=zl T.out.1
        obtain⟨d0,V,Y,d3,d4,df⟩:=zl T.out.2.1
        by_cases I:j<n.st.length
        ·have q:(j:Int)<(n.st.length:Int):=by omega
         have aa:(j:Int)<(A.st.length:Int):=by omega
         obtain⟨x,N⟩:=zaN I
         obtain⟨y,O⟩:=zaN (show j<A.st.length by omega)
         obtain⟨g1,ga,H⟩:=OwnR.elem (f:=smL) (m:=3) (fun _=>rfl) T.out.2.2.1.st N
         obtain⟨g2,gb,E⟩:=OwnR.elem (f:=smL) (m:=3) (fun _=>rfl) T.out.2.2.2.1.st O
         rw[ga] at c3
         rw[gb] at d3
         have C0:=zc (H 0 (by omega))
         have D0:=zc (E 0 (by omega))
         have C1:=zc (H 1 (by omega))
         have D1:=zc (E 1 (by omega))
         have C2:=zc (H 2 (by omega))
         have D2:=zc (E 2 (by omega))
         have HX:=zc N
         have HY:=zc O
         clear H E ga gb N O
         obtain⟨J,D⟩: ∃J,J=j+1:=⟨_,rfl⟩
         have ej:(j:Int)+1=(J:Int):=by omega
         have HJ:=zc D
         clear D
         obtain⟨b,o⟩: ∃b,zcq x y=b:=⟨_,rfl⟩
         have ab: ∀W:World,Sem.run Tryz.prog (binOp .neq 106 (.agg #[.int .i64 x.kind,.string x.name,.int .i64 x.expr]) (.agg #[.int .i64 y.kind,.string y.name,.int .i64 y.expr])) W= .ok (.bool !b) W:=fun W=>by rw[ad,o]
         have aj: ∀(K:BinOp) (a b:Operand) (W:World),Sem.run Tryz.prog (eqGuard K 106 a b (.agg #[.int .i64 x.kind,.string x.name,.int .i64 x.expr]) (.agg #[.int .i64 y.kind,.string y.name,.int .i64 y.expr])) W= .ok () W:=fun K a b W=>ac K a b x y W
         go_wp2
         have kc:=cell_regrown c3
         have kd:=cell_regrown d3
         have k0:=cell_regrown C0.out
         have v0:=cell_regrown D0.out
         have k1:=cell_regrown C1.out
         have v1:=cell_regrown D1.out
         have k2:=cell_regrown C2.out
         have v2:=cell_regrown D2.out
         simp only[Nat.add_zero] at k0 v0
         refine wp_region_quiet_below (by kernel_rfl) (by kernel_rfl) ?_
         repeat (go_big_quiet_step (fail))
         refine wpQuiet_nil ?_
         intro w2 Q
         obtain⟨⟨dq,L⟩,z⟩:=Q
         have T2:Hid (TwoM w b1 b2 S1 S2 n A w2):=by show TwoM _ _ _ _ _ _ _ _;rw[z];exact T.out.later (below_regrown wr dq L)
         clear z kc kd U c1 X c3 Z cf d0 V Y d3 d4 df k0 v0 C0 D0 k1 v1 C1 D1 k2 v2 C2 D2
         cases b with
         |true=>
          go_wp2
          go_roundg (gk-1)
          case rel=>exact⟨J,rfl,by have:=HJ.out;omega,by rw[HJ.out];have e:=zeZ.1 o;exact zcQ M.out HX.out (by rw[e];exact HY.out),T2.out⟩
          case measure=>omega
         |false=>
          go_wp2
          go_ret
          exact⟨⟨false,rfl,⟨fun k=>(by cases k),fun k=>(by have e:=HX.out;rw[k,HY.out] at e;cases e;rw[zeZ.2 rfl] at o;cases o)⟩⟩,T2.out.2.2.2.2⟩
        ·have q: ¬(j:Int)<(n.st.length:Int):=by omega
         obtain rfl:j=n.st.length:=by omega
         have A3:=zc (zcR (by omega) M.out)
         clear M q I hj
         go_wp2
         go_loopg [9] n.ex.length (fun k i wr=>∃j:Nat,i= .int .i64 j∧j+k=n.ex.length∧n.ex.take j=A.ex.take j∧TwoM w b1 b2 S1 S2 n A wr)
         case atStart=>exact⟨0,rfl,by omega,rfl,T.out⟩
         case round=>
          obtain⟨j,rfl,hj,ht,hT⟩:=hrel
          clear T U c1 X c3 Z cf d0 V Y d3 d4 df
          have T:=zc hT
          have M:=zc ht
          clear hT ht
          obtain⟨U,c1,X,c3,Z,cf⟩:=zl T.out.1
          obtain⟨d0,V,Y,d3,d4,df⟩:=zl T.out.2.1
          by_cases I:j<n.ex.length
          ·have q:(j:Int)<(n.ex.length:Int):=by omega
           have aa:(j:Int)<(A.ex.length:Int):=by omega
           obtain⟨x,N⟩:=zaN I
           obtain⟨y,O⟩:=zaN (show j<A.ex.length by omega)
           obtain⟨g1,ga,H⟩:=OwnR.elem (f:=exL) (m:=6) (fun _=>rfl) T.out.2.2.1.ex N
           obtain⟨g2,gb,E⟩:=OwnR.elem (f:=exL) (m:=6) (fun _=>rfl) T.out.2.2.2.1.ex O
           rw[ga] at Z
           rw[gb] at d4
           have C0:=zc (H 0 (by omega))
           have D0:=zc (E 0 (by omega))
           have C1:=zc (H 1 (by omega))
           have D1:=zc (E 1 (by omega))
           have C2:=zc (H 2 (by omega))
           have D2:=zc (E 2 (by omega))
           have C3:=zc (H 3 (by omega))
           have D3:=zc (E 3 (by omega))
           have C4:=zc (H 4 (by omega))
           have D4:=zc (E 4 (by omega))
           have C5:=zc (H 5 (by omega))
           have D5:=zc (E 5 (by omega))
           have HX:=zc N
           have HY:=zc O
           clear H E ga gb N O
           obtain⟨J,D⟩: ∃J,J=j+1:=⟨_,rfl⟩
           have ej:(j:Int)+1=(J:Int):=by omega
           have HJ:=zc D
           clear D
           obtain⟨b,o⟩: ∃b,zcr x y=b:=⟨_,rfl⟩
           have ab: ∀W:World,Sem.run Tryz.prog (binOp .neq 108 (.agg #[.int .i64 x.kind,.int .i64 x.num,.string x.name,.string x.field,.int .i64 x.l,.int .i64 x.r]) (.agg #[.int .i64 y.kind,.int .i64 y.num,.string y.name,.string y.field,.int .i64 y.l,.int .i64 y.r])) W= .ok (.bool !b) W:=fun W=>by rw[ah,o]
           have aj: ∀(K:BinOp) (a b:Operand) (W:World),Sem.run Tryz.prog (eqGuard K 108 a b (.agg #[.int .i64 x.kind,.int .i64 x.num,.string x.name,.string x.field,.int .i64 x.l,.int .i64 x.r]) (.agg #[.int .i64 y.kind,.int .i64 y.num,.string y.name,.string y.field,.int .i64 y.l,.int .i64 y.r])) W= .ok () W:=fun K a b W=>ae K a b x y W
           go_wp2
           have kc:=cell_regrown Z
           have kd:=cell_regrown d4
           have k0:=cell_regrown C0.out
           have v0:=cell_regrown D0.out
           have k1:=cell_regrown C1.out
           have v1:=cell_regrown D1.out
           have k2:=cell_regrown C2.out
           have v2:=cell_regrown D2.out
           have k3:=cell_regrown C3.out
           have v3:=cell_regrown D3.out
           have k4:=cell_regrown C4.out
           have v4:=cell_regrown D4.out
           have k5:=cell_regrown C5.out
           have v5:=cell_regrown D5.out
           simp only[Nat.add_zero] at k0 v0
           refine wp_region_quiet_below (by kernel_rfl) (by kernel_rfl) ?_
           repeat (go_big_quiet_step (fail))
           refine wpQuiet_nil ?_
           intro w2 Q
           obtain⟨⟨dq,L⟩,z⟩:=Q
           have T2:Hid (TwoM w b1 b2 S1 S2 n A w2):=by show TwoM _ _ _ _ _ _ _ _;rw[z];exact T.out.later (below_regrown wr dq L)
           clear z kc kd U c1 X c3 Z cf d0 V Y d3 d4 df k0 v0 C0 D0 k1 v1 C1 D1 k2 v2 C2 D2 k3 v3 C3 D3 k4 v4 C4 D4 k5 v5 C5 D5
           cases b with
           |true=>
            go_wp2
            go_roundg (gk-1)
            case rel=>exact⟨J,rfl,by have:=HJ.out;omega,by rw[HJ.out];have e:=zfa.1 o;exact zcQ M.out HX.out (by rw[e];exact HY.out),T2.out⟩
            case measure=>omega
           |false=>
            go_wp2
            go_ret
            exact⟨⟨false,rfl,⟨fun k=>(by cases k),fun k=>(by have e:=HX.out;rw[k,HY.out] at e;cases e;rw[zfa.2 rfl] at o;cases o)⟩⟩,T2.out.2.2.2.2⟩
          ·have q: ¬(j:Int)<(n.ex.length:Int):=by omega
           obtain rfl:j=n.ex.length:=by omega
           have A4:=zc (zcR (by omega) M.out)
           clear M q I hj
           go_wp2
           go_ret
           exact⟨⟨true,rfl,⟨fun _=>ziW A0.out A1.out A2.out A3.out A4.out,fun _=>rfl⟩⟩,T.out.2.2.2.2⟩
end Go.Proofs.YticdggnnpjachaaGreat