/-
 What impl's isSameMod answers: the walk.
-/
import Derived.Test.YtjdddblpfbmpaaaGreatCoTwoModToSameSpec
import Derived.Laws.StructEq
namespace Go.Proofs.YtjdddblpfbmpaaaGreat
set_option maxRecDepth 100000
set_option maxHeartbeats 6400000
open Go.RowKit Go.PlainAid Go.Sort
theorem zh7 (x y:Im) (w:World):Sem.run Tryz.prog (binOp .neq 84 (.agg #[.string x.spec,.string x.first,.string x.loc]) (.agg #[.string y.spec,.string y.first,.string y.loc])) w= .ok (.bool (!zc4 x y)) w:=by
 have A:=Tryz.underlying9
 have E:=Tryz.isAgg9
 have D:=Tryz.sizeOf9
 have I:=Tryz.underlying3
 have H:=Tryz.isAgg3
 have J:=Tryz.sizeOf3
 have n:Tryz.prog.underlying 84=some (.struct (Tryz.prog.fieldsOf 84)):=by kernel_rfl
 have h:Tryz.prog.stoodInHeld 84=false:=by kernel_rfl
 rw[run_neq_struct,show (10000:Nat)=9999+1 from rfl,run_equalIn_agg w 9999 84 _ _ n h]
 simp only[Program.fieldsOf,Tryz.underlying84]
 go_simp
 by_cases z:x.spec.toList=y.spec.toList<;>by_cases q:x.first.toList=y.first.toList<;>by_cases j:x.loc.toList=y.loc.toList<;>simp[zc4,z,q,j]
theorem zh8 (h:BinOp) (a b:Operand) (x y:Im) (w:World):Sem.run Tryz.prog (eqGuard h 84 a b (.agg #[.string x.spec,.string x.first,.string x.loc]) (.agg #[.string y.spec,.string y.first,.string y.loc])) w= .ok () w:=run_eqGuard_agg w h 84 a b _ _ (by kernel_rfl)
theorem zh9 (x y:Ep) (w:World):Sem.run Tryz.prog (binOp .neq 86 (.agg #[.int .i64 x.kind,.string x.name,.string x.loc,.string x.spec]) (.agg #[.int .i64 y.kind,.string y.name,.string y.loc,.string y.spec])) w= .ok (.bool (!zc5 x y)) w:=by
 have D:=Tryz.underlying9
 have H:=Tryz.isAgg9
 have E:=Tryz.sizeOf9
 have J:=Tryz.underlying3
 have I:=Tryz.isAgg3
 have K:=Tryz.sizeOf3
 have n:Tryz.prog.underlying 86=some (.struct (Tryz.prog.fieldsOf 86)):=by kernel_rfl
 have h:Tryz.prog.stoodInHeld 86=false:=by kernel_rfl
 rw[run_neq_struct,show (10000:Nat)=9999+1 from rfl,run_equalIn_agg w 9999 86 _ _ n h]
 simp only[Program.fieldsOf,Tryz.underlying86]
 go_simp
 by_cases z:x.kind=y.kind<;>by_cases q:x.name.toList=y.name.toList<;>by_cases j:x.loc.toList=y.loc.toList<;>by_cases A:x.spec.toList=y.spec.toList<;>simp[zc5,z,q,j,A]
theorem zhA (h:BinOp) (a b:Operand) (x y:Ep) (w:World):Sem.run Tryz.prog (eqGuard h 86 a b (.agg #[.int .i64 x.kind,.string x.name,.string x.loc,.string x.spec]) (.agg #[.int .i64 y.kind,.string y.name,.string y.loc,.string y.spec])) w= .ok () w:=run_eqGuard_agg w h 86 a b _ _ (by kernel_rfl)
theorem zhB (x y:Sm) (w:World):Sem.run Tryz.prog (binOp .neq 107 (.agg #[.int .i64 x.kind,.string x.name,.int .i64 x.expr]) (.agg #[.int .i64 y.kind,.string y.name,.int .i64 y.expr])) w= .ok (.bool (!zc6 x y)) w:=by
 have A:=Tryz.underlying9
 have E:=Tryz.isAgg9
 have D:=Tryz.sizeOf9
 have I:=Tryz.underlying3
 have H:=Tryz.isAgg3
 have J:=Tryz.sizeOf3
 have n:Tryz.prog.underlying 107=some (.struct (Tryz.prog.fieldsOf 107)):=by kernel_rfl
 have h:Tryz.prog.stoodInHeld 107=false:=by kernel_rfl
 rw[run_neq_struct,show (10000:Nat)=9999+1 from rfl,run_equalIn_agg w 9999 107 _ _ n h]
 simp only[Program.fieldsOf,Tryz.underlying107]
 go_simp
 by_cases z:x.kind=y.kind<;>by_cases q:x.name.toList=y.name.toList<;>by_cases j:x.expr=y.expr<;>simp[zc6,z,q,j]
theorem zhC (h:BinOp) (a b:Operand) (x y:Sm) (w:World):Sem.run Tryz.prog (eqGuard h 107 a b (.agg #[.int .i64 x.kind,.string x.name,.int .i64 x.expr]) (.agg #[.int .i64 y.kind,.string y.name,.int .i64 y.expr])) w= .ok () w:=run_eqGuard_agg w h 107 a b _ _ (by kernel_rfl)
theorem zhD (x y:Ex) (w:World):Sem.run Tryz.prog (binOp .neq 109 (.agg #[.int .i64 x.kind,.int .i64 x.num,.string x.name,.string x.field,.int .i64 x.l,.int .i64 x.r]) (.agg #[.int .i64 y.kind,.int .i64 y.num,.string y.name,.string y.field,.int .i64 y.l,.int .i64 y.r])) w= .ok (.bool (!zc7 x y)) w:=by
 have H:=Tryz.underlying9
 have J:=Tryz.isAgg9
 have I:=Tryz.sizeOf9
 have L:=Tryz.underlying3
 have K:=Tryz.isAgg3
 have M:=Tryz.sizeOf3
 have n:Tryz.prog.underlying 109=some (.struct (Tryz.prog.fieldsOf 109)):=by kernel_rfl
 have h:Tryz.prog.stoodInHeld 109=false:=by kernel_rfl
 rw[run_neq_struct,show (10000:Nat)=9999+1 from rfl,run_equalIn_agg w 9999 109 _ _ n h]
 simp only[Program.fieldsOf,Tryz.underlying109]
 go_simp
 by_cases D:x.kind=y.kind<;>by_cases z:x.num=y.num<;>by_cases j:x.name.toList=y.name.toList<;>by_cases E:x.field.toList=y.field.toList<;>by_cases q:x.l=y.l<;>by_cases A:x.r=y.r<;>simp[zc7,D,z,j,E,q,A]
theorem zhE (h:BinOp) (a b:Operand) (x y:Ex) (w:World):Sem.run Tryz.prog (eqGuard h 109 a b (.agg #[.int .i64 x.kind,.int .i64 x.num,.string x.name,.string x.field,.int .i64 x.l,.int .i64 x.r]) (.agg #[.int .i64 y.kind,.int .i64 y.num,.string y.name,.string y.field,.int .i64 y.l,.int .i64 y.r])) w= .ok () w:=run_eqGuard_agg w h 109 a b _ _ (by kernel_rfl)
theorem zhF (Y b2:Nat) (X V:Sv) (q E:Md) (w:World) (h1:OwnMd w Y X q) (h2:OwnMd w b2 V E) (hf:zdJ q):
  Calls Tryz.prog 91 #[zq X q,zq V E] w fun e w'=>zbN (q=E) e∧Below w.heap.size w w':=by
 have H1:=zc h1
 have H2:=zc h2
 have HF:=zc hf
 clear h1 h2 hf
 unfold zq
 go_enter Tryz.func91,Tryz.ntmps91
 go_upto_region 1 with fail
 refine zac (R:=TwoM w Y b2 X V q E) (zfV w Y b2 X V q E H1.out H2.out) ?_
 clear H1 H2
 intro w0 h
 have T0:=zc h
 clear h
 obtain⟨U,I,K,N,J,M⟩:=zi T0.out.1
 obtain⟨L,H,z,A,O,D⟩:=zi T0.out.2.1
 go_wp2_with fail
 refine (zlk Y b2 X.rq V.rq q.rq E.rq w0 (by rw[←zdI];exact T0.out.2.2.1.rq) (by rw[←zdI];exact T0.out.2.2.2.1.rq) HF.out.1).mono ?_
 rintro e w1 ⟨⟨r,rfl,n⟩,j⟩
 have Z:=zc (T0.out.later j)
 have R0:=zc n
 clear j n U I K N J M L H z A O D
 obtain⟨U,I,K,N,J,M⟩:=zi Z.out.1
 obtain⟨L,H,z,A,O,D⟩:=zi Z.out.2.1
 cases r with
 |false=>
  go_wp2
  go_ret
  exact⟨⟨false,rfl,⟨fun k=>(by cases k),fun k=>(by have:=R0.out.2 (by rw[k]);cases this)⟩⟩,Z.out.2.2.2.2⟩
 |true=>
  go_wp2_with fail
  refine (zlo zh7 zh8 Y b2 X.im V.im q.im E.im w1 Z.out.2.2.1.im Z.out.2.2.2.1.im HF.out.2.1).mono ?_
  rintro e w2 ⟨⟨r,rfl,n⟩,j⟩
  have T2:=zc (Z.out.later j)
  have R1:=zc n
  clear j n U I K N J M L H z A O D
  obtain⟨U,I,K,N,J,M⟩:=zi T2.out.1
  obtain⟨L,H,z,A,O,D⟩:=zi T2.out.2.1
  cases r with
  |false=>
   go_wp2
   go_ret
   exact⟨⟨false,rfl,⟨fun k=>(by cases k),fun k=>(by have:=R1.out.2 (by rw[k]);cases this)⟩⟩,T2.out.2.2.2.2⟩
  |true=>
   go_wp2_with fail
   refine (zls zh9 zhA Y b2 X.ep V.ep q.ep E.ep w2 T2.out.2.2.1.ep T2.out.2.2.2.1.ep HF.out.2.2.1).mono ?_
   rintro e w3 ⟨⟨r,rfl,n⟩,j⟩
   have T3:=zc (T2.out.later j)
   have R2:=zc n
   clear j n U I K N J M L H z A O D
   obtain⟨U,I,K,N,J,M⟩:=zi T3.out.1
   obtain⟨L,H,z,A,O,D⟩:=zi T3.out.2.1
   cases r with
   |false=>
    go_wp2
    go_ret
    exact⟨⟨false,rfl,⟨fun k=>(by cases k),fun k=>(by have:=R2.out.2 (by rw[k]);cases this)⟩⟩,T3.out.2.2.2.2⟩
   |true=>
    go_wp2_with fail
    refine (zlw zhB zhC Y b2 X.st V.st q.st E.st w3 T3.out.2.2.1.st T3.out.2.2.2.1.st HF.out.2.2.2.1).mono ?_
    rintro e w4 ⟨⟨r,rfl,n⟩,j⟩
    have T4:=zc (T3.out.later j)
    have R3:=zc n
    clear j n U I K N J M L H z A O D
    obtain⟨U,I,K,N,J,M⟩:=zi T4.out.1
    obtain⟨L,H,z,A,O,D⟩:=zi T4.out.2.1
    cases r with
    |false=>
     go_wp2
     go_ret
     exact⟨⟨false,rfl,⟨fun k=>(by cases k),fun k=>(by have:=R3.out.2 (by rw[k]);cases this)⟩⟩,T4.out.2.2.2.2⟩
    |true=>
     go_wp2_with fail
     refine (zl0 zhD zhE Y b2 X.ex V.ex q.ex E.ex w4 T4.out.2.2.1.ex T4.out.2.2.2.1.ex HF.out.2.2.2.2).mono ?_
     rintro e w5 ⟨⟨r,rfl,n⟩,j⟩
     have T5:=zc (T4.out.later j)
     have R4:=zc n
     clear j n U I K N J M L H z A O D
     obtain⟨U,I,K,N,J,M⟩:=zi T5.out.1
     obtain⟨L,H,z,A,O,D⟩:=zi T5.out.2.1
     cases r with
     |false=>
      go_wp2
      go_ret
      exact⟨⟨false,rfl,⟨fun k=>(by cases k),fun k=>(by have:=R4.out.2 (by rw[k]);cases this)⟩⟩,T5.out.2.2.2.2⟩
     |true=>
      go_wp2
      go_ret
      exact⟨⟨true,rfl,⟨fun _=>zhu (R0.out.1 (by simp)) (R1.out.1 (by simp)) (R2.out.1 (by simp)) (R3.out.1 (by simp)) (R4.out.1 (by simp)),fun _=>rfl⟩⟩,T5.out.2.2.2.2⟩
end Go.Proofs.YtjdddblpfbmpaaaGreat