/- Facts. -/
import Derived.Laws.StructEq
import Derived.Test.YtegdaafmaookjaaGreatP29
namespace Go.Proofs.YtegdaafmaookjaaGreat
open Go.Proofs.Tryz
set_option maxRecDepth 100000
set_option maxHeartbeats 6400000
open Go.RowKit Go.PlainAid Go.Sort
variable (w:BinOp) (W C:Operand) (S q:Ex) (z s:Sm) (g b:Ep) (c d:Im) (u:Int) (V:World)
theorem zlP:Sem.run prog (binOp .neq 101 (.agg #[.string c.spec,.string c.first,.string c.loc]) (.agg #[.string d.spec,.string d.first,.string d.loc])) V= .ok (.bool (!zdA c d)) V:=by
 have J:=underlying9;have L:=Tryz.isAgg9;have K:=Tryz.sizeOf9;have N:=underlying3;have M:=Tryz.isAgg3;have O:=Tryz.sizeOf3;have A:prog.underlying 101=some (.struct (prog.fieldsOf 101)):=by kernel_rfl
 have h:prog.stoodInHeld 101=false:=by kernel_rfl
 rw[run_neq_struct,show (10000:Nat)=9999+1 from rfl,run_equalIn_agg V 9999 101 _ _ A h];simp only[Program.fieldsOf,underlying101];go_simp;by_cases I:c.spec.toList=d.spec.toList<;>by_cases H:c.first.toList=d.first.toList<;>by_cases q:c.loc.toList=d.loc.toList<;>simp[zdA,I,H,q]
theorem zlQ (n:World):Sem.run prog (eqGuard w 101 W C (.agg #[.string c.spec,.string c.first,.string c.loc]) (.agg #[.string d.spec,.string d.first,.string d.loc])) n= .ok () n:=run_eqGuard_agg n w 101 W C _ _ (by kernel_rfl)
theorem zlR:Sem.run prog (binOp .neq 103 (.agg #[.int .i64 g.kind,.string g.name,.string g.loc,.string g.spec]) (.agg #[.int .i64 b.kind,.string b.name,.string b.loc,.string b.spec])) V= .ok (.bool (!zdB g b)) V:=by
 have K:=underlying9;have M:=Tryz.isAgg9;have L:=Tryz.sizeOf9;have O:=underlying3;have N:=Tryz.isAgg3;have U:=Tryz.sizeOf3;have A:prog.underlying 103=some (.struct (prog.fieldsOf 103)):=by kernel_rfl
 have h:prog.stoodInHeld 103=false:=by kernel_rfl
 rw[run_neq_struct,show (10000:Nat)=9999+1 from rfl,run_equalIn_agg V 9999 103 _ _ A h];simp only[Program.fieldsOf,underlying103];go_simp;by_cases I:g.kind=b.kind<;>by_cases H:g.name.toList=b.name.toList<;>by_cases q:g.loc.toList=b.loc.toList<;>by_cases J:g.spec.toList=b.spec.toList<;>simp[zdB,I,H,q,J]
theorem zlS (y:Ep) (n:World):Sem.run prog (eqGuard w 103 W C (.agg #[.int .i64 g.kind,.string g.name,.string g.loc,.string g.spec]) (.agg #[.int .i64 y.kind,.string y.name,.string y.loc,.string y.spec])) n= .ok () n:=run_eqGuard_agg n w 103 W C _ _ (by kernel_rfl)
theorem zlT:Sem.run prog (binOp .neq 108 (.agg #[.int .i64 z.kind,.string z.name,.int .i64 z.expr]) (.agg #[.int .i64 s.kind,.string s.name,.int .i64 s.expr])) V= .ok (.bool (!zdC z s)) V:=by
 have J:=underlying9;have L:=Tryz.isAgg9;have K:=Tryz.sizeOf9;have N:=underlying3;have M:=Tryz.isAgg3;have O:=Tryz.sizeOf3;have A:prog.underlying 108=some (.struct (prog.fieldsOf 108)):=by kernel_rfl
 have h:prog.stoodInHeld 108=false:=by kernel_rfl
 rw[run_neq_struct,show (10000:Nat)=9999+1 from rfl,run_equalIn_agg V 9999 108 _ _ A h];simp only[Program.fieldsOf,underlying108];go_simp;by_cases I:z.kind=s.kind<;>by_cases H:z.name.toList=s.name.toList<;>by_cases q:z.expr=s.expr<;>simp[zdC,I,H,q]
theorem zlU (n:World):Sem.run prog (eqGuard w 108 W C (.agg #[.int .i64 z.kind,.string z.name,.int .i64 z.expr]) (.agg #[.int .i64 s.kind,.string s.name,.int .i64 s.expr])) n= .ok () n:=run_eqGuard_agg n w 108 W C _ _ (by kernel_rfl)
theorem zlV:Sem.run prog (binOp .neq 106 (.agg #[.int .i64 S.kind,.int .i64 S.num,.string S.name,.string S.field,.int .i64 S.l,.int .i64 S.r]) (.agg #[.int .i64 q.kind,.int .i64 q.num,.string q.name,.string q.field,.int .i64 q.l,.int .i64 q.r])) V= .ok (.bool (!zdD S q)) V:=by
 have M:=underlying9;have O:=Tryz.isAgg9;have N:=Tryz.sizeOf9;have k:=underlying3;have U:=Tryz.isAgg3;have X:=Tryz.sizeOf3;have A:prog.underlying 106=some (.struct (prog.fieldsOf 106)):=by kernel_rfl
 have h:prog.stoodInHeld 106=false:=by kernel_rfl
 rw[run_neq_struct,show (10000:Nat)=9999+1 from rfl,run_equalIn_agg V 9999 106 _ _ A h];simp only[Program.fieldsOf,underlying106];go_simp;by_cases K:S.kind=q.kind<;>by_cases I:S.num=q.num<;>by_cases n:S.name.toList=q.name.toList<;>by_cases L:S.field.toList=q.field.toList<;>by_cases H:S.l=q.l<;>by_cases J:S.r=q.r<;>simp[zdD,K,I,n,L,H,J]
theorem zlW (n:World):Sem.run prog (eqGuard w 106 W C (.agg #[.int .i64 S.kind,.int .i64 S.num,.string S.name,.string S.field,.int .i64 S.l,.int .i64 S.r]) (.agg #[.int .i64 q.kind,.int .i64 q.num,.string q.name,.string q.field,.int .i64 q.l,.int .i64 q.r])) n= .ok () n:=run_eqGuard_agg n w 106 W C _ _ (by kernel_rfl)
theorem zlX (b1 b2:Nat) (S1 S2:Sv) (H L:Md) (w:World) (h1:OwnMd w b1 S1 H) (h2:OwnMd w b2 S2 L) (hf:zeq H):
  Calls prog 178 #[zo S1 H,zo S2 L] w fun e w'=>SameOut (H=L) e/\Bw w w':=by
 have H1:=zc h1;have H2:=zc h2;have HF:=zc hf;clear h1 h2 hf;unfold zo;go_enter func178,ntmps178;go_upto_region 1 with fail;refine zp (R:=TwoM w b1 b2 S1 S2 H L) (ziH w b1 b2 S1 S2 H L H1.o H2.o) ?_;clear H1 H2;intro w0 h;have T0:=zc h;clear h;obtain⟨c0,N,U,Y,O,X⟩:=zl T0.o.1;obtain⟨V,M,I,J,Z,K⟩:=zl T0.o.2.1;go_wp2_with fail;refine (zqW b1 b2 S1.rq S2.rq H.rq L.rq w0 (by rw[<-zfy];exact T0.o.2.2.1.rq) (by rw[<-zfy];exact T0.o.2.2.2.1.rq) HF.o.1).mono ?_;rintro e w1 ⟨⟨r,rfl,A⟩,q⟩;have T1:=zc (T0.o.later q);have R0:=zc A;clear q A c0 N U Y O X V M I J Z K;obtain⟨c0,N,U,Y,O,X⟩:=zl T1.o.1;obtain⟨V,M,I,J,Z,K⟩:=zl T1.o.2.1;cases r with
 |false=>
  go_wp2;go_ret;exact⟨⟨false,rfl,⟨fun k=>(by cases k),fun k=>(by have:=R0.o.2 (by rw[k]);cases this)⟩⟩,T1.o.2.2.2.2⟩
 |true=>
  go_wp2_with fail;refine (zra zlP zlQ b1 b2 S1.im S2.im H.im L.im w1 T1.o.2.2.1.im T1.o.2.2.2.1.im HF.o.2.1).mono ?_;rintro e w2 ⟨⟨r,rfl,A⟩,q⟩;have T2:=zc (T1.o.later q);have R1:=zc A;clear q A c0 N U Y O X V M I J Z K;obtain⟨c0,N,U,Y,O,X⟩:=zl T2.o.1;obtain⟨V,M,I,J,Z,K⟩:=zl T2.o.2.1;cases r with
  |false=>
   go_wp2;go_ret;exact⟨⟨false,rfl,⟨fun k=>(by cases k),fun k=>(by have:=R1.o.2 (by rw[k]);cases this)⟩⟩,T2.o.2.2.2.2⟩
  |true=>
   go_wp2_with fail;refine (zre zlR zlS b1 b2 S1.ep S2.ep H.ep L.ep w2 T2.o.2.2.1.ep T2.o.2.2.2.1.ep HF.o.2.2.1).mono ?_;rintro e w3 ⟨⟨r,rfl,A⟩,q⟩;have T3:=zc (T2.o.later q);have R2:=zc A;clear q A c0 N U Y O X V M I J Z K;obtain⟨c0,N,U,Y,O,X⟩:=zl T3.o.1;obtain⟨V,M,I,J,Z,K⟩:=zl T3.o.2.1;cases r with
   |false=>
    go_wp2;go_ret;exact⟨⟨false,rfl,⟨fun k=>(by cases k),fun k=>(by have:=R2.o.2 (by rw[k]);cases this)⟩⟩,T3.o.2.2.2.2⟩
   |true=>
    go_wp2_with fail;refine (zri zlT zlU b1 b2 S1.st S2.st H.st L.st w3 T3.o.2.2.1.st T3.o.2.2.2.1.st HF.o.2.2.2.1).mono ?_;rintro e w4 ⟨⟨r,rfl,A⟩,q⟩;have T4:=zc (T3.o.later q);have R3:=zc A;clear q A c0 N U Y O X V M I J Z K;obtain⟨c0,N,U,Y,O,X⟩:=zl T4.o.1;obtain⟨V,M,I,J,Z,K⟩:=zl T4.o.2.1;cases r with
    |false=>
     go_wp2;go_ret;exact⟨⟨false,rfl,⟨fun k=>(by cases k),fun k=>(by have:=R3.o.2 (by rw[k]);cases this)⟩⟩,T4.o.2.2.2.2⟩
    |true=>
     go_wp2_with fail;refine (zrm zlV zlW b1 b2 S1.ex S2.ex H.ex L.ex w4 T4.o.2.2.1.ex T4.o.2.2.2.1.ex HF.o.2.2.2.2).mono ?_;rintro e w5 ⟨⟨r,rfl,A⟩,q⟩;have T5:=zc (T4.o.later q);have R4:=zc A;clear q A c0 N U Y O X V M I J Z K;obtain⟨c0,N,U,Y,O,X⟩:=zl T5.o.1;obtain⟨V,M,I,J,Z,K⟩:=zl T5.o.2.1;cases r with
     |false=>
      go_wp2;go_ret;exact⟨⟨false,rfl,⟨fun k=>(by cases k),fun k=>(by have:=R4.o.2 (by rw[k]);cases this)⟩⟩,T5.o.2.2.2.2⟩
     |true=>
      go_wp2;go_ret;exact⟨⟨true,rfl,⟨fun _=>zla (R0.o.1 (by simp)) (R1.o.1 (by simp)) (R2.o.1 (by simp)) (R3.o.1 (by simp)) (R4.o.1 (by simp)),fun _=>rfl⟩⟩,T5.o.2.2.2.2⟩
theorem Tryz.infoByte:(prog.info? 5).map (fun i=>(i.zero,i.size,i.bytes))=some (some (.int .u8 0),1,1):=by kernel_rfl
theorem zlY (K:0<=u) (L:u<=18446744073709551615):
  Calls prog 270 #[.int .u64 u] V fun e w'=>e= .returned (.int .i64 (dcn u))/\w'=V:=by
 have H:=zdS u K L;have M:dcn u<=20:=H.2.1;have J:1<=dcn u:=H.1;clear H;go_enter func270,ntmps270;go_wp2;go_loop [0,3] (fun a c=>∃k:Nat,k+1<=dcn u/\a= .int .u64 (u/10^k)/\c= .int .i64 ((k:Int)+1)) (fun a _=>(intOf a).toNat)
 case atStart=>exact⟨0,J,by simp,rfl⟩
 case round=>
  obtain⟨k,N,rfl,rfl⟩:=hrel;have O:=zfn u k K;have A:=zp8 u K L k;by_cases q:10<=u/10^k
  ·have I:=A.1 q;clear A;go_wp2;go_round
   case rel=>exact⟨k+1,by omega,by rw[zfm],by go_num⟩
   case measure=>simp[intOf];omega
  ·have I: ¬(k+1<dcn u):=fun h=>q (A.2 h);clear A;go_wp2;go_ret;exact⟨zbP (by omega),rfl⟩
theorem zsZ (m:0<=u) (h1:u<=9223372036854775807):
  Calls prog 257 #[.int .i64 u] V fun e w'=>e= .returned (.string (strOfNums (dgk u (dcn u))))/\Bw V w':=by
 obtain⟨i0,hi,L,N,O⟩:=info_parts Tryz.infoByte;have K:=zdS u m (by omega);have aa:dcn u<=20:=K.2.1;have ab:1<=dcn u:=K.1;clear K;go_enter func257,ntmps257;go_wp2_with (first|(go_at_call 270;refine (zlY _ _ (by omega) (by omega)).mono ?_;rintro e w' ⟨rfl,rfl⟩)|(at_make;refine wpList_make_full _ rfl _ _ 146 rfl w'.heap.size 5 i0 (.int .u8 0) 1 underlying146 hi L N _ _ _ _ (dcn u) rfl rfl (by omega) (by omega) ?b2 ?b3 ?b4 ?_))
 case b2=>rw[O];omega
 case b3=>unfold maxLen;omega
 case b4=>exact Nat.le_refl _
 intro w1 q A;have I:=(Below.refl w'.heap.size w').grown A (Nat.le_refl _) (by intro k X;cases X);rw[toList_madeCells_one] at q;clear A;go_wp2;go_loopw [3,7,21] (fun r _ i wr=>∃k:Nat,k<=dcn u/\i= .int .i64 k/\r= .int .u64 (u/10^k)/\zde wr w'.heap.size 5 (.slice (some ⟨w'.heap.size,0,none⟩) (dcn u) (dcn u)) (dcn u) (zdf (dgk u (dcn u)) k)/\Below w'.heap.size w' wr) (fun _ _ i _=>dcn u-(intOf i).toNat)
 case atStart=>exact⟨0,by omega,rfl,by simp,by unfold zde;rw[zkp,zcU,List.map_replicate];exact q,I⟩
 case round=>
  obtain⟨k,X,rfl,rfl,h,H⟩:=hrel;clear q I;have hb:=zfn u k m;by_cases J:k<dcn u
  ·obtain⟨v,hv⟩:=ziq h (dcn u-1-k) (by omega);have hf:=zir h (dcn u-1-k);have Y:=zio h (dcn u-1-k) (48+u/10^k%10);have U:=zkq (dgk u (dcn u)) k (48+u/10^k%10) (by rw[zcU];exact J) (by rw[zcU];exact zkz u _ k J);rw[zcU] at U;rw[U] at Y;clear U h;go_wp2;go_roundw
   case rel=>exact⟨k+1,by omega,by go_num,by rw[zfm],Y,H.setCell (Nat.le_refl _) _⟩
   case measure=>simp[intOf];omega
  ·have M:=zp9 (dgk u (dcn u));rw[zcU] at M;rw[show k=dcn u from by omega,M] at h;clear M;have Z:=zko (P:=prog) (src:=146) (dst:=9) underlying146 underlying5 underlying9 h;go_wp2;go_ret;exact⟨rfl,H⟩
theorem zta (q:0<u) (h:u<=9223372036854775808):IntKind.u64.wrap (-IntKind.u64.wrap (-u))=u:=by
 rw[IntKind.wrap_u64,IntKind.wrap_u64];omega
theorem ztb (h0:0<u) (h1:u<=9223372036854775808):
  Calls prog 257 #[.int .i64 (-u)] V fun e w'=>e= .returned (.string (strOfNums (45::dgk u (dcn u))))/\Bw V w':=by
 obtain⟨i0,hi,N,U,n⟩:=info_parts Tryz.infoByte;have L:=zdS u (by omega) (by omega);have ab:dcn u<=20:=L.2.1;have ac:1<=dcn u:=L.1;clear L;have hu:=zta u h0 h1;go_enter func257,ntmps257;go_wp2_with (first|(go_at_call 270;refine (zlY _ _ (by omega) (by omega)).mono ?_;rintro e w' ⟨rfl,rfl⟩)|(at_make;refine wpList_make_full _ rfl _ _ 146 rfl w'.heap.size 5 i0 (.int .u8 0) 1 underlying146 hi N U _ _ _ _ (dcn u+1) rfl rfl (by omega) (by omega) ?b2 ?b3 ?b4 ?_))
 case b2=>rw[n];omega
 case b3=>unfold maxLen;omega
 case b4=>exact Nat.le_refl _
 intro w1 q A;have J:=(Below.refl w'.heap.size w').grown A (Nat.le_refl _) (by intro k Z;cases Z);rw[toList_madeCells_one] at q;clear A;have I:(45::dgk u (dcn u)).length=dcn u+1:=by rw[List.length_cons,zcU]
 have X:Hid ((45::dgk u (dcn u)).length=dcn u+1):=I;clear I;go_wp2;go_loopw [3,7,21] (fun r _ i wr=>∃k:Nat,k<=dcn u/\i= .int .i64 k/\r= .int .u64 (u/10^k)/\zde wr w'.heap.size 5 (.slice (some ⟨w'.heap.size,0,none⟩) (dcn u+1) (dcn u+1)) (dcn u+1) (zdf (45::dgk u (dcn u)) k)/\Below w'.heap.size w' wr) (fun _ _ i _=>dcn u-(intOf i).toNat)
 case atStart=>exact⟨0,by omega,rfl,by simp,by unfold zde;rw[zkp,X.o,List.map_replicate];exact q,J⟩
 case round=>
  obtain⟨k,Z,rfl,rfl,h,H⟩:=hrel;clear q J hu;have hb:=zfn u k (by omega);by_cases M:k<dcn u
  ·obtain⟨v,hv⟩:=ziq h (dcn u-k) (by omega);have hf:=zir h (dcn u-k);have K:=zio h (dcn u-k) (48+u/10^k%10);have Y:=zkq (45::dgk u (dcn u)) k (48+u/10^k%10) (by rw[X.o];omega) (zpB [45] u (dcn u) k M);rw[X.o,show dcn u+1-1-k=dcn u-k from by omega] at Y;rw[Y] at K;clear Y h;go_wp2;go_roundw
   case rel=>exact⟨k+1,by omega,by go_num,by rw[zfm],K,H.setCell (Nat.le_refl _) _⟩
   case measure=>simp[intOf];omega
  ·have O:=zpA 45 (dgk u (dcn u));rw[zcU] at O;rw[show k=dcn u from by omega] at h;obtain⟨v,hv⟩:=ziq h 0 (by omega);have hf:=zir h 0;have K:=zio h 0 45;rw[O] at K;clear O h;have aa:=zko (P:=prog) (src:=146) (dst:=9) underlying146 underlying5 underlying9 K;go_wp2;go_ret;exact⟨rfl,H.setCell (Nat.le_refl _) _⟩
theorem ztc (q: -9223372036854775808<=u/\u<=9223372036854775807):
  Calls prog 257 #[.int .i64 u] V fun e w'=>e= .returned (.string (strOfNums (zck u)))/\Bw V w':=by
 by_cases h:0<=u
 ·rw[ziu h];exact zsZ u V h q.2
 ·obtain⟨m,rfl⟩: ∃m,u= -m:=⟨-u,by omega⟩;rw[zit (by omega),Int.neg_neg];exact ztb m V (by omega) (by omega)
theorem neg_tmod (h:0<=u):(-u).tmod 10= -(u%10):=by rw[Int.neg_tmod,Int.tmod_eq_emod_of_nonneg h]
theorem neg_tdiv (h:0<=u):(-u).tdiv 10= -(u/10):=by rw[Int.neg_tdiv,Int.tdiv_eq_ediv_of_nonneg h]
theorem ztd (Z:0<u) (h1:u<=9223372036854775807):
  Calls prog 170 #[.int .i64 u] V fun e w'=>e= .returned (.string (strOfNums (dgk u (dcn u))))/\Bw V w':=by
 have I:=zdS u (by omega) (by omega);have X:dcn u<=20:=I.2.1;have Y:1<=dcn u:=I.1;have N:(u==0)=false:=by simp;omega
 have M: ¬u<0:=by omega
 clear I;go_enter func170,ntmps170;go_wp2;go_loopw [0,3,5] (fun a o _ wr=>∃k:Nat,k<=dcn u/\a= .int .i64 (u/10^k)/\o= .string (strOfNums (dgk u k))/\Bw V wr) (fun a _ _ _=>(intOf a).toNat)
 case atStart=>exact⟨0,by omega,by simp,rfl,Below.refl _ _⟩
 case round=>
  obtain⟨k,hk,rfl,rfl,q⟩:=hrel;have hb:=zfn u k (by omega);have H:=zky u (by omega) (by omega) k;have U:(strOfNums (dgk u k)).size<=20:=by rw[strOfNums_size,zcU];omega
  by_cases A:u/10^k=0
  ·have J: ¬(k<dcn u):=fun h=>H.2 h A;have K:(u/10^k !=0)=false:=by simpa using A
   clear H A;go_wp2;go_ret;exact⟨za9 (by rw[show dcn u=k from by omega]),q⟩
  ·have J:=H.1 A;have K:(u/10^k !=0)=true:=by simpa using A
   have m:0<u/10^k:=by omega
   clear H A;have O:=fun (V:World) (x:Int)=>zin (P:=prog) (src:=146) (dst:=9) underlying146 underlying5 underlying9 V x;have L:=fun x=>strOfNums_size [x];go_wp2;go_roundw
   case rel=>exact⟨k+1,by omega,by rw[zfm],by rw[zgL];rfl,q.alloc q.size _⟩
   case measure=>simp[intOf];omega
theorem zte (h0:0<u) (h1:u<=9223372036854775808):
  Calls prog 170 #[.int .i64 (-u)] V fun e w'=>e= .returned (.string (strOfNums (45::dgk u (dcn u))))/\Bw V w':=by
 have H:=zdS u (by omega) (by omega);have Y:dcn u<=20:=H.2.1;have Z:1<=dcn u:=H.1;have O:(-u==0)=false:=by simp;omega
 clear H;go_enter func170,ntmps170;go_wp2;go_loopw [0,3,5] (fun a o _ wr=>∃k:Nat,k<=dcn u/\a= .int .i64 (-(u/10^k))/\o= .string (strOfNums (dgk u k))/\Bw V wr) (fun a _ _ _=>(-(intOf a)).toNat)
 case atStart=>exact⟨0,by omega,by simp,rfl,Below.refl _ _⟩
 case round=>
  obtain⟨k,hk,rfl,rfl,q⟩:=hrel;have L:=zfn u k (by omega);have I:=zky u (by omega) (by omega) k;have X:(strOfNums (dgk u k)).size<=20:=by rw[strOfNums_size,zcU];omega
  by_cases A:u/10^k=0
  ·have J: ¬(k<dcn u):=fun h=>I.2 h A;have K:(-(u/10^k) !=0)=false:=by simpa using A
   have M:(strOfNums [45]).size=1:=strOfNums_size [45];clear I A;go_wp2;go_ret;exact⟨za9 (by rw[show dcn u=k from by omega];exact zgL 45 _),q⟩
  ·have J:=I.1 A;have K:(-(u/10^k) !=0)=true:=by simpa using A
   have n:0<u/10^k:=by omega
   clear I A;have e1:=neg_tmod (u/10^k) L.1;have e2:=neg_tdiv (u/10^k) L.1;have U:=fun (V:World) (x:Int)=>zin (P:=prog) (src:=146) (dst:=9) underlying146 underlying5 underlying9 V x;have N:=fun x=>strOfNums_size [x];by_cases H:0<u/10^k%10
   ·go_wp2;go_roundw
    case rel=>exact⟨k+1,by omega,by rw[zfm],by rw[zgL];rfl,q.alloc q.size _⟩
    case measure=>simp[intOf];omega
   ·go_wp2;go_roundw
    case rel=>exact⟨k+1,by omega,by rw[zfm],by rw[zgL,show 48+ -(u/10^k%10)=48+u/10^k%10 from by omega];rfl,q.alloc q.size _⟩
    case measure=>simp[intOf];omega
theorem ztf (H: -9223372036854775808<=u/\u<=9223372036854775807):
  Calls prog 170 #[.int .i64 u] V fun e w'=>e= .returned (.string (strOfNums (zck u)))/\Bw V w':=by
 by_cases h:0<u
 ·rw[ziu (by omega)];exact ztd u V h H.2
 ·by_cases A:u=0
  ·subst A;have q:Hid (zck 0=[48]):=by show zck 0=[48];decide
   go_enter func170,ntmps170;go_wp2;go_ret;exact⟨za9 (by rw[q.o];rfl),Below.refl _ _⟩
  ·obtain⟨m,rfl⟩: ∃m,u= -m:=⟨-u,by omega⟩;rw[zit (by omega),Int.neg_neg];exact zte m V (by omega) (by omega)
abbrev bxB (S:Sv) (m:Md) (x:Nat) : Array Value:=#[.slice S.rq.a m.rq.length S.rq.cap,.slice S.im.a m.im.length S.im.cap,.slice S.ep.a m.ep.length S.ep.cap,.slice S.st.a m.st.length S.st.cap,.slice (some ⟨x,0,none⟩) m.ex.length S.ex.cap]
set_option maxHeartbeats 12800000
variable (g:Nat) (S:Sv) (w:Md) (c d:Nat) (z u W C:Int) (s t:BA0) (V:World)
theorem zlZ:Calls prog 133 #[.int .i64 z] V fun e w'=>e= .returned (.bool (zag z))/\w'=V:=by
 cases q:(z==6) with
 |true=>
  have h:Hid (zag z=true):=by show _=_;rw[zag,q];rfl
  go_enter func133,ntmps133;go_wp2;go_ret;exact⟨zk h.o.symm,rfl⟩
 |false=>
  cases A:(z==7) with
  |true=>
   have h:Hid (zag z=true):=by show _=_;rw[zag,q,A];rfl
   go_enter func133,ntmps133;go_wp2;go_ret;exact⟨zk h.o.symm,rfl⟩
  |false=>
   have h:Hid (zag z=(z==8)):=by show _=_;rw[zag,q,A];simp
   go_enter func133,ntmps133;go_wp2;go_ret;exact⟨zk h.o.symm,rfl⟩
theorem zjb (base:Nat) (S:Sv) (m:Md) (i:Nat) (w:World) (h:OwnMd w base S m) (I:i<m.ex.length):
  Calls prog 172 #[zo S m,.int .i64 i] w fun e w'=>e= .returned (.bool (zY (m.ex.getD i zj).kind))/\Bw w w':=by
 obtain⟨g,hg,hlt,c0,-,-,-,-,-⟩:=h.expr I;have H:(i:Int)<(m.ex.length:Int):=by omega
 unfold zo;rw[hg];generalize (m.ex.getD i zj).kind=k at c0 ⊢;clear h hg;cases A:(k==6) with
 |true=>
  have q:Hid (zY k=true):=by show _=_;rw[zY,A];rfl
  go_enter func172,ntmps172;go_wp2;go_ret;exact⟨zk q.o.symm,bA0⟩
 |false=>
  have q:Hid (zY k=(k==7)):=by show _=_;rw[zY,A];simp
  go_enter func172,ntmps172;go_wp2;go_ret;exact⟨zk q.o.symm,bA0⟩
def zf5 (base:Nat) (S:Sv) (m:Md) (n:Nat):Prop:=∀(i:Nat) (w:World),i<n->i<m.ex.length->OwnMd w base S m->wt m.ex i<=1099511627776->
 Calls prog 135 #[zo S m,.int .i64 i] w fun e w'=>e= .returned (.string (prX m.ex i))/\Bw w w'
theorem zh4 (b:Bool) (x:World) (K:zf5 g S w c) (M:d<c) (N:d<w.ex.length) (h:OwnMd x g S w) (H:wt w.ex d<=1099511627776):
  Calls prog 171 #[zo S w,.int .i64 d,.bool b] x fun e w'=>e= .returned (.string (zP b (prX w.ex d)))/\Bw x w':=by
 have U:=zc K;have L:=zc h;have V:=zc H;unfold wt at H;clear K h;unfold zo;cases b with
 |true=>
  have A:Hid (zP true (prX w.ex d)=zu++prX w.ex d++zaF):=rfl;go_enter func171,ntmps171;go_wp2_with fail;refine (U.o d _ M N (L.o.alloc _) V.o).mono ?_;rintro e I ⟨rfl,q⟩;have J:Hid (Bw x I):=(bA0).trans (q.mono (by rw[zh];omega));clear q;generalize O:prX w.ex d=t at H A ⊢;have X:=zc O;clear O;go_wp2;go_ret;exact⟨za9 (by rw[X.o];exact A.o.symm),J.o⟩
 |false=>
  have A:Hid (zP false (prX w.ex d)=prX w.ex d):=rfl;go_enter func171,ntmps171;go_wp2_with fail;refine (U.o d _ M N (L.o.alloc _) V.o).mono ?_;rintro e I ⟨rfl,q⟩;have J:Hid (Bw x I):=(bA0).trans (q.mono (by rw[zh];omega));clear q;go_wp2;go_ret;exact⟨za9 A.o.symm,J.o⟩
theorem ztg (x:World) (q:S.ex.a=some ⟨g,0,none⟩) (X:c<w.ex.length) (J:g<x.heap.size) (V:x.cell? ⟨g,c*6,none⟩=some (.int .i64 z)) (Y:x.cell? ⟨g,c*6+1,none⟩=some (.int .i64 u)) (U:x.cell? ⟨g,c*6+2,none⟩=some (.string s)) (c3:x.cell? ⟨g,c*6+3,none⟩=some (.string t)) (c4:x.cell? ⟨g,c*6+4,none⟩=some (.int .i64 W)) (c5:x.cell? ⟨g,c*6+5,none⟩=some (.int .i64 C)) (O:(z==1)=true) (A: -9223372036854775808<=u/\u<=9223372036854775807):
  Calls prog 135 #[zo S w,.int .i64 c] x fun e w'=>e= .returned (.string (strOfNums (zck u)))/\Bw x w':=by
 have M:(c:Int)<(w.ex.length:Int):=by omega
 unfold zo;rw[q];clear q;go_enter func135,ntmps135;go_wp2_with fail;refine (ztf u _ A).mono ?_;rintro e I ⟨rfl,H⟩;have L:Hid (Bw x I):=(zbq x _ _).trans (H.mono (by rw[zh,zh];omega));clear H;go_wp2;go_ret;exact⟨rfl,L.o⟩
theorem zth (x:World) (h:S.ex.a=some ⟨g,0,none⟩) (O:c<w.ex.length) (A:g<x.heap.size) (N:x.cell? ⟨g,c*6,none⟩=some (.int .i64 z)) (U:x.cell? ⟨g,c*6+1,none⟩=some (.int .i64 u)) (L:x.cell? ⟨g,c*6+2,none⟩=some (.string s)) (c3:x.cell? ⟨g,c*6+3,none⟩=some (.string t)) (c4:x.cell? ⟨g,c*6+4,none⟩=some (.int .i64 W)) (c5:x.cell? ⟨g,c*6+5,none⟩=some (.int .i64 C)) (K:(z==1)=false) (M:(z==2)=true):
  Calls prog 135 #[zo S w,.int .i64 c] x fun e w'=>e= .returned (.string (s))/\Bw x w':=by
 have I:(c:Int)<(w.ex.length:Int):=by omega
 unfold zo;rw[h];clear h;go_enter func135,ntmps135;go_wp2;go_ret;exact⟨rfl,(bA0).alloc (by show _<=(x.heap.push _).size;simp) _⟩
theorem zti (x:World) (h:S.ex.a=some ⟨g,0,none⟩) (Z:c<w.ex.length) (I:g<x.heap.size) (Y:x.cell? ⟨g,c*6,none⟩=some (.int .i64 z)) (X:x.cell? ⟨g,c*6+1,none⟩=some (.int .i64 u)) (O:x.cell? ⟨g,c*6+2,none⟩=some (.string s)) (c3:x.cell? ⟨g,c*6+3,none⟩=some (.string t)) (c4:x.cell? ⟨g,c*6+4,none⟩=some (.int .i64 W)) (c5:x.cell? ⟨g,c*6+5,none⟩=some (.int .i64 C)) (N:(z==1)=false) (U:(z==2)=false) (V:(z==3)=true) (q:(s++cParens).size<=1099511627776):
  Calls prog 135 #[zo S w,.int .i64 c] x fun e w'=>e= .returned (.string (s++cParens))/\Bw x w':=by
 have L:(c:Int)<(w.ex.length:Int):=by omega
 unfold zo;rw[h];clear h;simp only[sA] at q;have H:cParens.size=2:=rfl;have M:s.size<=1099511627776:=by omega
 clear q H;go_enter func135,ntmps135;go_wp2;go_ret;exact⟨rfl,(bA0).alloc (by show _<=(x.heap.push _).size;simp) _⟩
theorem ztj (x:World) (q:S.ex.a=some ⟨g,0,none⟩) (Y:c<w.ex.length) (J:g<x.heap.size) (c0:x.cell? ⟨g,c*6,none⟩=some (.int .i64 z)) (V:x.cell? ⟨g,c*6+1,none⟩=some (.int .i64 u)) (X:x.cell? ⟨g,c*6+2,none⟩=some (.string s)) (c3:x.cell? ⟨g,c*6+3,none⟩=some (.string t)) (c4:x.cell? ⟨g,c*6+4,none⟩=some (.int .i64 W)) (c5:x.cell? ⟨g,c*6+5,none⟩=some (.int .i64 C)) (O:(z==1)=false) (Z:(z==2)=false) (U:(z==3)=false) (k4:(z==4)=true) (h:(s++cPoint++t).size<=1099511627776):
  Calls prog 135 #[zo S w,.int .i64 c] x fun e w'=>e= .returned (.string (s++cPoint++t))/\Bw x w':=by
 have L:(c:Int)<(w.ex.length:Int):=by omega
 unfold zo;rw[q];clear q;simp only[sA] at h;have I:cPoint.size=1:=rfl;have M:s.size<=1099511627776:=by omega
 have N:t.size<=1099511627776:=by omega
 clear h I;go_enter func135,ntmps135;go_wp2;go_ret;exact⟨rfl,(bA0).alloc (by show _<=(x.heap.push _).size;simp) _⟩
theorem ztk (x:World) (q:S.ex.a=some ⟨g,0,none⟩) (hi:c<w.ex.length) (K:g<x.heap.size) (c0:x.cell? ⟨g,c*6,none⟩=some (.int .i64 z)) (Y:x.cell? ⟨g,c*6+1,none⟩=some (.int .i64 u)) (Z:x.cell? ⟨g,c*6+2,none⟩=some (.string s)) (c3:x.cell? ⟨g,c*6+3,none⟩=some (.string t)) (c4:x.cell? ⟨g,c*6+4,none⟩=some (.int .i64 W)) (c5:x.cell? ⟨g,c*6+5,none⟩=some (.int .i64 C)) (U:(z==1)=false) (k2:(z==2)=false) (V:(z==3)=false) (k4:(z==4)=false) (X:(z==5)=true) (h:(s++cPoint++t++cParens).size<=1099511627776):
  Calls prog 135 #[zo S w,.int .i64 c] x fun e w'=>e= .returned (.string (s++cPoint++t++cParens))/\Bw x w':=by
 have M:(c:Int)<(w.ex.length:Int):=by omega
 unfold zo;rw[q];clear q;simp only[sA] at h;have J:cParens.size=2:=rfl;have I:cPoint.size=1:=rfl;have N:s.size<=1099511627776:=by omega
 have O:t.size<=1099511627776:=by omega
 clear h J I;go_enter func135,ntmps135;go_wp2;go_ret;exact⟨rfl,(bA0).alloc (by show _<=(x.heap.push _).size;simp) _⟩
theorem ztl (x:World) (h:S.ex.a=some ⟨g,0,none⟩) (Y:c<w.ex.length) (q:g<x.heap.size) (c0:x.cell? ⟨g,c*6,none⟩=some (.int .i64 z)) (U:x.cell? ⟨g,c*6+1,none⟩=some (.int .i64 u)) (V:x.cell? ⟨g,c*6+2,none⟩=some (.string s)) (c3:x.cell? ⟨g,c*6+3,none⟩=some (.string t)) (c4:x.cell? ⟨g,c*6+4,none⟩=some (.int .i64 W)) (c5:x.cell? ⟨g,c*6+5,none⟩=some (.int .i64 C)) (K:(z==1)=false) (Z:(z==2)=false) (N:(z==3)=false) (k4:(z==4)=false) (O:(z==5)=false) (X:(z==6)=false) (M:(z==7)=false) (L:(z==8)=false):
  Calls prog 135 #[zo S w,.int .i64 c] x fun e w'=>e= .returned (.string (sNone))/\Bw x w':=by
 have I:(c:Int)<(w.ex.length:Int):=by omega
 unfold zo;rw[h];clear h;go_enter func135,ntmps135;go_wp2;go_ret;exact⟨rfl,(bA0).alloc (by show _<=(x.heap.push _).size;simp) _⟩
theorem ztm (x:Nat) (S:Sv) (m:Md) (i A q:Nat) (k I:Int) (H J:BA0) (w:World) (N:S.ex.a=some ⟨x,0,none⟩) (h:OwnMd w g S m) (hi:i<m.ex.length) (ae:x<w.heap.size) (c0:w.cell? ⟨x,i*6,none⟩=some (.int .i64 k)) (c1:w.cell? ⟨x,i*6+1,none⟩=some (.int .i64 I)) (c2:w.cell? ⟨x,i*6+2,none⟩=some (.string H)) (c3:w.cell? ⟨x,i*6+3,none⟩=some (.string J)) (c4:w.cell? ⟨x,i*6+4,none⟩=some (.int .i64 (A:Int))) (c5:w.cell? ⟨x,i*6+5,none⟩=some (.int .i64 (q:Int))) (k1:(k==1)=false) (k2:(k==2)=false) (k3:(k==3)=false) (k4:(k==4)=false) (k5:(k==5)=false) (k6:(k==6)=true) (aa:(prX m.ex A++tPlus++zP (zY (m.ex.getD q zj).kind) (prX m.ex q)).size<=1099511627776) (he:zf5 g S m i) (hl:A<i) (hr:q<i) (ag:wt m.ex A<=1099511627776) (aj:wt m.ex q<=1099511627776):
  Calls prog 135 #[zo S m,.int .i64 i] w fun e w'=>e= .returned (.string (prX m.ex A++tPlus++zP (zY (m.ex.getD q zj).kind) (prX m.ex q)))/\Bw w w':=by
 have an:(i:Int)<(m.ex.length:Int):=by omega
 have HA:Hid (OwnMd ((w.alloc (.cells (bxB S m x) 59)).alloc (.cells #[.int .i64 k,.int .i64 I,.string H,.string J,.int .i64 (A:Int),.int .i64 (q:Int)] 106)) g S m):=(h.alloc _).alloc _;have HE:=zc he;have M:Hid (zo S m= .agg (bxB S m x)):=by show _=_;rw[zo,N]
 have ao:(A:Int)<(m.ex.length:Int):=by omega
 have ap:(q:Int)<(m.ex.length:Int):=by omega
 obtain⟨g2,hg2,-,d0,-,-,-,-,-⟩:=h.expr (i:=q) (by omega);have eg:g2=x:=by have:=hg2.symm.trans N;simpa using this
 rw[eg] at d0;obtain⟨kr,V⟩: ∃kr,(m.ex.getD q zj).kind=kr:=⟨_,rfl⟩;rw[V] at d0;have U:=zc V;obtain⟨tl,Z⟩: ∃tl,prX m.ex A=tl:=⟨_,rfl⟩;obtain⟨tr,ac⟩: ∃tr,zP (zY (m.ex.getD q zj).kind) (prX m.ex q)=tr:=⟨_,rfl⟩;rw[Z,ac] at aa;have ad:=zc Z;have ab:=zc ac;have cL: ∀d K,Calls prog 135 #[.agg (bxB S m x),.int .i64 (A:Int)] (grow (redrawn ((w.alloc (.cells (bxB S m x) 59)).alloc (.cells #[.int .i64 k,.int .i64 I,.string H,.string J,.int .i64 (A:Int),.int .i64 (q:Int)] 106)) d) K) fun e L=>e= .returned (.string tl)/\∃p:Regrown,L=grow (redrawn ((w.alloc (.cells (bxB S m x) 59)).alloc (.cells #[.int .i64 k,.int .i64 I,.string H,.string J,.int .i64 (A:Int),.int .i64 (q:Int)] 106)) p.d) p.os:=fun d K=>Calls.regrown_of (by rw[<-M.o,<-ad.o];exact HE.o A _ (by omega) (by omega) (HA.o.later (below_regrown _ d K)) ag);have cS: ∀d K,Calls prog 172 #[.agg (bxB S m x),.int .i64 (q:Int)] (grow (redrawn ((w.alloc (.cells (bxB S m x) 59)).alloc (.cells #[.int .i64 k,.int .i64 I,.string H,.string J,.int .i64 (A:Int),.int .i64 (q:Int)] 106)) d) K) fun e L=>e= .returned (.bool (zY kr))/\∃p:Regrown,L=grow (redrawn ((w.alloc (.cells (bxB S m x) 59)).alloc (.cells #[.int .i64 k,.int .i64 I,.string H,.string J,.int .i64 (A:Int),.int .i64 (q:Int)] 106)) p.d) p.os:=fun d K=>Calls.regrown_of (by rw[<-M.o,<-U.o];exact zjb g S m q _ (HA.o.later (below_regrown _ d K)) (by omega));have cR: ∀d K,Calls prog 171 #[.agg (bxB S m x),.int .i64 (q:Int),.bool (zY kr)] (grow (redrawn ((w.alloc (.cells (bxB S m x) 59)).alloc (.cells #[.int .i64 k,.int .i64 I,.string H,.string J,.int .i64 (A:Int),.int .i64 (q:Int)] 106)) d) K) fun e L=>e= .returned (.string tr)/\∃p:Regrown,L=grow (redrawn ((w.alloc (.cells (bxB S m x) 59)).alloc (.cells #[.int .i64 k,.int .i64 I,.string H,.string J,.int .i64 (A:Int),.int .i64 (q:Int)] 106)) p.d) p.os:=fun d K=>Calls.regrown_of (by rw[<-M.o,<-ab.o,U.o];exact zh4 g S m i q _ _ HE.o (by omega) (by omega) (HA.o.later (below_regrown _ d K)) aj);have X:Hid (Six ((w.alloc (.cells (bxB S m x) 59)).alloc (.cells #[.int .i64 k,.int .i64 I,.string H,.string J,.int .i64 (A:Int),.int .i64 (q:Int)] 106)) (w.heap.size+1) (.int .i64 k) (.int .i64 I) (.string H) (.string J) (.int .i64 (A:Int)) (.int .i64 (q:Int))):=zD (new2 w _ _);have Y:=zc (zl (zcV (o':=.cells #[.int .i64 k,.int .i64 I,.string H,.string J,.int .i64 (A:Int),.int .i64 (q:Int)] 106) (hN0 w (.cells (bxB S m x) 59))));have D0:Hid (((w.alloc (.cells (bxB S m x) 59)).alloc (.cells #[.int .i64 k,.int .i64 I,.string H,.string J,.int .i64 (A:Int),.int .i64 (q:Int)] 106)).cell? ⟨x,q*6,none⟩=some (.int .i64 kr)):=by show _=_;rw[World.cell?_alloc_past _ _ _ (by rw[zh];omega),World.cell?_alloc_past _ _ _ ae];exact d0
 simp only[sA] at aa;have ah:tPlus.size=3:=rfl;have al:tl.size<=1099511627776:=by omega
 have am:tr.size<=1099511627776:=by omega
 have HV:Hid ((prX m.ex A++tPlus++zP (zY (m.ex.getD q zj).kind) (prX m.ex q))=tl++tPlus++tr):=by show _=_;rw[ad.o,ab.o]
 unfold zo;rw[N];clear N h HA HE M ad ab Z ac V U hg2 he aa ah d0 eg;go_enter func135,ntmps135;go_wp2_with fail;have x0:=cR0 X.o.c0;have x4:=cR0 X.o.c4;have x5:=cR0 X.o.c5;have y0:=cR0 Y.o.1;have y1:=cR0 Y.o.2.1;have y2:=cR0 Y.o.2.2.1;have y3:=cR0 Y.o.2.2.2.1;have y4:=cR0 Y.o.2.2.2.2.1;have e0:=cR0 D0.o;refine wp_region_quiet_below (by kernel_rfl) (by kernel_rfl) ?_
 repeat (go_big_quiet_step (first|with_reducible exact cL _ _|with_reducible exact cS _ _|with_reducible exact cR _ _))
 refine wpQuiet_nil ?_;intro w1 af;obtain⟨⟨dq,ak⟩,O⟩:=af;have ai:Hid (Bw w w1):=by show Below _ _ _;rw[O];exact (zbq w _ _).trans ((below_regrown _ _ _).mono (by rw[zh,zh];omega))
 clear O;go_wp2;go_ret;exact⟨za9 HV.o.symm,ai.o⟩
theorem ztn (x:Nat) (S:Sv) (m:Md) (i A q:Nat) (k I:Int) (H J:BA0) (w:World) (N:S.ex.a=some ⟨x,0,none⟩) (h:OwnMd w g S m) (hi:i<m.ex.length) (ae:x<w.heap.size) (c0:w.cell? ⟨x,i*6,none⟩=some (.int .i64 k)) (c1:w.cell? ⟨x,i*6+1,none⟩=some (.int .i64 I)) (c2:w.cell? ⟨x,i*6+2,none⟩=some (.string H)) (c3:w.cell? ⟨x,i*6+3,none⟩=some (.string J)) (c4:w.cell? ⟨x,i*6+4,none⟩=some (.int .i64 (A:Int))) (c5:w.cell? ⟨x,i*6+5,none⟩=some (.int .i64 (q:Int))) (k1:(k==1)=false) (k2:(k==2)=false) (k3:(k==3)=false) (k4:(k==4)=false) (k5:(k==5)=false) (k6:(k==6)=false) (k7:(k==7)=true) (aa:(prX m.ex A++tMinus++zP (zY (m.ex.getD q zj).kind) (prX m.ex q)).size<=1099511627776) (he:zf5 g S m i) (hl:A<i) (hr:q<i) (ag:wt m.ex A<=1099511627776) (aj:wt m.ex q<=1099511627776):
  Calls prog 135 #[zo S m,.int .i64 i] w fun e w'=>e= .returned (.string (prX m.ex A++tMinus++zP (zY (m.ex.getD q zj).kind) (prX m.ex q)))/\Bw w w':=by
 have an:(i:Int)<(m.ex.length:Int):=by omega
 have HA:Hid (OwnMd ((w.alloc (.cells (bxB S m x) 59)).alloc (.cells #[.int .i64 k,.int .i64 I,.string H,.string J,.int .i64 (A:Int),.int .i64 (q:Int)] 106)) g S m):=(h.alloc _).alloc _;have HE:=zc he;have M:Hid (zo S m= .agg (bxB S m x)):=by show _=_;rw[zo,N]
 have ao:(A:Int)<(m.ex.length:Int):=by omega
 have ap:(q:Int)<(m.ex.length:Int):=by omega
 obtain⟨g2,hg2,-,d0,-,-,-,-,-⟩:=h.expr (i:=q) (by omega);have eg:g2=x:=by have:=hg2.symm.trans N;simpa using this
 rw[eg] at d0;obtain⟨kr,V⟩: ∃kr,(m.ex.getD q zj).kind=kr:=⟨_,rfl⟩;rw[V] at d0;have U:=zc V;obtain⟨tl,Z⟩: ∃tl,prX m.ex A=tl:=⟨_,rfl⟩;obtain⟨tr,ac⟩: ∃tr,zP (zY (m.ex.getD q zj).kind) (prX m.ex q)=tr:=⟨_,rfl⟩;rw[Z,ac] at aa;have ad:=zc Z;have ab:=zc ac;have cL: ∀d K,Calls prog 135 #[.agg (bxB S m x),.int .i64 (A:Int)] (grow (redrawn ((w.alloc (.cells (bxB S m x) 59)).alloc (.cells #[.int .i64 k,.int .i64 I,.string H,.string J,.int .i64 (A:Int),.int .i64 (q:Int)] 106)) d) K) fun e L=>e= .returned (.string tl)/\∃p:Regrown,L=grow (redrawn ((w.alloc (.cells (bxB S m x) 59)).alloc (.cells #[.int .i64 k,.int .i64 I,.string H,.string J,.int .i64 (A:Int),.int .i64 (q:Int)] 106)) p.d) p.os:=fun d K=>Calls.regrown_of (by rw[<-M.o,<-ad.o];exact HE.o A _ (by omega) (by omega) (HA.o.later (below_regrown _ d K)) ag);have cS: ∀d K,Calls prog 172 #[.agg (bxB S m x),.int .i64 (q:Int)] (grow (redrawn ((w.alloc (.cells (bxB S m x) 59)).alloc (.cells #[.int .i64 k,.int .i64 I,.string H,.string J,.int .i64 (A:Int),.int .i64 (q:Int)] 106)) d) K) fun e L=>e= .returned (.bool (zY kr))/\∃p:Regrown,L=grow (redrawn ((w.alloc (.cells (bxB S m x) 59)).alloc (.cells #[.int .i64 k,.int .i64 I,.string H,.string J,.int .i64 (A:Int),.int .i64 (q:Int)] 106)) p.d) p.os:=fun d K=>Calls.regrown_of (by rw[<-M.o,<-U.o];exact zjb g S m q _ (HA.o.later (below_regrown _ d K)) (by omega));have cR: ∀d K,Calls prog 171 #[.agg (bxB S m x),.int .i64 (q:Int),.bool (zY kr)] (grow (redrawn ((w.alloc (.cells (bxB S m x) 59)).alloc (.cells #[.int .i64 k,.int .i64 I,.string H,.string J,.int .i64 (A:Int),.int .i64 (q:Int)] 106)) d) K) fun e L=>e= .returned (.string tr)/\∃p:Regrown,L=grow (redrawn ((w.alloc (.cells (bxB S m x) 59)).alloc (.cells #[.int .i64 k,.int .i64 I,.string H,.string J,.int .i64 (A:Int),.int .i64 (q:Int)] 106)) p.d) p.os:=fun d K=>Calls.regrown_of (by rw[<-M.o,<-ab.o,U.o];exact zh4 g S m i q _ _ HE.o (by omega) (by omega) (HA.o.later (below_regrown _ d K)) aj);have X:Hid (Six ((w.alloc (.cells (bxB S m x) 59)).alloc (.cells #[.int .i64 k,.int .i64 I,.string H,.string J,.int .i64 (A:Int),.int .i64 (q:Int)] 106)) (w.heap.size+1) (.int .i64 k) (.int .i64 I) (.string H) (.string J) (.int .i64 (A:Int)) (.int .i64 (q:Int))):=zD (new2 w _ _);have Y:=zc (zl (zcV (o':=.cells #[.int .i64 k,.int .i64 I,.string H,.string J,.int .i64 (A:Int),.int .i64 (q:Int)] 106) (hN0 w (.cells (bxB S m x) 59))));have D0:Hid (((w.alloc (.cells (bxB S m x) 59)).alloc (.cells #[.int .i64 k,.int .i64 I,.string H,.string J,.int .i64 (A:Int),.int .i64 (q:Int)] 106)).cell? ⟨x,q*6,none⟩=some (.int .i64 kr)):=by show _=_;rw[World.cell?_alloc_past _ _ _ (by rw[zh];omega),World.cell?_alloc_past _ _ _ ae];exact d0
 simp only[sA] at aa;have ah:tMinus.size=3:=rfl;have al:tl.size<=1099511627776:=by omega
 have am:tr.size<=1099511627776:=by omega
 have HV:Hid ((prX m.ex A++tMinus++zP (zY (m.ex.getD q zj).kind) (prX m.ex q))=tl++tMinus++tr):=by show _=_;rw[ad.o,ab.o]
 unfold zo;rw[N];clear N h HA HE M ad ab Z ac V U hg2 he aa ah d0 eg;go_enter func135,ntmps135;go_wp2_with fail;have x0:=cR0 X.o.c0;have x4:=cR0 X.o.c4;have x5:=cR0 X.o.c5;have y0:=cR0 Y.o.1;have y1:=cR0 Y.o.2.1;have y2:=cR0 Y.o.2.2.1;have y3:=cR0 Y.o.2.2.2.1;have y4:=cR0 Y.o.2.2.2.2.1;have e0:=cR0 D0.o;refine wp_region_quiet_below (by kernel_rfl) (by kernel_rfl) ?_
 repeat (go_big_quiet_step (first|with_reducible exact cL _ _|with_reducible exact cS _ _|with_reducible exact cR _ _))
 refine wpQuiet_nil ?_;intro w1 af;obtain⟨⟨dq,ak⟩,O⟩:=af;have ai:Hid (Bw w w1):=by show Below _ _ _;rw[O];exact (zbq w _ _).trans ((below_regrown _ _ _).mono (by rw[zh,zh];omega))
 clear O;go_wp2;go_ret;exact⟨za9 HV.o.symm,ai.o⟩
theorem zto (x:Nat) (S:Sv) (m:Md) (i A q:Nat) (k K:Int) (I L:BA0) (w:World) (N:S.ex.a=some ⟨x,0,none⟩) (h:OwnMd w g S m) (hi:i<m.ex.length) (af:x<w.heap.size) (c0:w.cell? ⟨x,i*6,none⟩=some (.int .i64 k)) (c1:w.cell? ⟨x,i*6+1,none⟩=some (.int .i64 K)) (c2:w.cell? ⟨x,i*6+2,none⟩=some (.string I)) (c3:w.cell? ⟨x,i*6+3,none⟩=some (.string L)) (c4:w.cell? ⟨x,i*6+4,none⟩=some (.int .i64 (A:Int))) (c5:w.cell? ⟨x,i*6+5,none⟩=some (.int .i64 (q:Int))) (k1:(k==1)=false) (k2:(k==2)=false) (k3:(k==3)=false) (k4:(k==4)=false) (k5:(k==5)=false) (k6:(k==6)=false) (k7:(k==7)=false) (k8:(k==8)=true) (aa:(zP (zY (m.ex.getD A zj).kind) (prX m.ex A)++tStar++zP (zag (m.ex.getD q zj).kind) (prX m.ex q)).size<=1099511627776) (he:zf5 g S m i) (hl:A<i) (hr:q<i) (ah:wt m.ex A<=1099511627776) (ak:wt m.ex q<=1099511627776):
  Calls prog 135 #[zo S m,.int .i64 i] w fun e w'=>e= .returned (.string (zP (zY (m.ex.getD A zj).kind) (prX m.ex A)++tStar++zP (zag (m.ex.getD q zj).kind) (prX m.ex q)))/\Bw w w':=by
 have ao:(i:Int)<(m.ex.length:Int):=by omega
 have HA:Hid (OwnMd ((w.alloc (.cells (bxB S m x) 59)).alloc (.cells #[.int .i64 k,.int .i64 K,.string I,.string L,.int .i64 (A:Int),.int .i64 (q:Int)] 106)) g S m):=(h.alloc _).alloc _;have HE:=zc he;have M:Hid (zo S m= .agg (bxB S m x)):=by show _=_;rw[zo,N]
 have ap:(A:Int)<(m.ex.length:Int):=by omega
 have aq:(q:Int)<(m.ex.length:Int):=by omega
 obtain⟨g2,hg2,-,d0,-,-,-,-,-⟩:=h.expr (i:=q) (by omega);have eg:g2=x:=by have:=hg2.symm.trans N;simpa using this
 rw[eg] at d0;obtain⟨kr,V⟩: ∃kr,(m.ex.getD q zj).kind=kr:=⟨_,rfl⟩;rw[V] at d0;have ae:=zc V;obtain⟨tl,Z⟩: ∃tl,zP (zY (m.ex.getD A zj).kind) (prX m.ex A)=tl:=⟨_,rfl⟩;obtain⟨tr,ac⟩: ∃tr,zP (zag (m.ex.getD q zj).kind) (prX m.ex q)=tr:=⟨_,rfl⟩;rw[Z,ac] at aa;have ad:=zc Z;have ab:=zc ac;obtain⟨kl,U⟩: ∃kl,(m.ex.getD A zj).kind=kl:=⟨_,rfl⟩;have cK: ∀d J,Calls prog 172 #[.agg (bxB S m x),.int .i64 (A:Int)] (grow (redrawn ((w.alloc (.cells (bxB S m x) 59)).alloc (.cells #[.int .i64 k,.int .i64 K,.string I,.string L,.int .i64 (A:Int),.int .i64 (q:Int)] 106)) d) J) fun e H=>e= .returned (.bool (zY kl))/\∃p:Regrown,H=grow (redrawn ((w.alloc (.cells (bxB S m x) 59)).alloc (.cells #[.int .i64 k,.int .i64 K,.string I,.string L,.int .i64 (A:Int),.int .i64 (q:Int)] 106)) p.d) p.os:=fun d J=>Calls.regrown_of (by rw[<-M.o,<-U];exact zjb g S m A _ (HA.o.later (below_regrown _ d J)) (by omega));have cL: ∀d J,Calls prog 171 #[.agg (bxB S m x),.int .i64 (A:Int),.bool (zY kl)] (grow (redrawn ((w.alloc (.cells (bxB S m x) 59)).alloc (.cells #[.int .i64 k,.int .i64 K,.string I,.string L,.int .i64 (A:Int),.int .i64 (q:Int)] 106)) d) J) fun e H=>e= .returned (.string tl)/\∃p:Regrown,H=grow (redrawn ((w.alloc (.cells (bxB S m x) 59)).alloc (.cells #[.int .i64 k,.int .i64 K,.string I,.string L,.int .i64 (A:Int),.int .i64 (q:Int)] 106)) p.d) p.os:=fun d J=>Calls.regrown_of (by rw[<-M.o,<-ad.o,U];exact zh4 g S m i A _ _ HE.o (by omega) (by omega) (HA.o.later (below_regrown _ d J)) ah);have cS: ∀d J,Calls prog 133 #[.int .i64 kr] (grow (redrawn ((w.alloc (.cells (bxB S m x) 59)).alloc (.cells #[.int .i64 k,.int .i64 K,.string I,.string L,.int .i64 (A:Int),.int .i64 (q:Int)] 106)) d) J) fun e H=>e= .returned (.bool (zag kr))/\∃p:Regrown,H=grow (redrawn ((w.alloc (.cells (bxB S m x) 59)).alloc (.cells #[.int .i64 k,.int .i64 K,.string I,.string L,.int .i64 (A:Int),.int .i64 (q:Int)] 106)) p.d) p.os:=fun d J=>Calls.regrown_of ((zlZ kr _).mono (by rintro e w' ⟨rfl,rfl⟩;exact⟨rfl,Below.refl _ _⟩));have cR: ∀d J,Calls prog 171 #[.agg (bxB S m x),.int .i64 (q:Int),.bool (zag kr)] (grow (redrawn ((w.alloc (.cells (bxB S m x) 59)).alloc (.cells #[.int .i64 k,.int .i64 K,.string I,.string L,.int .i64 (A:Int),.int .i64 (q:Int)] 106)) d) J) fun e H=>e= .returned (.string tr)/\∃p:Regrown,H=grow (redrawn ((w.alloc (.cells (bxB S m x) 59)).alloc (.cells #[.int .i64 k,.int .i64 K,.string I,.string L,.int .i64 (A:Int),.int .i64 (q:Int)] 106)) p.d) p.os:=fun d J=>Calls.regrown_of (by rw[<-M.o,<-ab.o,ae.o];exact zh4 g S m i q _ _ HE.o (by omega) (by omega) (HA.o.later (below_regrown _ d J)) ak);have X:Hid (Six ((w.alloc (.cells (bxB S m x) 59)).alloc (.cells #[.int .i64 k,.int .i64 K,.string I,.string L,.int .i64 (A:Int),.int .i64 (q:Int)] 106)) (w.heap.size+1) (.int .i64 k) (.int .i64 K) (.string I) (.string L) (.int .i64 (A:Int)) (.int .i64 (q:Int))):=zD (new2 w _ _);have Y:=zc (zl (zcV (o':=.cells #[.int .i64 k,.int .i64 K,.string I,.string L,.int .i64 (A:Int),.int .i64 (q:Int)] 106) (hN0 w (.cells (bxB S m x) 59))));have D0:Hid (((w.alloc (.cells (bxB S m x) 59)).alloc (.cells #[.int .i64 k,.int .i64 K,.string I,.string L,.int .i64 (A:Int),.int .i64 (q:Int)] 106)).cell? ⟨x,q*6,none⟩=some (.int .i64 kr)):=by show _=_;rw[World.cell?_alloc_past _ _ _ (by rw[zh];omega),World.cell?_alloc_past _ _ _ af];exact d0
 simp only[sA] at aa;have ai:tStar.size=3:=rfl;have am:tl.size<=1099511627776:=by omega
 have an:tr.size<=1099511627776:=by omega
 have HV:Hid ((zP (zY (m.ex.getD A zj).kind) (prX m.ex A)++tStar++zP (zag (m.ex.getD q zj).kind) (prX m.ex q))=tl++tStar++tr):=by show _=_;rw[ad.o,ab.o]
 unfold zo;rw[N];clear N h HA HE M ad ab Z ac V ae hg2 he aa ai d0 eg U;go_enter func135,ntmps135;go_wp2_with fail;have x0:=cR0 X.o.c0;have x4:=cR0 X.o.c4;have x5:=cR0 X.o.c5;have y0:=cR0 Y.o.1;have y1:=cR0 Y.o.2.1;have y2:=cR0 Y.o.2.2.1;have y3:=cR0 Y.o.2.2.2.1;have y4:=cR0 Y.o.2.2.2.2.1;have e0:=cR0 D0.o;refine wp_region_quiet_below (by kernel_rfl) (by kernel_rfl) ?_
 repeat (go_big_quiet_step (first|with_reducible exact cL _ _|with_reducible exact cS _ _|with_reducible exact cR _ _|with_reducible exact cK _ _))
 refine wpQuiet_nil ?_;intro w1 ag;obtain⟨⟨dq,al⟩,O⟩:=ag;have aj:Hid (Bw w w1):=by show Below _ _ _;rw[O];exact (zbq w _ _).trans ((below_regrown _ _ _).mono (by rw[zh,zh];omega))
 clear O;go_wp2;go_ret;exact⟨za9 HV.o.symm,aj.o⟩
theorem zh5 (b:Bool) (t:BA0):t.size<=(zP b t).size:=by
 unfold zP
 split
 ·rw[sA,sA];omega
 ·exact Nat.le_refl _
theorem ztp (hn:zay w.ex) (ha:zbH w.ex) (n:Nat):zf5 g S w n:=by
 induction n with
 |zero=>intro i B I;omega
 |succ n ih=>
  intro i B ad I h q;by_cases ab:i<n
  ·exact ih i B ab I h q
  ·have he:zf5 g S w i:=by
    have:i=n:=by omega
    rw[this];exact ih
   obtain⟨p,H,A,Y,N,U,V,O,X⟩:=h.expr I;have ac:=hn (w.ex.getD i zj) (by rw[zeB I];exact List.getElem_mem I);have aa:=zgR ha (i:=i);unfold wt at q;rw[ziv ha] at q ⊢;generalize w.ex.getD i zj=x at*;by_cases J:(x.kind==1)=true
   ·rw[if_pos J];exact ztg p S w i _ _ _ _ _ _ B H I A Y N U V O X J ac
   rw[if_neg J] at q ⊢;by_cases L:(x.kind==2)=true
   ·rw[if_pos L];exact zth p S w i _ _ _ _ _ _ B H I A Y N U V O X (by simpa using J) L
   rw[if_neg L] at q ⊢;by_cases M:(x.kind==3)=true
   ·rw[if_pos M] at q ⊢;exact zti p S w i _ _ _ _ _ _ B H I A Y N U V O X (by simpa using J) (by simpa using L) M q
   rw[if_neg M] at q ⊢;by_cases Z:(x.kind==4)=true
   ·rw[if_pos Z] at q ⊢;exact ztj p S w i _ _ _ _ _ _ B H I A Y N U V O X (by simpa using J) (by simpa using L) (by simpa using M) Z q
   rw[if_neg Z] at q ⊢;by_cases k5:(x.kind==5)=true
   ·rw[if_pos k5] at q ⊢;exact ztk p S w i _ _ _ _ _ _ B H I A Y N U V O X (by simpa using J) (by simpa using L) (by simpa using M) (by simpa using Z) k5 q
   rw[if_neg k5] at q ⊢;by_cases k6:(x.kind==6)=true
   ·rw[if_pos k6] at q ⊢;obtain⟨h1,h2,h3,h4⟩:=aa (zbU (.inl k6));have K:=q;rw[sA,sA] at K;have s2:=zh5 (zY (w.ex.getD x.r.toNat zj).kind) (prX w.ex x.r.toNat);exact ztm g p S w i x.l.toNat x.r.toNat _ _ _ _ B H h I A Y N U V (by rw[O,Int.toNat_of_nonneg h1]) (by rw[X,Int.toNat_of_nonneg h3]) (by simpa using J) (by simpa using L) (by simpa using M) (by simpa using Z) (by simpa using k5) k6 q he (by omega) (by omega) (by unfold wt;omega) (by unfold wt;omega)
   rw[if_neg k6] at q ⊢;by_cases k7:(x.kind==7)=true
   ·rw[if_pos k7] at q ⊢;obtain⟨h1,h2,h3,h4⟩:=aa (zbU (.inr (.inl k7)));have K:=q;rw[sA,sA] at K;have s2:=zh5 (zY (w.ex.getD x.r.toNat zj).kind) (prX w.ex x.r.toNat);exact ztn g p S w i x.l.toNat x.r.toNat _ _ _ _ B H h I A Y N U V (by rw[O,Int.toNat_of_nonneg h1]) (by rw[X,Int.toNat_of_nonneg h3]) (by simpa using J) (by simpa using L) (by simpa using M) (by simpa using Z) (by simpa using k5) (by simpa using k6) k7 q he (by omega) (by omega) (by unfold wt;omega) (by unfold wt;omega)
   rw[if_neg k7] at q ⊢;by_cases k8:(x.kind==8)=true
   ·rw[if_pos k8] at q ⊢;obtain⟨h1,h2,h3,h4⟩:=aa (zbU (.inr (.inr k8)));have K:=q;rw[sA,sA] at K;have s1:=zh5 (zY (w.ex.getD x.l.toNat zj).kind) (prX w.ex x.l.toNat);have s2:=zh5 (zag (w.ex.getD x.r.toNat zj).kind) (prX w.ex x.r.toNat);exact zto g p S w i x.l.toNat x.r.toNat _ _ _ _ B H h I A Y N U V (by rw[O,Int.toNat_of_nonneg h1]) (by rw[X,Int.toNat_of_nonneg h3]) (by simpa using J) (by simpa using L) (by simpa using M) (by simpa using Z) (by simpa using k5) (by simpa using k6) (by simpa using k7) k8 q he (by omega) (by omega) (by unfold wt;omega) (by unfold wt;omega)
   rw[if_neg k8] at q ⊢;exact ztl p S w i _ _ _ _ _ _ B H I A Y N U V O X (by simpa using J) (by simpa using L) (by simpa using M) (by simpa using Z) (by simpa using k5) (by simpa using k6) (by simpa using k7) (by simpa using k8)
theorem zeU (x:World) (I:zay w.ex) (A:zbH w.ex) (H:c<w.ex.length) (h:OwnMd x g S w) (q:wt w.ex c<=1099511627776):
  Calls prog 135 #[zo S w,.int .i64 c] x fun e w'=>e= .returned (.string (prX w.ex c))/\Bw x w':=ztp g S w I A (c+1) c x (Nat.lt_succ_self c) H h q
theorem zjc (A:s.size<=1099511627776) (H:t.size<=1099511627776):Calls prog 134 #[.string s,.string t] V fun e w'=>e= .returned (.string (asT s t))/\w'=V:=by
 cases h:(s.toList==t.toList) with
 |true=>
  have q:Hid (asT s t=s):=by show _=_;rw[asT,h];rfl
  go_enter func134,ntmps134;go_wp2;go_ret;exact⟨za9 q.o.symm,rfl⟩
 |false=>
  have q:Hid (asT s t=s++({data:=#[32,97,115,32]}:BA0)++t):=by show _=_;rw[asT,h];rfl
  go_enter func134,ntmps134;go_wp2;go_ret;exact⟨za9 q.o.symm,rfl⟩
theorem zh6 (q:s.size<=1099511627776):Calls prog 98 #[.string s] V fun e w'=>e= .returned (.string (za7 s))/\w'=V:=by
 have h:Hid (za7 s=({data:=#[34]}:BA0)++s++({data:=#[34]}:BA0)):=rfl;go_enter func98,ntmps98;go_wp2;go_ret;exact⟨za9 h.o.symm,rfl⟩
theorem zjd:(za7 s).size=s.size+2:=by
 rw[za7,sA,sA];show 1+s.size+1=_;omega
theorem zma:(asT s t).size<=s.size+t.size+4:=by
 unfold asT
 split
 ·omega
 ·rw[sA,sA];show s.size+4+t.size<=_;omega
theorem ztq (x:Im) (w:World) (h1:x.spec.size<=4294967296) (h2:x.first.size<=4294967296) (h3:x.loc.size<=4294967296):Calls prog 99 #[imV x] w fun e w'=>e= .returned (.string (zak x))/\Bw w w':=by
 obtain⟨qt,H⟩: ∃t,za7 x.spec=t:=⟨_,rfl⟩;obtain⟨at',hat⟩: ∃t,asT x.first x.loc=t:=⟨_,rfl⟩;have hq:=zjd x.spec;have ha:=zma x.first x.loc;rw[H] at hq;rw[hat] at ha;have ab:qt.size<=8589934592:=by omega
 have aa:at'.size<=17179869184:=by omega
 have U:=zc H;have AT:=zc hat;have O: ∀d L,Calls prog 98 #[.string x.spec] (grow (redrawn (w.alloc (.cells #[.string x.spec,.string x.first,.string x.loc] 101)) d) L) fun e I=>e= .returned (.string qt)/\∃p:Regrown,I=grow (redrawn (w.alloc (.cells #[.string x.spec,.string x.first,.string x.loc] 101)) p.d) p.os:=fun d L=>Calls.regrown_of (by rw[<-H];exact (zh6 x.spec _ (by omega)).mono (by rintro e w' ⟨rfl,rfl⟩;exact⟨rfl,Below.refl _ _⟩));have N: ∀d L,Calls prog 134 #[.string x.first,.string x.loc] (grow (redrawn (w.alloc (.cells #[.string x.spec,.string x.first,.string x.loc] 101)) d) L) fun e I=>e= .returned (.string at')/\∃p:Regrown,I=grow (redrawn (w.alloc (.cells #[.string x.spec,.string x.first,.string x.loc] 101)) p.d) p.os:=fun d L=>Calls.regrown_of (by rw[<-hat];exact (zjc x.first x.loc _ (by omega) (by omega)).mono (by rintro e w' ⟨rfl,rfl⟩;exact⟨rfl,Below.refl _ _⟩));have X:=zc (zg (hN0 w (.cells #[.string x.spec,.string x.first,.string x.loc] 101)));clear H hat hq ha;unfold imV;cases V:(x.first.toList==[42]) with
 |true=>
  have M:Hid (zak x=({data:=#[105,109,112,111,114,116,32,42,32,97,115,32]}:BA0)++x.loc++({data:=#[32,102,114,111,109,32]}:BA0)++za7 x.spec++({data:=#[59,10]}:BA0)):=by show _=_;rw[zak,V];rfl
  go_enter func99,ntmps99;go_wp2_with fail;have y0:=cR0 X.o.1;have Z:=cR0 X.o.2.1;have y2:=cR0 X.o.2.2.1;refine wp_region_quiet_below (by kernel_rfl) (by kernel_rfl) ?_
  repeat (go_big_quiet_step (first|with_reducible exact O _ _|with_reducible exact N _ _))
  refine wpQuiet_nil ?_;intro J q;obtain⟨⟨Y,K⟩,h⟩:=q;have A:Hid (Bw w J):=by show Below _ _ _;rw[h];exact (bA0).trans ((below_regrown _ _ _).mono (by rw[zh];omega))
  clear h;go_wp2;go_ret;exact⟨za9 (by rw[M.o,U.o]),A.o⟩
 |false=>
  cases e2:(x.first.toList==[100,101,102,97,117,108,116]) with
  |true=>
   have M:Hid (zak x=({data:=#[105,109,112,111,114,116,32]}:BA0)++x.loc++({data:=#[32,102,114,111,109,32]}:BA0)++za7 x.spec++({data:=#[59,10]}:BA0)):=by show _=_;rw[zak,V,e2];rfl
   go_enter func99,ntmps99;go_wp2_with fail;have y0:=cR0 X.o.1;have Z:=cR0 X.o.2.1;have y2:=cR0 X.o.2.2.1;refine wp_region_quiet_below (by kernel_rfl) (by kernel_rfl) ?_
   repeat (go_big_quiet_step (first|with_reducible exact O _ _|with_reducible exact N _ _))
   refine wpQuiet_nil ?_;intro J q;obtain⟨⟨Y,K⟩,h⟩:=q;have A:Hid (Bw w J):=by show Below _ _ _;rw[h];exact (bA0).trans ((below_regrown _ _ _).mono (by rw[zh];omega))
   clear h;go_wp2;go_ret;exact⟨za9 (by rw[M.o,U.o]),A.o⟩
  |false=>
   have M:Hid (zak x=({data:=#[105,109,112,111,114,116,32,123,32]}:BA0)++asT x.first x.loc++({data:=#[32,125,32,102,114,111,109,32]}:BA0)++za7 x.spec++({data:=#[59,10]}:BA0)):=by show _=_;rw[zak,V,e2];rfl
   go_enter func99,ntmps99;go_wp2_with fail;have y0:=cR0 X.o.1;have Z:=cR0 X.o.2.1;have y2:=cR0 X.o.2.2.1;refine wp_region_quiet_below (by kernel_rfl) (by kernel_rfl) ?_
   repeat (go_big_quiet_step (first|with_reducible exact O _ _|with_reducible exact N _ _))
   refine wpQuiet_nil ?_;intro J q;obtain⟨⟨Y,K⟩,h⟩:=q;have A:Hid (Bw w J):=by show Below _ _ _;rw[h];exact (bA0).trans ((below_regrown _ _ _).mono (by rw[zh];omega))
   clear h;go_wp2;go_ret;exact⟨za9 (by rw[M.o,U.o,AT.o]),A.o⟩
theorem ztr (x:Ep) (w:World) (h1:x.spec.size<=4294967296) (h2:x.name.size<=4294967296) (h3:x.loc.size<=4294967296):Calls prog 100 #[epV x] w fun e w'=>e= .returned (.string (zb5 x))/\Bw w w':=by
 obtain⟨N,h⟩: ∃t,za7 x.spec=t:=⟨_,rfl⟩;obtain⟨at',hat⟩: ∃t,asT x.loc x.name=t:=⟨_,rfl⟩;have Y:=zjd x.spec;have ha:=zma x.loc x.name;rw[h] at Y;rw[hat] at ha;have ac:N.size<=8589934592:=by omega
 have ab:at'.size<=17179869184:=by omega
 have QT:=zc h;have AT:=zc hat;have cQ: ∀d I,Calls prog 98 #[.string x.spec] (grow (redrawn (w.alloc (.cells #[.int .i64 x.kind,.string x.name,.string x.loc,.string x.spec] 103)) d) I) fun e A=>e= .returned (.string N)/\∃p:Regrown,A=grow (redrawn (w.alloc (.cells #[.int .i64 x.kind,.string x.name,.string x.loc,.string x.spec] 103)) p.d) p.os:=fun d I=>Calls.regrown_of (by rw[<-h];exact (zh6 x.spec _ (by omega)).mono (by rintro e w' ⟨rfl,rfl⟩;exact⟨rfl,Below.refl _ _⟩));have cA: ∀d I,Calls prog 134 #[.string x.loc,.string x.name] (grow (redrawn (w.alloc (.cells #[.int .i64 x.kind,.string x.name,.string x.loc,.string x.spec] 103)) d) I) fun e A=>e= .returned (.string at')/\∃p:Regrown,A=grow (redrawn (w.alloc (.cells #[.int .i64 x.kind,.string x.name,.string x.loc,.string x.spec] 103)) p.d) p.os:=fun d I=>Calls.regrown_of (by rw[<-hat];exact (zjc x.loc x.name _ (by omega) (by omega)).mono (by rintro e w' ⟨rfl,rfl⟩;exact⟨rfl,Below.refl _ _⟩));have V: ∀w:World,Calls prog 98 #[.string x.spec] w fun e w'=>e= .returned (.string N)/\w'=w:=fun w=>by rw[<-h];exact zh6 x.spec w (by omega)
 have M: ∀w:World,Calls prog 134 #[.string x.loc,.string x.name] w fun e w'=>e= .returned (.string at')/\w'=w:=fun w=>by rw[<-hat];exact zjc x.loc x.name w (by omega) (by omega)
 have X:=zc (zbW (hN0 w (.cells #[.int .i64 x.kind,.string x.name,.string x.loc,.string x.spec] 103)));clear h hat Y ha;unfold epV;cases U:(x.kind==3) with
 |true=>
  have K:Hid (zb5 x=({data:=#[101,120,112,111,114,116,32,42,32,102,114,111,109,32]}:BA0)++za7 x.spec++({data:=#[59,10]}:BA0)):=by show _=_;rw[zb5,U];rfl
  go_enter func100,ntmps100;go_wp2_with fail;refine (V _).mono ?_;rintro e H ⟨rfl,J⟩;rw[J];clear J H;go_wp2;go_ret;exact⟨za9 (by rw[K.o,QT.o]),bA0⟩
 |false=>
  cases Z:(x.kind==2) with
  |true=>
   have K:Hid (zb5 x=({data:=#[101,120,112,111,114,116,32,123,32]}:BA0)++asT x.loc x.name++({data:=#[32,125,32,102,114,111,109,32]}:BA0)++za7 x.spec++({data:=#[59,10]}:BA0)):=by show _=_;rw[zb5,U,Z];rfl
   go_enter func100,ntmps100;go_wp2_with fail;have y0:=cR0 X.o.1;have y1:=cR0 X.o.2.1;have y2:=cR0 X.o.2.2.1;have y3:=cR0 X.o.2.2.2.1;refine wp_region_quiet_below (by kernel_rfl) (by kernel_rfl) ?_
   repeat (go_big_quiet_step (first|with_reducible exact cQ _ _|with_reducible exact cA _ _))
   refine wpQuiet_nil ?_;intro H L;obtain⟨⟨dq,aa⟩,q⟩:=L;have O:Hid (Bw w H):=by show Below _ _ _;rw[q];exact (bA0).trans ((below_regrown _ _ _).mono (by rw[zh];omega))
   clear q;go_wp2;go_ret;exact⟨za9 (by rw[K.o,QT.o,AT.o]),O.o⟩
  |false=>
   have K:Hid (zb5 x=({data:=#[101,120,112,111,114,116,32,123,32]}:BA0)++asT x.loc x.name++({data:=#[32,125,59,10]}:BA0)):=by show _=_;rw[zb5,U,Z];rfl
   go_enter func100,ntmps100;go_wp2_with fail;refine (M _).mono ?_;rintro e H ⟨rfl,J⟩;rw[J];clear J H;go_wp2;go_ret;exact⟨za9 (by rw[K.o,AT.o]),bA0⟩
theorem zts (i:Nat) (x:World) (h:OwnMd x g S w) (O:i<w.ex.length) (U:zay w.ex) (Y:zbH w.ex) (J:wt w.ex i<=1099511627776) (_:s.size<=4294967296) (K:(z==1)=true) (N:(s.toList==[42,100,101,102,97,117,108,116])=true):
  Calls prog 101 #[zo S w,.agg #[.int .i64 z,.string s,.int .i64 (i:Int)]] x fun e w'=>e= .returned (.string (zaE z s (prX w.ex i)))/\Bw x w':=by
 have X:=zc h;have Z:Hid (zaE z s (prX w.ex i)=({data:=#[101,120,112,111,114,116,32,100,101,102,97,117,108,116,32]}:BA0)++prX w.ex i++({data:=#[59,10]}:BA0)):=by show _=_;rw[zaE,K,N];rfl
 have q:=J;unfold wt at q;have V:=zc (And.intro (zcV (o':=.cells #[.int .i64 z,.string s,.int .i64 (i:Int)] 108) (hN0 x (.cells (bxA S w) 59))) (new2 x (.cells (bxA S w) 59) (.cells #[.int .i64 z,.string s,.int .i64 (i:Int)] 108)));clear h;unfold zo;go_enter func101,ntmps101;go_wp2_with fail;refine (zeU g S w i _ U Y O ((X.o.alloc _).alloc _) J).mono ?_;rintro e L ⟨rfl,H⟩;have M:Hid (Bw x L):=(zbq x _ _).trans (H.mono (by rw[zh,zh];omega));have I:=zc ((H.block _ (by rw[zh,zh];omega)).trans V.o.2);obtain⟨c0,c1,c2,cf⟩:=zg I.o;clear H;obtain⟨t,A⟩: ∃t,prX w.ex i=t:=⟨_,rfl⟩;rw[A] at q ⊢;have HT:=zc A;clear A;go_wp2;go_ret;exact⟨za9 (by rw[Z.o,HT.o]),M.o⟩
theorem ztt (i:Nat) (x:World) (h:OwnMd x g S w) (O:i<w.ex.length) (U:zay w.ex) (Y:zbH w.ex) (J:wt w.ex i<=1099511627776) (hs:s.size<=4294967296) (K:(z==1)=true) (N:(s.toList==[42,100,101,102,97,117,108,116])=false):
  Calls prog 101 #[zo S w,.agg #[.int .i64 z,.string s,.int .i64 (i:Int)]] x fun e w'=>e= .returned (.string (zaE z s (prX w.ex i)))/\Bw x w':=by
 have X:=zc h;have Z:Hid (zaE z s (prX w.ex i)=({data:=#[108,101,116,32]}:BA0)++s++({data:=#[32,61,32]}:BA0)++prX w.ex i++({data:=#[59,10]}:BA0)):=by show _=_;rw[zaE,K,N];rfl
 have q:=J;unfold wt at q;have V:=zc (And.intro (zcV (o':=.cells #[.int .i64 z,.string s,.int .i64 (i:Int)] 108) (hN0 x (.cells (bxA S w) 59))) (new2 x (.cells (bxA S w) 59) (.cells #[.int .i64 z,.string s,.int .i64 (i:Int)] 108)));clear h;unfold zo;go_enter func101,ntmps101;go_wp2_with fail;refine (zeU g S w i _ U Y O ((X.o.alloc _).alloc _) J).mono ?_;rintro e L ⟨rfl,H⟩;have M:Hid (Bw x L):=(zbq x _ _).trans (H.mono (by rw[zh,zh];omega));have I:=zc ((H.block _ (by rw[zh,zh];omega)).trans V.o.2);obtain⟨c0,c1,c2,cf⟩:=zg I.o;clear H;obtain⟨t,A⟩: ∃t,prX w.ex i=t:=⟨_,rfl⟩;rw[A] at q ⊢;have HT:=zc A;clear A;go_wp2;go_ret;exact⟨za9 (by rw[Z.o,HT.o]),M.o⟩
theorem ztu (i:Nat) (x:World) (h:OwnMd x g S w) (N:i<w.ex.length) (O:zay w.ex) (Y:zbH w.ex) (J:wt w.ex i<=1099511627776) (hs:s.size<=4294967296) (K:(z==1)=false) (U:(z==2)=true):
  Calls prog 101 #[zo S w,.agg #[.int .i64 z,.string s,.int .i64 (i:Int)]] x fun e w'=>e= .returned (.string (zaE z s (prX w.ex i)))/\Bw x w':=by
 have X:=zc h;have Z:Hid (zaE z s (prX w.ex i)=({data:=#[102,117,110,99,116,105,111,110,32]}:BA0)++s++({data:=#[40,41,32,123,32,114,101,116,117,114,110,32]}:BA0)++prX w.ex i++({data:=#[59,32,125,10]}:BA0)):=by show _=_;rw[zaE,K,U];rfl
 have q:=J;unfold wt at q;have V:=zc (And.intro (zcV (o':=.cells #[.int .i64 z,.string s,.int .i64 (i:Int)] 108) (hN0 x (.cells (bxA S w) 59))) (new2 x (.cells (bxA S w) 59) (.cells #[.int .i64 z,.string s,.int .i64 (i:Int)] 108)));clear h;unfold zo;go_enter func101,ntmps101;go_wp2_with fail;refine (zeU g S w i _ O Y N ((X.o.alloc _).alloc _) J).mono ?_;rintro e L ⟨rfl,H⟩;have M:Hid (Bw x L):=(zbq x _ _).trans (H.mono (by rw[zh,zh];omega));have I:=zc ((H.block _ (by rw[zh,zh];omega)).trans V.o.2);obtain⟨c0,c1,c2,cf⟩:=zg I.o;clear H;obtain⟨t,A⟩: ∃t,prX w.ex i=t:=⟨_,rfl⟩;rw[A] at q ⊢;have HT:=zc A;clear A;go_wp2;go_ret;exact⟨za9 (by rw[Z.o,HT.o]),M.o⟩
theorem ztv (i:Nat) (x:World) (h:OwnMd x g S w) (O:i<w.ex.length) (U:zay w.ex) (Z:zbH w.ex) (J:wt w.ex i<=1099511627776) (hs:s.size<=4294967296) (K:(z==1)=false) (V:(z==2)=false) (M:(z==3)=true):
  Calls prog 101 #[zo S w,.agg #[.int .i64 z,.string s,.int .i64 (i:Int)]] x fun e w'=>e= .returned (.string (zaE z s (prX w.ex i)))/\Bw x w':=by
 have Y:=zc h;have HV:Hid (zaE z s (prX w.ex i)=s++({data:=#[32,61,32]}:BA0)++prX w.ex i++({data:=#[59,10]}:BA0)):=by show _=_;rw[zaE,K,V,M];rfl
 have q:=J;unfold wt at q;have X:=zc (And.intro (zcV (o':=.cells #[.int .i64 z,.string s,.int .i64 (i:Int)] 108) (hN0 x (.cells (bxA S w) 59))) (new2 x (.cells (bxA S w) 59) (.cells #[.int .i64 z,.string s,.int .i64 (i:Int)] 108)));clear h;unfold zo;go_enter func101,ntmps101;go_wp2_with fail;refine (zeU g S w i _ U Z O ((Y.o.alloc _).alloc _) J).mono ?_;rintro e L ⟨rfl,H⟩;have N:Hid (Bw x L):=(zbq x _ _).trans (H.mono (by rw[zh,zh];omega));have I:=zc ((H.block _ (by rw[zh,zh];omega)).trans X.o.2);obtain⟨c0,c1,c2,cf⟩:=zg I.o;clear H;obtain⟨t,A⟩: ∃t,prX w.ex i=t:=⟨_,rfl⟩;rw[A] at q ⊢;have HT:=zc A;clear A;go_wp2;go_ret;exact⟨za9 (by rw[HV.o,HT.o]),N.o⟩
theorem ztw (i:Nat) (x:World) (h:OwnMd x g S w) (O:i<w.ex.length) (U:zay w.ex) (Z:zbH w.ex) (J:wt w.ex i<=1099511627776) (_:s.size<=4294967296) (K:(z==1)=false) (V:(z==2)=false) (M:(z==3)=false) (k4:(z==4)=true):
  Calls prog 101 #[zo S w,.agg #[.int .i64 z,.string s,.int .i64 (i:Int)]] x fun e w'=>e= .returned (.string (zaE z s (prX w.ex i)))/\Bw x w':=by
 have Y:=zc h;have HV:Hid (zaE z s (prX w.ex i)=({data:=#[112,114,105,110,116,40]}:BA0)++prX w.ex i++({data:=#[41,59,10]}:BA0)):=by show _=_;rw[zaE,K,V,M,k4];rfl
 have q:=J;unfold wt at q;have X:=zc (And.intro (zcV (o':=.cells #[.int .i64 z,.string s,.int .i64 (i:Int)] 108) (hN0 x (.cells (bxA S w) 59))) (new2 x (.cells (bxA S w) 59) (.cells #[.int .i64 z,.string s,.int .i64 (i:Int)] 108)));clear h;unfold zo;go_enter func101,ntmps101;go_wp2_with fail;refine (zeU g S w i _ U Z O ((Y.o.alloc _).alloc _) J).mono ?_;rintro e L ⟨rfl,H⟩;have N:Hid (Bw x L):=(zbq x _ _).trans (H.mono (by rw[zh,zh];omega));have I:=zc ((H.block _ (by rw[zh,zh];omega)).trans X.o.2);obtain⟨c0,c1,c2,cf⟩:=zg I.o;clear H;obtain⟨t,A⟩: ∃t,prX w.ex i=t:=⟨_,rfl⟩;rw[A] at q ⊢;have HT:=zc A;clear A;go_wp2;go_ret;exact⟨za9 (by rw[HV.o,HT.o]),N.o⟩
theorem ztx (i:Nat) (x:World) (h:OwnMd x g S w) (V:i<w.ex.length) (X:zay w.ex) (ha:zbH w.ex) (J:wt w.ex i<=1099511627776) (_:s.size<=4294967296) (K:(z==1)=false) (Y:(z==2)=false) (N:(z==3)=false) (k4:(z==4)=false) (U:(z==5)=true):
  Calls prog 101 #[zo S w,.agg #[.int .i64 z,.string s,.int .i64 (i:Int)]] x fun e w'=>e= .returned (.string (zaE z s (prX w.ex i)))/\Bw x w':=by
 have Z:=zc h;have HV:Hid (zaE z s (prX w.ex i)=({data:=#[116,104,114,111,119,32]}:BA0)++prX w.ex i++({data:=#[59,10]}:BA0)):=by show _=_;rw[zaE,K,Y,N,k4,U];rfl
 have q:=J;unfold wt at q;have HX:=zc (And.intro (zcV (o':=.cells #[.int .i64 z,.string s,.int .i64 (i:Int)] 108) (hN0 x (.cells (bxA S w) 59))) (new2 x (.cells (bxA S w) 59) (.cells #[.int .i64 z,.string s,.int .i64 (i:Int)] 108)));clear h;unfold zo;go_enter func101,ntmps101;go_wp2_with fail;refine (zeU g S w i _ X ha V ((Z.o.alloc _).alloc _) J).mono ?_;rintro e L ⟨rfl,H⟩;have O:Hid (Bw x L):=(zbq x _ _).trans (H.mono (by rw[zh,zh];omega));have I:=zc ((H.block _ (by rw[zh,zh];omega)).trans HX.o.2);obtain⟨c0,c1,c2,cf⟩:=zg I.o;clear H;obtain⟨t,A⟩: ∃t,prX w.ex i=t:=⟨_,rfl⟩;rw[A] at q ⊢;have M:=zc A;clear A;go_wp2;go_ret;exact⟨za9 (by rw[HV.o,M.o]),O.o⟩
theorem zty (i:Nat) (x:World) (h:OwnMd x g S w) (V:i<w.ex.length) (X:zay w.ex) (ha:zbH w.ex) (J:wt w.ex i<=1099511627776) (_:s.size<=4294967296) (K:(z==1)=false) (Y:(z==2)=false) (N:(z==3)=false) (k4:(z==4)=false) (U:(z==5)=false):
  Calls prog 101 #[zo S w,.agg #[.int .i64 z,.string s,.int .i64 (i:Int)]] x fun e w'=>e= .returned (.string (zaE z s (prX w.ex i)))/\Bw x w':=by
 have Z:=zc h;have HV:Hid (zaE z s (prX w.ex i)=({data:=#[102,97,105,108,32]}:BA0)++prX w.ex i++({data:=#[59,10]}:BA0)):=by show _=_;rw[zaE,K,Y,N,k4,U];rfl
 have q:=J;unfold wt at q;have HX:=zc (And.intro (zcV (o':=.cells #[.int .i64 z,.string s,.int .i64 (i:Int)] 108) (hN0 x (.cells (bxA S w) 59))) (new2 x (.cells (bxA S w) 59) (.cells #[.int .i64 z,.string s,.int .i64 (i:Int)] 108)));clear h;unfold zo;go_enter func101,ntmps101;go_wp2_with fail;refine (zeU g S w i _ X ha V ((Z.o.alloc _).alloc _) J).mono ?_;rintro e L ⟨rfl,H⟩;have O:Hid (Bw x L):=(zbq x _ _).trans (H.mono (by rw[zh,zh];omega));have I:=zc ((H.block _ (by rw[zh,zh];omega)).trans HX.o.2);obtain⟨c0,c1,c2,cf⟩:=zg I.o;clear H;obtain⟨t,A⟩: ∃t,prX w.ex i=t:=⟨_,rfl⟩;rw[A] at q ⊢;have M:=zc A;clear A;go_wp2;go_ret;exact⟨za9 (by rw[HV.o,M.o]),O.o⟩
theorem ztz (i:Nat) (x:World) (h:OwnMd x g S w) (J:i<w.ex.length) (K:zay w.ex) (H:zbH w.ex) (A:wt w.ex i<=1099511627776) (I:s.size<=4294967296):
  Calls prog 101 #[zo S w,.agg #[.int .i64 z,.string s,.int .i64 (i:Int)]] x fun e w'=>e= .returned (.string (zaE z s (prX w.ex i)))/\Bw x w':=by
 cases q:(z==1) with
 |true=>
  cases O:(s.toList==[42,100,101,102,97,117,108,116]) with
  |true=>exact zts g S w z s i x h J K H A I q O
  |false=>exact ztt g S w z s i x h J K H A I q O
 |false=>
  cases L:(z==2) with
  |true=>exact ztu g S w z s i x h J K H A I q L
  |false=>
   cases M:(z==3) with
   |true=>exact ztv g S w z s i x h J K H A I q L M
   |false=>
    cases N:(z==4) with
    |true=>exact ztw g S w z s i x h J K H A I q L M N
    |false=>
     cases U:(z==5) with
     |true=>exact ztx g S w z s i x h J K H A I q L M N U
     |false=>exact zty g S w z s i x h J K H A I q L M N U
theorem zfK (a b c:Int) (w:World):
  Calls prog 37 #[.int .i64 a,.int .i64 b,.int .i64 c] w fun e w'=>e= .returned (.bool (inB a b c))/\w'=w:=by
 by_cases h:b<=a
 ·by_cases q:a<=c
  ·go_enter func37,ntmps37;go_wp2;go_ret;exact⟨zk (zkm h q).symm,rfl⟩
  ·go_enter func37,ntmps37;go_wp2;go_ret;exact⟨zk (zim (by omega)).symm,rfl⟩
 ·go_enter func37,ntmps37;go_wp2;go_ret;exact⟨zk (zim (by omega)).symm,rfl⟩
set_option maxHeartbeats 3200000
theorem znU (s:BA0) (w:World) (_:s.size<=9223372036854775807):
  Calls prog 67 #[.string s] w fun e w'=>e= .returned (.bool (zbe s))/\w'=w:=by
 by_cases hl:1<=s.size/\s.size<=40
 ·obtain⟨Z,O⟩:=hl;have X:=zkm (a:=s.size) (b:=1) (c:=40) (by omega) (by omega);have hb:=get_bt s;by_cases H:(bt s 0==47)=true
  ·have I:bt s 0=47:=by simpa using H
   have Y:Hid (bt s 0=47):=I;have N:(bt s 0 !=47)=false:=by simpa using I
   clear I;go_enter func67,ntmps67;go_wp2_with (go_at_call 37;refine (zfK _ _ _ _).mono ?_;rintro e w' ⟨rfl,rfl⟩);go_loop [3,4] (fun i _=>∃k:Nat,k<=s.size/\i= .int .i64 k/\∀j,j<k->okc (bt s j)) (fun i _=>(s.size-intOf i).toNat)
   case atStart=>exact⟨0,by omega,rfl,fun j hj=>by omega⟩
   case round=>
    obtain⟨k,hk,rfl,L⟩:=hrel;have K:Hid (∀j,j<k->okc (bt s j)):=L;clear L;by_cases M:k<s.size
    ·have aa:=bt_nonneg s k;have ab:=bt_le s k;by_cases J:okc (bt s k)
     ·have A:Hid (∀j,j<k+1->okc (bt s j)):=fun j hj=>by
       by_cases e:j=k
       ·rw[e];exact J
       ·exact K.o j (by omega)
      have q:(97<=bt s k/\bt s k<=122)∨(48<=bt s k/\bt s k<=57)∨bt s k=46∨bt s k=95∨bt s k=45∨bt s k=47:=J;clear J;rcases q with ⟨a,b⟩|⟨a,b⟩|a|a|a|a
      all_goals
       go_wp2;go_round
       case rel=>exact⟨k+1,by omega,by go_num,A.o⟩
       case measure=>simp[intOf];omega
     ·have A:Hid (¬zcK s):=fun h=>J (h.2.2.2 k M);have q: ¬(97<=bt s k/\bt s k<=122)/\¬(48<=bt s k/\bt s k<=57)/\bt s k≠46/\bt s k≠95/\bt s k≠45/\bt s k≠47:=by
       unfold okc at J;omega
      obtain⟨U,V,c3,c4,c5,c6⟩:=q;have d3:(bt s k==46)=false:=bN0 c3;have d4:(bt s k==95)=false:=bN0 c4;have d5:(bt s k==45)=false:=bN0 c5;have d6:(bt s k==47)=false:=bN0 c6;clear J c3 c4 c5 c6;by_cases g1:97<=bt s k
      ·have g2:122<bt s k:=by omega
       have q1:decide (bt s k<=122)=false:=dF (by omega);have q2:decide (bt s k<=57)=false:=dF (by omega);clear U V;go_wp2;go_ret;exact⟨zk (zea A.o).symm,rfl⟩
      ·by_cases g3:48<=bt s k
       ·have g4:57<bt s k:=by omega
        have q2:decide (bt s k<=57)=false:=dF (by omega);clear U V;go_wp2;go_ret;exact⟨zk (zea A.o).symm,rfl⟩
       ·clear U V;go_wp2;go_ret;exact⟨zk (zea A.o).symm,rfl⟩
    ·have HY:Hid (zcK s):=⟨Z,O,Y.o,fun j hj=>K.o j (by omega)⟩;go_wp2;go_ret;exact⟨zk (zl2 HY.o).symm,rfl⟩
  ·have A:Hid (¬zcK s):=fun h=>H (by rw[h.2.2.1];rfl);have N:(bt s 0 !=47)=true:=by simpa using H
   clear H;go_enter func67,ntmps67;go_wp2_with (go_at_call 37;refine (zfK _ _ _ _).mono ?_;rintro e w' ⟨rfl,rfl⟩);go_ret;exact⟨zk (zea A.o).symm,rfl⟩
 ·have A:Hid (¬zcK s):=fun h=>hl ⟨h.1,h.2.1⟩;have X:=zim (a:=s.size) (b:=1) (c:=40) (by omega);go_enter func67,ntmps67;go_wp2_with (go_at_call 37;refine (zfK _ _ _ _).mono ?_;rintro e w' ⟨rfl,rfl⟩);go_ret;exact⟨zk (zea A.o).symm,rfl⟩
theorem Tryz.infoStr:(prog.info? 9).map (fun i=>(i.zero,i.size,i.bytes))=some (some (.string {data:=#[]}),1,16):=by kernel_rfl
theorem zxU (c:UInt8):({data:=#[c]}:BA0).size=1:=rfl
theorem zxV (s:BA0) (w:World) (hs:s.size<=9223372036854775807):
  Calls prog 38 #[.string s] w fun e w'=>e= .returned (.string (zaR s))/\Bw w w':=by
 obtain⟨i0,hi,ah,aj,al⟩:=info_parts Tryz.infoStr;by_cases hp:zbe s=true
 ·have aA:1<=s.size:=(zet.1 hp).1;have ay:s.size<=40:=(zet.1 hp).2.1;have HP:Hid (zbe s=true):=hp;have hb:=get_bt s;go_enter func38,ntmps38;go_wp2_with (go_at_call 67;refine (znU _ _ hs).mono ?_;rintro e w' ⟨rfl,rfl⟩);go_loopw [3,4,5,6] (fun l f i _ wr=>∃(k n g I:Nat) (q:List BA0) (J:Nat),k<=s.size+1/\i= .int .i64 k/\f= .int .i64 J/\l= .slice (some ⟨g,0,none⟩) n I/\zad s k=(J,q)/\zbw wr w'.heap.size 9 g n I q/\Below w'.heap.size w' wr) (fun _ _ i _ _=>(s.size+1-intOf i).toNat)
  case atStart=>exact⟨0,0,w'.heap.size,0,[],0,by omega,rfl,rfl,rfl,rfl,⟨World.ownsRow_lit w' #[] 0 (Nat.le_refl _) (by unfold maxLen;omega) rfl,rfl⟩,bA0⟩
  case round=>
   obtain⟨k,n,g,I,q,J,hk,rfl,rfl,rfl,ab,h,A⟩:=hrel;have HT:Hid (zad s k=(J,q)):=ab;have aa:=ziQ s k;rw[ab] at aa;simp only at aa;have hn:=zhw h;have N:=ziX h;have K:n<=42:=by omega
   have H:Hid (n=q.length):=hn;clear ab hn;have av:J<=k:=aa.1;clear aa;have ak:=A.size;by_cases ax:k<=s.size
   ·by_cases hc:k<s.size/\bt s k≠47
    ·obtain⟨ad,ae⟩:=hc;have Y:Hid (zad s (k+1)=(J,q)):=(zl3 ad ae).trans HT.o;have hq:(bt s k !=47)=true:=by simpa using ae
     clear ae;go_wp2;go_roundw
     case rel=>exact⟨k+1,n,g,I,q,J,by omega,by go_num,rfl,rfl,Y.o,h,A⟩
     case measure=>simp[intOf];omega
    ·have Y:Hid (zad s (k+1)=(k+1,upd (s.extract J k) q)):=by
      have:=zl4 hc;rw[HT.o] at this;exact this
     by_cases ao:k<s.size
     ·have hq:(bt s k !=47)=false:=by
       have:bt s k=47:=by
        rcases Classical.em (bt s k=47) with e|e
        ·exact e
        ·exact absurd ⟨ao,e⟩ hc
       simp[this]
      clear hc;by_cases p0:(s.extract J k).toList.isEmpty=true
      ·have L:Hid (zad s (k+1)=(k+1,q)):=by have:=Y.o;rw[zhv p0] at this;exact this
       go_wp2;go_roundw
       case rel=>exact⟨k+1,n,g,I,q,k+1,by omega,by go_num,by go_num,rfl,L.o,h,A⟩
       case measure=>simp[intOf];omega
      ·have U:(s.extract J k).toList.isEmpty=false:=by simpa using p0
       clear p0;by_cases p1:((s.extract J k).toList==[46])=true
       ·have L:Hid (zad s (k+1)=(k+1,q)):=by have:=Y.o;rw[ziR p1] at this;exact this
        go_wp2;go_roundw
        case rel=>exact⟨k+1,n,g,I,q,k+1,by omega,by go_num,by go_num,rfl,L.o,h,A⟩
        case measure=>simp[intOf];omega
       ·have V:((s.extract J k).toList==[46])=false:=by simpa using p1
        clear p1;by_cases p2:((s.extract J k).toList==[46,46])=true
        ·have L:Hid (zad s (k+1)=(k+1,q.dropLast)):=by have:=Y.o;rw[ziT U V p2] at this;exact this
         match n,h,H,K,N with
         |0,h,H,K,N=>
          have HD:Hid (q.dropLast=q):=by
           show q.dropLast=q;have:=H.o;have e:q=[]:=List.length_eq_zero_iff.1 this.symm;rw[e];rfl
          go_wp2;go_roundw
          case rel=>exact⟨k+1,0,g,I,q,k+1,by omega,by go_num,by go_num,rfl,by rw[L.o,HD.o],h,A⟩
          case measure=>simp[intOf];omega
         |n+1,h,H,K,N=>
          have X:=zl8 h;have ad:n<=I:=by omega
          go_wp2;go_roundw
          case rel=>exact⟨k+1,n,g,I,q.dropLast,k+1,by omega,by go_num,by go_num,rfl,L.o,X,A⟩
          case measure=>simp[intOf];omega
        ·have ac:((s.extract J k).toList==[46,46])=false:=by simpa using p2
         clear p2;have L:Hid (zad s (k+1)=(k+1,q++[s.extract J k])):=by have:=Y.o;rw[ziS U V ac] at this;exact this
         go_wp2_with (first|(at_builtin;refine zhx wr rfl _ _ 22 rfl w'.heap.size 9 i0 _ underlying22 hi ah aj al rfl g n I q (by rfl) h (s.extract J k) (by rfl) (by omega) ak ?_));intro g' O w2 M af;go_wp2;go_roundw
         case rel=>exact⟨k+1,n+1,g',O,q++[s.extract J k],k+1,by omega,by go_num,by go_num,rfl,L.o,M,A.trans af⟩
         case measure=>simp[intOf];omega
     ·clear hc;by_cases p0:(s.extract J k).toList.isEmpty=true
      ·have L:Hid (zad s (k+1)=(k+1,q)):=by have:=Y.o;rw[zhv p0] at this;exact this
       go_wp2;go_roundw
       case rel=>exact⟨k+1,n,g,I,q,k+1,by omega,by go_num,by go_num,rfl,L.o,h,A⟩
       case measure=>simp[intOf];omega
      ·have U:(s.extract J k).toList.isEmpty=false:=by simpa using p0
       clear p0;by_cases p1:((s.extract J k).toList==[46])=true
       ·have L:Hid (zad s (k+1)=(k+1,q)):=by have:=Y.o;rw[ziR p1] at this;exact this
        go_wp2;go_roundw
        case rel=>exact⟨k+1,n,g,I,q,k+1,by omega,by go_num,by go_num,rfl,L.o,h,A⟩
        case measure=>simp[intOf];omega
       ·have V:((s.extract J k).toList==[46])=false:=by simpa using p1
        clear p1;by_cases p2:((s.extract J k).toList==[46,46])=true
        ·have L:Hid (zad s (k+1)=(k+1,q.dropLast)):=by have:=Y.o;rw[ziT U V p2] at this;exact this
         match n,h,H,K,N with
         |0,h,H,K,N=>
          have HD:Hid (q.dropLast=q):=by
           show q.dropLast=q;have:=H.o;have e:q=[]:=List.length_eq_zero_iff.1 this.symm;rw[e];rfl
          go_wp2;go_roundw
          case rel=>exact⟨k+1,0,g,I,q,k+1,by omega,by go_num,by go_num,rfl,by rw[L.o,HD.o],h,A⟩
          case measure=>simp[intOf];omega
         |n+1,h,H,K,N=>
          have X:=zl8 h;have ad:n<=I:=by omega
          go_wp2;go_roundw
          case rel=>exact⟨k+1,n,g,I,q.dropLast,k+1,by omega,by go_num,by go_num,rfl,L.o,X,A⟩
          case measure=>simp[intOf];omega
        ·have ac:((s.extract J k).toList==[46,46])=false:=by simpa using p2
         clear p2;have L:Hid (zad s (k+1)=(k+1,q++[s.extract J k])):=by have:=Y.o;rw[ziS U V ac] at this;exact this
         go_wp2_with (first|(at_builtin;refine zhx wr rfl _ _ 22 rfl w'.heap.size 9 i0 _ underlying22 hi ah aj al rfl g n I q (by rfl) h (s.extract J k) (by rfl) (by omega) ak ?_));intro g' O w2 M af;go_wp2;go_roundw
         case rel=>exact⟨k+1,n+1,g',O,q++[s.extract J k],k+1,by omega,by go_num,by go_num,rfl,L.o,M,A.trans af⟩
         case measure=>simp[intOf];omega
   ·obtain rfl:k=s.size+1:=by omega
    have ag:Hid (parts s=q):=by show (zad s (s.size+1)).2=q;rw[HT.o]
    have ai: ∀x∈q,x.size<=s.size:=by
     have:=zl5 s (s.size+1);rw[HT.o] at this;exact this
    have HX:Hid (∀x∈q,x.size<=s.size):=ai;clear ai;by_cases Z:n=0
    ·have HE:Hid (zaR s={data:=#[47]}):=ziV HP.o (by rw[ag.o,<-H.o];exact Z);have hq:((n:Int)==0)=true:=by rw[Z];rfl
     clear Z;go_wp2;go_ret;exact⟨za9 HE.o.symm,A⟩
    ·have HE:Hid (zaR s=zc5 q n):=by
      have:=ziW HP.o (by rw[ag.o,<-H.o];exact Z);rw[ag.o,<-H.o] at this;exact this
     have hq:((n:Int)==0)=false:=bN0 (by omega);go_wp2;go_loop [7,8] (fun o i=>∃j:Nat,j<=n/\i= .int .i64 j/\o= .string (zc5 q j)) (fun _ i=>(n-intOf i).toNat)
     case atStart=>exact⟨0,by omega,rfl,rfl⟩
     case round=>
      obtain⟨j,hj,rfl,rfl⟩:=hrel;by_cases an:j<n
      ·have aq:=ziY h j an;have aw:(zc5 q j).size<=2000:=by
        have h1:=zl7 s q HX.o j;have h2:j*(s.size+1)<=42*41:=Nat.mul_le_mul (by omega) (by omega);omega
       have az:(q[j]?.getD {data:=#[]}).size<=40:=by
        have:=zl6 s q HX.o j;rw[List.getD_eq_getElem?_getD] at this;omega
       have au:(zc5 q j++{data:=#[47]}).size<=2001:=by rw[sA,zxU];omega
       have HJ:Hid (zc5 q (j+1)=zc5 q j++{data:=#[47]}++q.getD j {data:=#[]}):=rfl;go_wp2;go_round
       case rel=>exact⟨j+1,by omega,by go_num,by rw[HJ.o,List.getD_eq_getElem?_getD]⟩
       case measure=>simp[intOf];omega
      ·have am:j=n:=by omega
       have ar:Hid (zaR s=zc5 q j):=by show zaR s=_;rw[HE.o,am]
       clear am;go_wp2;go_ret;exact⟨za9 ar.o.symm,A⟩
 ·have ap:zbe s=false:=by simpa using hp
  have HV:Hid (zaR s={data:=#[]}):=ziU ap;clear hp;go_enter func38,ntmps38;go_wp2_with (go_at_call 67;refine (znU _ _ hs).mono ?_;rintro e w' ⟨rfl,rfl⟩);go_ret;exact⟨za9 HV.o.symm,Below.refl _ _⟩
structure MdR (w:World) (V:Sv) (m:Md):Prop where
 im:RowAt w V.im.a imL 3 m.im
 ep:RowAt w V.ep.a epL 4 m.ep
 st:RowAt w V.st.a smL 3 m.st
 ex:RowAt w V.ex.a exL 6 m.ex
variable {w:World} {W:Obj} {g:Nat} {C:List BA0}
theorem MdR.later {w':World} {V:Sv} {m:Md} (h:MdR w V m) (q:Bw w w'):MdR w' V m:=⟨h.im.later q,h.ep.later q,h.st.later q,h.ex.later q⟩
structure UW (w:World) (bx:Obj) (g n cap:Nat) (xs:List BA0) (W:World):Prop where
 box:W.heap[w.heap.size]? =some bx
 bel:Bw w W
 own:zbw W (w.heap.size+1) 9 g n cap xs
 siz:w.heap.size+1<=W.heap.size
theorem UW.put {S I:World} {n A M J q:Nat} {L:List BA0} (h:UW w W g n A C S) (H:Bw S I) (N:zbw I (w.heap.size+1) 9 M J q L):UW w W M J q L I:=
 ⟨(H.block _ (aLt h.box)).trans h.box,h.bel.trans (H.mono h.bel.size),N,Nat.le_trans h.siz H.size⟩
theorem UW.app {S I:World} {n A M J q:Nat} {L:List BA0} (h:UW w W g n A C S) (N:zbw I (w.heap.size+1) 9 M J q L) (H:S.grownBy I (some g)):UW w W M J q L I:=by
 have U:=znT h.own;have O:=(aLt h.box);exact⟨(H.block _ O fun e=>by have:=oI e;omega).trans h.box,h.bel.grown H h.bel.size fun k e=>by have:=oI e;omega,N,Nat.le_trans h.siz H.size⟩
theorem UW.aside {S I:World} {n q x:Nat} (h:UW w W g n q C S) (A:S.grownBy I (some x)) (L:w.heap.size+1<=x) (M:g<x):UW w W g n q C I:=by
 have J:=znT h.own;have K:=(aLt h.box);exact⟨(A.block _ K fun e=>by have:=oI e;omega).trans h.box,h.bel.grown A h.bel.size fun k e=>by have:=oI e;omega,zxL h.own (A.block g J.2 fun e=>by have:=oI e;omega),Nat.le_trans h.siz A.size⟩
theorem UW.start (w:World) (h:Obj):UW w h (w.heap.size+1) 0 0 [] ((w.alloc h).alloc (.cells #[] 9)):=by
 have e:(w.alloc h).heap.size=w.heap.size+1:=zh w h;refine⟨(heap_alloc_old _ _ (by rw[e];omega)).trans (hN0 w _),(bA0).alloc (by rw[e];omega) _,?_,by rw[zh,e];omega⟩;have:=World.ownsRow_lit (w.alloc h) (base:=w.heap.size+1) (e:=9) (size:=1) #[] 0 (by rw[e];exact Nat.le_refl _) (by unfold maxLen;omega) rfl;rw[e] at this;exact⟨this,rfl⟩
def z0j (w:World) (l:List BA0) (e:Ending) (w':World):Prop:=∃g n cap,e= .returned (.slice (some ⟨g,0,none⟩) n cap)/\zbw w' w.heap.size 9 g n cap l/\Bw w w'
def zfL (S:Sv) (m:Md):Obj:=.cells #[.slice S.rq.a m.rq.length S.rq.cap,.slice S.im.a m.im.length S.im.cap,.slice S.ep.a m.ep.length S.ep.cap,.slice S.st.a m.st.length S.st.cap,.slice S.ex.a m.ex.length S.ex.cap] 59
def z0k:Obj:=.cells #[.slice none 0 0,.slice none 0 0,.slice none 0 0,.slice none 0 0,.slice none 0 0] 59
theorem zfM {w':World} (h:w.heap[g]? =some W) (q:Bw w w'):w'.heap[g]? =some W:=(q.block g (aLt h)).trans h
set_option maxHeartbeats 1600000
def okB (c:Int):Bool:=decide (okc c)
variable {z:Int}
theorem zog (h:okc z):okB z=true:=dT h
theorem zoh (h: ¬okc z):okB z=false:=dF h
theorem zoi (c:Int) (w:World) (h0:0<=c) (h1:c<=255):
  Calls prog 107 #[.int .u8 c] w fun e w'=>e= .returned (.bool (okB c))/\w'=w:=by
 by_cases A:okc c
 ·have q:Hid (okB c=true):=zog A;have h:(c=46∨c=95∨c=45∨c=47)∨(97<=c/\c<=122)∨(48<=c/\c<=57):=by unfold okc at A;omega
  clear A;rcases h with a|a|a
  ·rcases a with rfl|rfl|rfl|rfl
   all_goals
    go_enter func107,ntmps107;go_wp2;go_ret;exact⟨zk q.o.symm,rfl⟩
  ·have V:(c==46)=false:=bN0 (by omega);have U:(c==95)=false:=bN0 (by omega);have X:(c==45)=false:=bN0 (by omega);have Y:(c==47)=false:=bN0 (by omega);obtain⟨Z,M⟩:=a;have O:decide (c<=122)=true:=dT M;go_enter func107,ntmps107;go_wp2;go_ret;exact⟨zk q.o.symm,rfl⟩
  ·have V:(c==46)=false:=bN0 (by omega);have U:(c==95)=false:=bN0 (by omega);have X:(c==45)=false:=bN0 (by omega);have Y:(c==47)=false:=bN0 (by omega);obtain⟨Z,M⟩:=a;have O:decide (c<=57)=true:=dT M;go_enter func107,ntmps107;go_wp2;go_ret;exact⟨zk q.o.symm,rfl⟩
 ·have q:Hid (okB c=false):=zoh A;have h:c≠46/\c≠95/\c≠45/\c≠47/\¬(97<=c/\c<=122)/\¬(48<=c/\c<=57):=by unfold okc at A;omega
  clear A;obtain⟨H,I,J,K,L,N⟩:=h;have V:(c==46)=false:=bN0 H;have U:(c==95)=false:=bN0 I;have X:(c==45)=false:=bN0 J;have Y:(c==47)=false:=bN0 K;by_cases g1:97<=c
  ·have q1:decide (c<=122)=false:=dF (by omega);have O:decide (c<=57)=false:=dF (by omega);have g2:48<=c:=by omega
   clear H I J K L N;go_enter func107,ntmps107;go_wp2;go_ret;exact⟨zk q.o.symm,rfl⟩
  ·by_cases g3:48<=c
   ·have O:decide (c<=57)=false:=dF (by omega);clear H I J K L N;go_enter func107,ntmps107;go_wp2;go_ret;exact⟨zk q.o.symm,rfl⟩
   ·clear H I J K L N;go_enter func107,ntmps107;go_wp2;go_ret;exact⟨zk q.o.symm,rfl⟩
theorem zjR (s:BA0) (w:World) (_:s.size<=9223372036854775807):
  Calls prog 76 #[.string s] w fun e w'=>e= .returned (.bool (zbe s))/\w'=w:=by
 have hb:=get_bt s;by_cases N:1<=s.size
 ·by_cases K:s.size<=40
  ·by_cases q:(bt s 0==47)=true
   ·have H:bt s 0=47:=by simpa using q
    have X:Hid (bt s 0=47):=H;have V:(bt s 0 !=47)=false:=by simpa using H
    clear H q;go_enter func76,ntmps76;go_wp2;go_loop [19,3] (fun i _=>∃k:Nat,k<=s.size/\i= .int .i64 k/\∀j,j<k->okc (bt s j)) (fun i _=>(s.size-intOf i).toNat)
    case atStart=>exact⟨0,by omega,rfl,fun j Y=>by omega⟩
    case round=>
     obtain⟨k,hk,rfl,M⟩:=hrel;have J:Hid (∀j,j<k->okc (bt s j)):=M;clear M;by_cases U:k<s.size
     ·have L:=bt_nonneg s k;have O:=bt_le s k;by_cases I:okc (bt s k)
      ·have A:Hid (∀j,j<k+1->okc (bt s j)):=fun j Y=>by
        by_cases e:j=k
        ·rw[e];exact I
        ·exact J.o j (by omega)
       have Z:=zog I;clear I;go_wp2_with (go_at_call 107;refine (zoi _ _ L O).mono ?_;rintro e w' ⟨rfl,rfl⟩);go_round
       case rel=>exact⟨k+1,by omega,by go_num,A.o⟩
       case measure=>simp[intOf];omega
      ·have A:Hid (¬zcK s):=fun h=>I (h.2.2.2 k U);have Z:=zoh I;clear I;go_wp2_with (go_at_call 107;refine (zoi _ _ L O).mono ?_;rintro e w' ⟨rfl,rfl⟩);go_ret;exact⟨zk (zea A.o).symm,rfl⟩
     ·have HY:Hid (zcK s):=⟨N,K,X.o,fun j Y=>J.o j (by omega)⟩;go_wp2;go_ret;exact⟨zk (zl2 HY.o).symm,rfl⟩
   ·have A:Hid (¬zcK s):=fun h=>q (by rw[h.2.2.1];rfl);have V:(bt s 0 !=47)=true:=by simpa using q
    clear q;go_enter func76,ntmps76;go_wp2;go_ret;exact⟨zk (zea A.o).symm,rfl⟩
  ·have A:Hid (¬zcK s):=fun h=>K h.2.1;go_enter func76,ntmps76;go_wp2;go_ret;exact⟨zk (zea A.o).symm,rfl⟩
 ·have A:Hid (¬zcK s):=fun h=>N h.1;go_enter func76,ntmps76;go_wp2;go_ret;exact⟨zk (zea A.o).symm,rfl⟩
