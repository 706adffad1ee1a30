/- Facts and walks that the theorem stands on. -/
import Derived.Laws.StructEq
import Derived.Test.YtgcbmogmniahjaaGreatG22
namespace Go.Proofs.YtgcbmogmniahjaaGreat
open Go.Proofs.Tryz
set_option maxRecDepth 100000
set_option maxHeartbeats 12800000
open Go.RowKit Go.PlainAid Go.Sort
theorem zkx (x y:Im) (w:World):Sem.run prog (binOp .neq 95 (.agg #[.string x.spec,.string x.first,.string x.loc]) (.agg #[.string y.spec,.string y.first,.string y.loc])) w= .ok (.bool (!zdh x y)) w:=by
 have E:=underlying9;have I:=Tryz.isAgg9;have H:=Tryz.sizeOf9;have K:=underlying3;have J:=Tryz.isAgg3;have L:=Tryz.sizeOf3;have z:prog.underlying 95=some (.struct (prog.fieldsOf 95)):=by kernel_rfl
 have h:prog.stoodInHeld 95=false:=by kernel_rfl
 rw[run_neq_struct,show (10000:Nat)=9999+1 from rfl,run_equalIn_agg w 9999 95 _ _ z h];simp only[Program.fieldsOf,underlying95];go_simp;by_cases D:x.spec.toList=y.spec.toList<;>by_cases A:x.first.toList=y.first.toList<;>by_cases q:x.loc.toList=y.loc.toList<;>simp[zdh,D,A,q]
theorem zky (h:BinOp) (a b:Operand) (x y:Im) (w:World):Sem.run prog (eqGuard h 95 a b (.agg #[.string x.spec,.string x.first,.string x.loc]) (.agg #[.string y.spec,.string y.first,.string y.loc])) w= .ok () w:=run_eqGuard_agg w h 95 a b _ _ (by kernel_rfl)
theorem zkz (x y:Ep) (w:World):Sem.run prog (binOp .neq 97 (.agg #[.int .i64 x.kind,.string x.name,.string x.loc,.string x.spec]) (.agg #[.int .i64 y.kind,.string y.name,.string y.loc,.string y.spec])) w= .ok (.bool (!zdi x y)) w:=by
 have H:=underlying9;have J:=Tryz.isAgg9;have I:=Tryz.sizeOf9;have L:=underlying3;have K:=Tryz.isAgg3;have M:=Tryz.sizeOf3;have z:prog.underlying 97=some (.struct (prog.fieldsOf 97)):=by kernel_rfl
 have h:prog.stoodInHeld 97=false:=by kernel_rfl
 rw[run_neq_struct,show (10000:Nat)=9999+1 from rfl,run_equalIn_agg w 9999 97 _ _ z h];simp only[Program.fieldsOf,underlying97];go_simp;by_cases D:x.kind=y.kind<;>by_cases A:x.name.toList=y.name.toList<;>by_cases q:x.loc.toList=y.loc.toList<;>by_cases E:x.spec.toList=y.spec.toList<;>simp[zdi,D,A,q,E]
theorem zk0 (h:BinOp) (a b:Operand) (x y:Ep) (w:World):Sem.run prog (eqGuard h 97 a b (.agg #[.int .i64 x.kind,.string x.name,.string x.loc,.string x.spec]) (.agg #[.int .i64 y.kind,.string y.name,.string y.loc,.string y.spec])) w= .ok () w:=run_eqGuard_agg w h 97 a b _ _ (by kernel_rfl)
theorem zk1 (x y:Sm) (w:World):Sem.run prog (binOp .neq 102 (.agg #[.int .i64 x.kind,.string x.name,.int .i64 x.expr]) (.agg #[.int .i64 y.kind,.string y.name,.int .i64 y.expr])) w= .ok (.bool (!zdj x y)) w:=by
 have E:=underlying9;have I:=Tryz.isAgg9;have H:=Tryz.sizeOf9;have K:=underlying3;have J:=Tryz.isAgg3;have L:=Tryz.sizeOf3;have z:prog.underlying 102=some (.struct (prog.fieldsOf 102)):=by kernel_rfl
 have h:prog.stoodInHeld 102=false:=by kernel_rfl
 rw[run_neq_struct,show (10000:Nat)=9999+1 from rfl,run_equalIn_agg w 9999 102 _ _ z h];simp only[Program.fieldsOf,underlying102];go_simp;by_cases D:x.kind=y.kind<;>by_cases A:x.name.toList=y.name.toList<;>by_cases q:x.expr=y.expr<;>simp[zdj,D,A,q]
theorem zk2 (h:BinOp) (a b:Operand) (x y:Sm) (w:World):Sem.run prog (eqGuard h 102 a b (.agg #[.int .i64 x.kind,.string x.name,.int .i64 x.expr]) (.agg #[.int .i64 y.kind,.string y.name,.int .i64 y.expr])) w= .ok () w:=run_eqGuard_agg w h 102 a b _ _ (by kernel_rfl)
theorem zk3 (x y:Ex) (w:World):Sem.run prog (binOp .neq 100 (.agg #[.int .i64 x.kind,.int .i64 x.num,.string x.name,.string x.field,.int .i64 x.l,.int .i64 x.r]) (.agg #[.int .i64 y.kind,.int .i64 y.num,.string y.name,.string y.field,.int .i64 y.l,.int .i64 y.r])) w= .ok (.bool (!zdk x y)) w:=by
 have J:=underlying9;have L:=Tryz.isAgg9;have K:=Tryz.sizeOf9;have N:=underlying3;have M:=Tryz.isAgg3;have O:=Tryz.sizeOf3;have z:prog.underlying 100=some (.struct (prog.fieldsOf 100)):=by kernel_rfl
 have h:prog.stoodInHeld 100=false:=by kernel_rfl
 rw[run_neq_struct,show (10000:Nat)=9999+1 from rfl,run_equalIn_agg w 9999 100 _ _ z h];simp only[Program.fieldsOf,underlying100];go_simp;by_cases H:x.kind=y.kind<;>by_cases D:x.num=y.num<;>by_cases q:x.name.toList=y.name.toList<;>by_cases I:x.field.toList=y.field.toList<;>by_cases A:x.l=y.l<;>by_cases E:x.r=y.r<;>simp[zdk,H,D,q,I,A,E]
theorem zk4 (h:BinOp) (a b:Operand) (x y:Ex) (w:World):Sem.run prog (eqGuard h 100 a b (.agg #[.int .i64 x.kind,.int .i64 x.num,.string x.name,.string x.field,.int .i64 x.l,.int .i64 x.r]) (.agg #[.int .i64 y.kind,.int .i64 y.num,.string y.name,.string y.field,.int .i64 y.l,.int .i64 y.r])) w= .ok () w:=run_eqGuard_agg w h 100 a b _ _ (by kernel_rfl)
theorem zk5 (b1 b2:Nat) (Z Y:Sv) (A I:Md) (w:World) (h1:OwnMd w b1 Z A) (h2:OwnMd w b2 Y I) (hf:zdC A):
  Calls prog 137 #[zl Z A,zl Y I] w fun e w'=>SameOut (A=I) e/\Below w.heap.size w w':=by
 have H1:=zc h1;have H2:=zc h2;have HF:=zc hf;clear h1 h2 hf;unfold zl;go_enter func137,ntmps137;go_upto_region 1 with fail;refine zy (R:=TwoM w b1 b2 Z Y A I) (zh2 w b1 b2 Z Y A I H1.o H2.o) ?_;clear H1 H2;intro w0 h;have T0:=zc h;clear h;obtain⟨X,K,M,U,L,O⟩:=zj T0.o.1;obtain⟨N,J,D,E,V,H⟩:=zj T0.o.2.1;go_wp2_with fail;refine (zox b1 b2 Z.rq Y.rq A.rq I.rq w0 (by rw[<-zeF];exact T0.o.2.2.1.rq) (by rw[<-zeF];exact T0.o.2.2.2.1.rq) HF.o.1).mono ?_;rintro e w1 ⟨⟨r,rfl,z⟩,q⟩;have T1:=zc (T0.o.later q);have R0:=zc z;clear q z X K M U L O N J D E V H;obtain⟨X,K,M,U,L,O⟩:=zj T1.o.1;obtain⟨N,J,D,E,V,H⟩:=zj T1.o.2.1;cases r with
 |false=>
  go_wp2;go_ret;exact⟨⟨false,rfl,⟨fun k=>(by cases k),fun k=>(by have:=R0.o.2 (by rw[k]);cases this)⟩⟩,T1.o.2.2.2.2⟩
 |true=>
  go_wp2_with fail;refine (zo1 zkx zky b1 b2 Z.im Y.im A.im I.im w1 T1.o.2.2.1.im T1.o.2.2.2.1.im HF.o.2.1).mono ?_;rintro e w2 ⟨⟨r,rfl,z⟩,q⟩;have T2:=zc (T1.o.later q);have R1:=zc z;clear q z X K M U L O N J D E V H;obtain⟨X,K,M,U,L,O⟩:=zj T2.o.1;obtain⟨N,J,D,E,V,H⟩:=zj T2.o.2.1;cases r with
  |false=>
   go_wp2;go_ret;exact⟨⟨false,rfl,⟨fun k=>(by cases k),fun k=>(by have:=R1.o.2 (by rw[k]);cases this)⟩⟩,T2.o.2.2.2.2⟩
  |true=>
   go_wp2_with fail;refine (zo5 zkz zk0 b1 b2 Z.ep Y.ep A.ep I.ep w2 T2.o.2.2.1.ep T2.o.2.2.2.1.ep HF.o.2.2.1).mono ?_;rintro e w3 ⟨⟨r,rfl,z⟩,q⟩;have T3:=zc (T2.o.later q);have R2:=zc z;clear q z X K M U L O N J D E V H;obtain⟨X,K,M,U,L,O⟩:=zj T3.o.1;obtain⟨N,J,D,E,V,H⟩:=zj T3.o.2.1;cases r with
   |false=>
    go_wp2;go_ret;exact⟨⟨false,rfl,⟨fun k=>(by cases k),fun k=>(by have:=R2.o.2 (by rw[k]);cases this)⟩⟩,T3.o.2.2.2.2⟩
   |true=>
    go_wp2_with fail;refine (zo9 zk1 zk2 b1 b2 Z.st Y.st A.st I.st w3 T3.o.2.2.1.st T3.o.2.2.2.1.st HF.o.2.2.2.1).mono ?_;rintro e w4 ⟨⟨r,rfl,z⟩,q⟩;have T4:=zc (T3.o.later q);have R3:=zc z;clear q z X K M U L O N J D E V H;obtain⟨X,K,M,U,L,O⟩:=zj T4.o.1;obtain⟨N,J,D,E,V,H⟩:=zj T4.o.2.1;cases r with
    |false=>
     go_wp2;go_ret;exact⟨⟨false,rfl,⟨fun k=>(by cases k),fun k=>(by have:=R3.o.2 (by rw[k]);cases this)⟩⟩,T4.o.2.2.2.2⟩
    |true=>
     go_wp2_with fail;refine (zoD zk3 zk4 b1 b2 Z.ex Y.ex A.ex I.ex w4 T4.o.2.2.1.ex T4.o.2.2.2.1.ex HF.o.2.2.2.2).mono ?_;rintro e w5 ⟨⟨r,rfl,z⟩,q⟩;have T5:=zc (T4.o.later q);have R4:=zc z;clear q z X K M U L O N J D E V H;obtain⟨X,K,M,U,L,O⟩:=zj T5.o.1;obtain⟨N,J,D,E,V,H⟩:=zj T5.o.2.1;cases r with
     |false=>
      go_wp2;go_ret;exact⟨⟨false,rfl,⟨fun k=>(by cases k),fun k=>(by have:=R4.o.2 (by rw[k]);cases this)⟩⟩,T5.o.2.2.2.2⟩
     |true=>
      go_wp2;go_ret;exact⟨⟨true,rfl,⟨fun _=>zj6 (R0.o.1 (by simp)) (R1.o.1 (by simp)) (R2.o.1 (by simp)) (R3.o.1 (by simp)) (R4.o.1 (by simp)),fun _=>rfl⟩⟩,T5.o.2.2.2.2⟩
theorem Tryz.infoByte:(prog.info? 5).map (fun i=>(i.zero,i.size,i.bytes))=some (some (.int .u8 0),1,1):=by kernel_rfl
theorem zk6 (m:Int) (w:World) (H:0<=m) (I:m<=18446744073709551615):
  Calls prog 254 #[.int .u64 m] w fun e K=>e= .returned (.int .i64 (dcn m))/\K=w:=by
 have A:=zdw m H I;have J:dcn m<=20:=A.2.1;have E:1<=dcn m:=A.1;clear A;go_enter func254,ntmps254;go_wp2;go_loop [0,3] (fun a c=>∃k:Nat,k+1<=dcn m/\a= .int .u64 (m/10^k)/\c= .int .i64 ((k:Int)+1)) (fun a _=>(intOf a).toNat)
 case atStart=>exact⟨0,E,by simp,rfl⟩
 case round=>
  obtain⟨k,L,rfl,rfl⟩:=hrel;have M:=ze4 m k H;have z:=zmZ m H I k;by_cases q:10<=m/10^k
  ·have D:=z.1 q;clear z;go_wp2;go_round
   case rel=>exact⟨k+1,by omega,by rw[ze3],by go_num⟩
   case measure=>simp[intOf];omega
  ·have D: ¬(k+1<dcn m):=fun h=>q (z.2 h);clear z;go_wp2;go_ret;exact⟨zbA (by omega),rfl⟩
theorem zq6 (n:Int) (w:World) (O:0<=n) (h1:n<=9223372036854775807):
  Calls prog 241 #[.int .i64 n] w fun e D=>e= .returned (.string (strOfNums (dgk n (dcn n))))/\Below w.heap.size w D:=by
 obtain⟨Y,hi,J,L,M⟩:=info_parts Tryz.infoByte;have I:=zdw n O (by omega);have Z:dcn n<=20:=I.2.1;have aa:1<=dcn n:=I.1;clear I;go_enter func241,ntmps241;go_wp2_with (first|(go_at_call 254;refine (zk6 _ _ (by omega) (by omega)).mono ?_;rintro e D ⟨rfl,rfl⟩)|(at_make;refine wpList_make_full _ rfl _ _ 147 rfl D.heap.size 5 Y (.int .u8 0) 1 underlying147 hi J L _ _ _ _ (dcn n) rfl rfl (by omega) (by omega) ?b2 ?b3 ?b4 ?_))
 case b2=>rw[M];omega
 case b3=>unfold maxLen;omega
 case b4=>exact Nat.le_refl _
 intro w1 q z;have E:=(Below.refl D.heap.size D).grown z (Nat.le_refl _) (by intro k U;cases U);rw[toList_madeCells_one] at q;clear z;go_wp2;go_loopw [3,7,21] (fun r _ i wr=>∃k:Nat,k<=dcn n/\i= .int .i64 k/\r= .int .u64 (n/10^k)/\zcG wr D.heap.size 5 (.slice (some ⟨D.heap.size,0,none⟩) (dcn n) (dcn n)) (dcn n) (zcH (dgk n (dcn n)) k)/\Below D.heap.size D wr) (fun _ _ i _=>dcn n-(intOf i).toNat)
 case atStart=>exact⟨0,by omega,rfl,by simp,by unfold zcG;rw[ziL,zc8,List.map_replicate];exact q,E⟩
 case round=>
  obtain⟨k,U,rfl,rfl,h,A⟩:=hrel;clear q E;have hb:=ze4 n k O;by_cases H:k<dcn n
  ·obtain⟨v,hv⟩:=zhb h (dcn n-1-k) (by omega);have hf:=zhc h (dcn n-1-k);have V:=zha h (dcn n-1-k) (48+n/10^k%10);have N:=ziM (dgk n (dcn n)) k (48+n/10^k%10) (by rw[zc8];exact H) (by rw[zc8];exact ziV n _ k H);rw[zc8] at N;rw[N] at V;clear N h;go_wp2;go_roundw
   case rel=>exact⟨k+1,by omega,by go_num,by rw[ze3],V,A.setCell (Nat.le_refl _) _⟩
   case measure=>simp[intOf];omega
  ·have K:=zna (dgk n (dcn n));rw[zc8] at K;rw[show k=dcn n from by omega,K] at h;clear K;have X:=ziJ (P:=prog) (src:=147) (dst:=9) underlying147 underlying5 underlying9 h;go_wp2;go_ret;exact⟨rfl,A⟩
theorem zq7 (m:Int) (q:0<m) (h:m<=9223372036854775808):IntKind.u64.wrap (-IntKind.u64.wrap (-m))=m:=by
 rw[IntKind.wrap_u64,IntKind.wrap_u64];omega
theorem zq8 (m:Int) (w:World) (Y:0<m) (h1:m<=9223372036854775808):
  Calls prog 241 #[.int .i64 (-m)] w fun e D=>e= .returned (.string (strOfNums (45::dgk m (dcn m))))/\Below w.heap.size w D:=by
 obtain⟨i0,hi,L,N,O⟩:=info_parts Tryz.infoByte;have J:=zdw m (by omega) (by omega);have aa:dcn m<=20:=J.2.1;have ab:1<=dcn m:=J.1;clear J;have hu:=zq7 m Y h1;go_enter func241,ntmps241;go_wp2_with (first|(go_at_call 254;refine (zk6 _ _ (by omega) (by omega)).mono ?_;rintro e D ⟨rfl,rfl⟩)|(at_make;refine wpList_make_full _ rfl _ _ 147 rfl D.heap.size 5 i0 (.int .u8 0) 1 underlying147 hi L N _ _ _ _ (dcn m+1) rfl rfl (by omega) (by omega) ?b2 ?b3 ?b4 ?_))
 case b2=>rw[O];omega
 case b3=>unfold maxLen;omega
 case b4=>exact Nat.le_refl _
 intro w1 q z;have H:=(Below.refl D.heap.size D).grown z (Nat.le_refl _) (by intro k X;cases X);rw[toList_madeCells_one] at q;clear z;have E:(45::dgk m (dcn m)).length=dcn m+1:=by rw[List.length_cons,zc8]
 have U:Hid ((45::dgk m (dcn m)).length=dcn m+1):=E;clear E;go_wp2;go_loopw [3,7,21] (fun r _ i wr=>∃k:Nat,k<=dcn m/\i= .int .i64 k/\r= .int .u64 (m/10^k)/\zcG wr D.heap.size 5 (.slice (some ⟨D.heap.size,0,none⟩) (dcn m+1) (dcn m+1)) (dcn m+1) (zcH (45::dgk m (dcn m)) k)/\Below D.heap.size D wr) (fun _ _ i _=>dcn m-(intOf i).toNat)
 case atStart=>exact⟨0,by omega,rfl,by simp,by unfold zcG;rw[ziL,U.o,List.map_replicate];exact q,H⟩
 case round=>
  obtain⟨k,X,rfl,rfl,h,A⟩:=hrel;clear q H hu;have hb:=ze4 m k (by omega);by_cases K:k<dcn m
  ·obtain⟨v,hv⟩:=zhb h (dcn m-k) (by omega);have hf:=zhc h (dcn m-k);have I:=zha h (dcn m-k) (48+m/10^k%10);have V:=ziM (45::dgk m (dcn m)) k (48+m/10^k%10) (by rw[U.o];omega) (znc [45] m (dcn m) k K);rw[U.o,show dcn m+1-1-k=dcn m-k from by omega] at V;rw[V] at I;clear V h;go_wp2;go_roundw
   case rel=>exact⟨k+1,by omega,by go_num,by rw[ze3],I,A.setCell (Nat.le_refl _) _⟩
   case measure=>simp[intOf];omega
  ·have M:=znb 45 (dgk m (dcn m));rw[zc8] at M;rw[show k=dcn m from by omega] at h;obtain⟨v,hv⟩:=zhb h 0 (by omega);have hf:=zhc h 0;have I:=zha h 0 45;rw[M] at I;clear M h;have Z:=ziJ (P:=prog) (src:=147) (dst:=9) underlying147 underlying5 underlying9 I;go_wp2;go_ret;exact⟨rfl,A.setCell (Nat.le_refl _) _⟩
theorem zq9 (n:Int) (w:World) (z: -9223372036854775808<=n/\n<=9223372036854775807):
  Calls prog 241 #[.int .i64 n] w fun e q=>e= .returned (.string (strOfNums (zbT n)))/\Below w.heap.size w q:=by
 by_cases h:0<=n
 ·rw[zhf h];exact zq6 n w h z.2
 ·obtain⟨m,rfl⟩: ∃m,n= -m:=⟨-n,by omega⟩;rw[zhe (by omega),Int.neg_neg];exact zq8 m w (by omega) (by omega)
theorem neg_tmod (q:Int) (h:0<=q):(-q).tmod 10= -(q%10):=by rw[Int.neg_tmod,Int.tmod_eq_emod_of_nonneg h]
theorem neg_tdiv (q:Int) (h:0<=q):(-q).tdiv 10= -(q/10):=by rw[Int.neg_tdiv,Int.tdiv_eq_ediv_of_nonneg h]
theorem zqA (n:Int) (w:World) (X:0<n) (h1:n<=9223372036854775807):
  Calls prog 161 #[.int .i64 n] w fun e L=>e= .returned (.string (strOfNums (dgk n (dcn n))))/\Below w.heap.size w L:=by
 have D:=zdw n (by omega) (by omega);have U:dcn n<=20:=D.2.1;have V:1<=dcn n:=D.1;have K:(n==0)=false:=by simp;omega
 have J: ¬n<0:=by omega
 clear D;go_enter func161,ntmps161;go_wp2;go_loopw [0,3,5] (fun a o _ wr=>∃k:Nat,k<=dcn n/\a= .int .i64 (n/10^k)/\o= .string (strOfNums (dgk n k))/\Below w.heap.size w wr) (fun a _ _ _=>(intOf a).toNat)
 case atStart=>exact⟨0,by omega,by simp,rfl,Below.refl _ _⟩
 case round=>
  obtain⟨k,Z,rfl,rfl,q⟩:=hrel;have Y:=ze4 n k (by omega);have A:=ziU n (by omega) (by omega) k;have O:(strOfNums (dgk n k)).size<=20:=by rw[strOfNums_size,zc8];omega
  by_cases z:n/10^k=0
  ·have E: ¬(k<dcn n):=fun h=>A.2 h z;have H:(n/10^k !=0)=false:=by simpa using z
   clear A z;go_wp2;go_ret;exact⟨za5 (by rw[show dcn n=k from by omega]),q⟩
  ·have E:=A.1 z;have H:(n/10^k !=0)=true:=by simpa using z
   have N:0<n/10^k:=by omega
   clear A z;have M:=fun (w:World) (x:Int)=>ziK (P:=prog) (src:=147) (dst:=9) underlying147 underlying5 underlying9 w x;have I:=fun x=>strOfNums_size [x];go_wp2;go_roundw
   case rel=>exact⟨k+1,by omega,by rw[ze3],by rw[zfO];rfl,q.alloc q.size _⟩
   case measure=>simp[intOf];omega
theorem zqB (m:Int) (w:World) (Y:0<m) (h1:m<=9223372036854775808):
  Calls prog 161 #[.int .i64 (-m)] w fun e M=>e= .returned (.string (strOfNums (45::dgk m (dcn m))))/\Below w.heap.size w M:=by
 have A:=zdw m (by omega) (by omega);have V:dcn m<=20:=A.2.1;have X:1<=dcn m:=A.1;have L:(-m==0)=false:=by simp;omega
 clear A;go_enter func161,ntmps161;go_wp2;go_loopw [0,3,5] (fun a o _ wr=>∃k:Nat,k<=dcn m/\a= .int .i64 (-(m/10^k))/\o= .string (strOfNums (dgk m k))/\Below w.heap.size w wr) (fun a _ _ _=>(-(intOf a)).toNat)
 case atStart=>exact⟨0,by omega,by simp,rfl,Below.refl _ _⟩
 case round=>
  obtain⟨k,Z,rfl,rfl,q⟩:=hrel;have I:=ze4 m k (by omega);have D:=ziU m (by omega) (by omega) k;have U:(strOfNums (dgk m k)).size<=20:=by rw[strOfNums_size,zc8];omega
  by_cases z:m/10^k=0
  ·have E: ¬(k<dcn m):=fun h=>D.2 h z;have H:(-(m/10^k) !=0)=false:=by simpa using z
   have J:(strOfNums [45]).size=1:=strOfNums_size [45];clear D z;go_wp2;go_ret;exact⟨za5 (by rw[show dcn m=k from by omega];exact zfO 45 _),q⟩
  ·have E:=D.1 z;have H:(-(m/10^k) !=0)=true:=by simpa using z
   have O:0<m/10^k:=by omega
   clear D z;have e1:=neg_tmod (m/10^k) I.1;have e2:=neg_tdiv (m/10^k) I.1;have N:=fun (w:World) (x:Int)=>ziK (P:=prog) (src:=147) (dst:=9) underlying147 underlying5 underlying9 w x;have K:=fun x=>strOfNums_size [x];by_cases A:0<m/10^k%10
   ·go_wp2;go_roundw
    case rel=>exact⟨k+1,by omega,by rw[ze3],by rw[zfO];rfl,q.alloc q.size _⟩
    case measure=>simp[intOf];omega
   ·go_wp2;go_roundw
    case rel=>exact⟨k+1,by omega,by rw[ze3],by rw[zfO,show 48+ -(m/10^k%10)=48+m/10^k%10 from by omega];rfl,q.alloc q.size _⟩
    case measure=>simp[intOf];omega
theorem zqC (n:Int) (w:World) (A: -9223372036854775808<=n/\n<=9223372036854775807):
  Calls prog 161 #[.int .i64 n] w fun e q=>e= .returned (.string (strOfNums (zbT n)))/\Below w.heap.size w q:=by
 by_cases h:0<n
 ·rw[zhf (by omega)];exact zqA n w h A.2
 ·by_cases D:n=0
  ·subst D;have z:Hid (zbT 0=[48]):=by show zbT 0=[48];decide
   go_enter func161,ntmps161;go_wp2;go_ret;exact⟨za5 (by rw[z.o];rfl),Below.refl _ _⟩
  ·obtain⟨m,rfl⟩: ∃m,n= -m:=⟨-n,by omega⟩;rw[zhe (by omega),Int.neg_neg];exact zqB m w (by omega) (by omega)
theorem zk7 (k:Int) (w:World):Calls prog 123 #[.int .i64 k] w fun e A=>e= .returned (.bool (zZ k))/\A=w:=by
 cases q:(k==6) with
 |true=>
  have h:Hid (zZ k=true):=by show _=_;rw[zZ,q];rfl
  go_enter func123,ntmps123;go_wp2;go_ret;exact⟨zi h.o.symm,rfl⟩
 |false=>
  cases z:(k==7) with
  |true=>
   have h:Hid (zZ k=true):=by show _=_;rw[zZ,q,z];rfl
   go_enter func123,ntmps123;go_wp2;go_ret;exact⟨zi h.o.symm,rfl⟩
  |false=>
   have h:Hid (zZ k=(k==8)):=by show _=_;rw[zZ,q,z];simp
   go_enter func123,ntmps123;go_wp2;go_ret;exact⟨zi h.o.symm,rfl⟩
theorem zhN (base:Nat) (S:Sv) (m:Md) (i:Nat) (w:World) (h:OwnMd w base S m) (E:i<m.ex.length):
  Calls prog 163 #[zl S m,.int .i64 i] w fun e A=>e= .returned (.bool (zP (m.ex.getD i zh).kind))/\Below w.heap.size w A:=by
 obtain⟨g,hg,hlt,c0,-,-,-,-,-⟩:=h.expr E;have D:(i:Int)<(m.ex.length:Int):=by omega
 unfold zl;rw[hg];generalize (m.ex.getD i zh).kind=k at c0 ⊢;clear h hg;cases z:(k==6) with
 |true=>
  have q:Hid (zP k=true):=by show _=_;rw[zP,z];rfl
  go_enter func163,ntmps163;go_wp2;go_ret;exact⟨zi q.o.symm,(Below.refl _ _).alloc (Nat.le_refl _) _⟩
 |false=>
  have q:Hid (zP k=(k==7)):=by show _=_;rw[zP,z];simp
  go_enter func163,ntmps163;go_wp2;go_ret;exact⟨zi q.o.symm,(Below.refl _ _).alloc (Nat.le_refl _) _⟩
def zeL (base:Nat) (S:Sv) (m:Md) (n:Nat):Prop:=∀(i:Nat) (w:World),i<n->i<m.ex.length->OwnMd w base S m->wt m.ex i<=1099511627776->
 Calls prog 125 #[zl S m,.int .i64 i] w fun e w'=>e= .returned (.string (prX m.ex i))/\Below w.heap.size w w'
theorem zg4 (base:Nat) (S:Sv) (m:Md) (n i:Nat) (b:Bool) (w:World) (H:zeL base S m n) (J:i<n) (M:i<m.ex.length) (h:OwnMd w base S m) (A:wt m.ex i<=1099511627776):
  Calls prog 162 #[zl S m,.int .i64 i,.bool b] w fun e O=>e= .returned (.string (zH b (prX m.ex i)))/\Below w.heap.size w O:=by
 have L:=zc H;have I:=zc h;have N:=zc A;unfold wt at A;clear H h;unfold zl;cases b with
 |true=>
  have z:Hid (zH true (prX m.ex i)=zo++prX m.ex i++za6):=rfl;go_enter func162,ntmps162;go_wp2_with fail;refine (L.o i _ J M (I.o.alloc _) N.o).mono ?_;rintro e D ⟨rfl,q⟩;have E:Hid (Below w.heap.size w D):=((Below.refl _ _).alloc (Nat.le_refl _) _).trans (q.mono (by rw[zg];omega));clear q;generalize K:prX m.ex i=t at A z ⊢;have U:=zc K;clear K;go_wp2;go_ret;exact⟨za5 (by rw[U.o];exact z.o.symm),E.o⟩
 |false=>
  have z:Hid (zH false (prX m.ex i)=prX m.ex i):=rfl;go_enter func162,ntmps162;go_wp2_with fail;refine (L.o i _ J M (I.o.alloc _) N.o).mono ?_;rintro e D ⟨rfl,q⟩;have E:Hid (Below w.heap.size w D):=((Below.refl _ _).alloc (Nat.le_refl _) _).trans (q.mono (by rw[zg];omega));clear q;go_wp2;go_ret;exact⟨za5 z.o.symm,E.o⟩
theorem zqD (g:Nat) (S:Sv) (m:Md) (i:Nat) (k h l r:Int) (H L:BA) (w:World) (q:S.ex.a=some ⟨g,0,none⟩) (U:i<m.ex.length) (E:g<w.heap.size) (O:w.cell? ⟨g,i*6,none⟩=some (.int .i64 k)) (V:w.cell? ⟨g,i*6+1,none⟩=some (.int .i64 h)) (N:w.cell? ⟨g,i*6+2,none⟩=some (.string H)) (c3:w.cell? ⟨g,i*6+3,none⟩=some (.string L)) (c4:w.cell? ⟨g,i*6+4,none⟩=some (.int .i64 l)) (c5:w.cell? ⟨g,i*6+5,none⟩=some (.int .i64 r)) (M:(k==1)=true) (z: -9223372036854775808<=h/\h<=9223372036854775807):
  Calls prog 125 #[zl S m,.int .i64 i] w fun e I=>e= .returned (.string (strOfNums (zbT h)))/\Below w.heap.size w I:=by
 have K:(i:Int)<(m.ex.length:Int):=by omega
 unfold zl;rw[q];clear q;go_enter func125,ntmps125;go_wp2_with fail;refine (zqC h _ z).mono ?_;rintro e D ⟨rfl,A⟩;have J:Hid (Below w.heap.size w D):=(zbd w _ _).trans (A.mono (by rw[zg,zg];omega));clear A;go_wp2;go_ret;exact⟨rfl,J.o⟩
theorem zqE (g:Nat) (S:Sv) (m:Md) (i:Nat) (k D l r:Int) (q H:BA) (w:World) (h:S.ex.a=some ⟨g,0,none⟩) (M:i<m.ex.length) (z:g<w.heap.size) (L:w.cell? ⟨g,i*6,none⟩=some (.int .i64 k)) (N:w.cell? ⟨g,i*6+1,none⟩=some (.int .i64 D)) (J:w.cell? ⟨g,i*6+2,none⟩=some (.string q)) (c3:w.cell? ⟨g,i*6+3,none⟩=some (.string H)) (c4:w.cell? ⟨g,i*6+4,none⟩=some (.int .i64 l)) (c5:w.cell? ⟨g,i*6+5,none⟩=some (.int .i64 r)) (I:(k==1)=false) (K:(k==2)=true):
  Calls prog 125 #[zl S m,.int .i64 i] w fun e A=>e= .returned (.string (q))/\Below w.heap.size w A:=by
 have E:(i:Int)<(m.ex.length:Int):=by omega
 unfold zl;rw[h];clear h;go_enter func125,ntmps125;go_wp2;go_ret;exact⟨rfl,((Below.refl _ _).alloc (Nat.le_refl _) _).alloc (by show _<=(w.heap.push _).size;simp) _⟩
theorem zqF (g:Nat) (S:Sv) (m:Md) (i:Nat) (k I l r:Int) (z E:BA) (w:World) (h:S.ex.a=some ⟨g,0,none⟩) (X:i<m.ex.length) (D:g<w.heap.size) (V:w.cell? ⟨g,i*6,none⟩=some (.int .i64 k)) (U:w.cell? ⟨g,i*6+1,none⟩=some (.int .i64 I)) (M:w.cell? ⟨g,i*6+2,none⟩=some (.string z)) (c3:w.cell? ⟨g,i*6+3,none⟩=some (.string E)) (c4:w.cell? ⟨g,i*6+4,none⟩=some (.int .i64 l)) (c5:w.cell? ⟨g,i*6+5,none⟩=some (.int .i64 r)) (L:(k==1)=false) (N:(k==2)=false) (O:(k==3)=true) (q:(z++cParens).size<=1099511627776):
  Calls prog 125 #[zl S m,.int .i64 i] w fun e H=>e= .returned (.string (z++cParens))/\Below w.heap.size w H:=by
 have J:(i:Int)<(m.ex.length:Int):=by omega
 unfold zl;rw[h];clear h;simp only[ByteArray.size_append] at q;have A:cParens.size=2:=rfl;have K:z.size<=1099511627776:=by omega
 clear q A;go_enter func125,ntmps125;go_wp2;go_ret;exact⟨rfl,((Below.refl _ _).alloc (Nat.le_refl _) _).alloc (by show _<=(w.heap.push _).size;simp) _⟩
theorem zqG (g:Nat) (S:Sv) (m:Md) (i:Nat) (k I l r:Int) (z A:BA) (w:World) (q:S.ex.a=some ⟨g,0,none⟩) (V:i<m.ex.length) (E:g<w.heap.size) (Z:w.cell? ⟨g,i*6,none⟩=some (.int .i64 k)) (O:w.cell? ⟨g,i*6+1,none⟩=some (.int .i64 I)) (U:w.cell? ⟨g,i*6+2,none⟩=some (.string z)) (c3:w.cell? ⟨g,i*6+3,none⟩=some (.string A)) (c4:w.cell? ⟨g,i*6+4,none⟩=some (.int .i64 l)) (c5:w.cell? ⟨g,i*6+5,none⟩=some (.int .i64 r)) (M:(k==1)=false) (X:(k==2)=false) (N:(k==3)=false) (Y:(k==4)=true) (h:(z++cPoint++A).size<=1099511627776):
  Calls prog 125 #[zl S m,.int .i64 i] w fun e H=>e= .returned (.string (z++cPoint++A))/\Below w.heap.size w H:=by
 have J:(i:Int)<(m.ex.length:Int):=by omega
 unfold zl;rw[q];clear q;simp only[ByteArray.size_append] at h;have D:cPoint.size=1:=rfl;have K:z.size<=1099511627776:=by omega
 have L:A.size<=1099511627776:=by omega
 clear h D;go_enter func125,ntmps125;go_wp2;go_ret;exact⟨rfl,((Below.refl _ _).alloc (Nat.le_refl _) _).alloc (by show _<=(w.heap.push _).size;simp) _⟩
theorem zqH (g:Nat) (S:Sv) (m:Md) (i:Nat) (k J l r:Int) (z A:BA) (w:World) (q:S.ex.a=some ⟨g,0,none⟩) (Y:i<m.ex.length) (H:g<w.heap.size) (c0:w.cell? ⟨g,i*6,none⟩=some (.int .i64 k)) (V:w.cell? ⟨g,i*6+1,none⟩=some (.int .i64 J)) (X:w.cell? ⟨g,i*6+2,none⟩=some (.string z)) (c3:w.cell? ⟨g,i*6+3,none⟩=some (.string A)) (c4:w.cell? ⟨g,i*6+4,none⟩=some (.int .i64 l)) (c5:w.cell? ⟨g,i*6+5,none⟩=some (.int .i64 r)) (N:(k==1)=false) (Z:(k==2)=false) (O:(k==3)=false) (k4:(k==4)=false) (U:(k==5)=true) (h:(z++cPoint++A++cParens).size<=1099511627776):
  Calls prog 125 #[zl S m,.int .i64 i] w fun e I=>e= .returned (.string (z++cPoint++A++cParens))/\Below w.heap.size w I:=by
 have K:(i:Int)<(m.ex.length:Int):=by omega
 unfold zl;rw[q];clear q;simp only[ByteArray.size_append] at h;have E:cParens.size=2:=rfl;have D:cPoint.size=1:=rfl;have L:z.size<=1099511627776:=by omega
 have M:A.size<=1099511627776:=by omega
 clear h E D;go_enter func125,ntmps125;go_wp2;go_ret;exact⟨rfl,((Below.refl _ _).alloc (Nat.le_refl _) _).alloc (by show _<=(w.heap.push _).size;simp) _⟩
theorem zqI (g:Nat) (S:Sv) (m:Md) (i:Nat) (k D l r:Int) (z H:BA) (w:World) (h:S.ex.a=some ⟨g,0,none⟩) (V:i<m.ex.length) (q:g<w.heap.size) (Z:w.cell? ⟨g,i*6,none⟩=some (.int .i64 k)) (N:w.cell? ⟨g,i*6+1,none⟩=some (.int .i64 D)) (O:w.cell? ⟨g,i*6+2,none⟩=some (.string z)) (c3:w.cell? ⟨g,i*6+3,none⟩=some (.string H)) (c4:w.cell? ⟨g,i*6+4,none⟩=some (.int .i64 l)) (c5:w.cell? ⟨g,i*6+5,none⟩=some (.int .i64 r)) (I:(k==1)=false) (X:(k==2)=false) (L:(k==3)=false) (Y:(k==4)=false) (M:(k==5)=false) (U:(k==6)=false) (K:(k==7)=false) (J:(k==8)=false):
  Calls prog 125 #[zl S m,.int .i64 i] w fun e A=>e= .returned (.string (sNone))/\Below w.heap.size w A:=by
 have E:(i:Int)<(m.ex.length:Int):=by omega
 unfold zl;rw[h];clear h;go_enter func125,ntmps125;go_wp2;go_ret;exact⟨rfl,((Below.refl _ _).alloc (Nat.le_refl _) _).alloc (by show _<=(w.heap.push _).size;simp) _⟩
theorem zqJ (base g:Nat) (S:Sv) (m:Md) (i z q:Nat) (k D:Int) (A E:BA) (w:World) (K:S.ex.a=some ⟨g,0,none⟩) (h:OwnMd w base S m) (hi:i<m.ex.length) (ab:g<w.heap.size) (c0:w.cell? ⟨g,i*6,none⟩=some (.int .i64 k)) (c1:w.cell? ⟨g,i*6+1,none⟩=some (.int .i64 D)) (c2:w.cell? ⟨g,i*6+2,none⟩=some (.string A)) (c3:w.cell? ⟨g,i*6+3,none⟩=some (.string E)) (c4:w.cell? ⟨g,i*6+4,none⟩=some (.int .i64 (z:Int))) (c5:w.cell? ⟨g,i*6+5,none⟩=some (.int .i64 (q:Int))) (k1:(k==1)=false) (k2:(k==2)=false) (k3:(k==3)=false) (k4:(k==4)=false) (k5:(k==5)=false) (k6:(k==6)=true) (U:(prX m.ex z++tPlus++zH (zP (m.ex.getD q zh).kind) (prX m.ex q)).size<=1099511627776) (he:zeL base S m i) (hl:z<i) (hr:q<i) (ad:wt m.ex z<=1099511627776) (ag:wt m.ex q<=1099511627776):
  Calls prog 125 #[zl S m,.int .i64 i] w fun e w'=>e= .returned (.string (prX m.ex z++tPlus++zH (zP (m.ex.getD q zh).kind) (prX m.ex q)))/\Below w.heap.size w w':=by
 have ak:(i:Int)<(m.ex.length:Int):=by omega
 have HA:Hid (OwnMd ((w.alloc (.cells #[.slice S.rq.a m.rq.length S.rq.cap,.slice S.im.a m.im.length S.im.cap,.slice S.ep.a m.ep.length S.ep.cap,.slice S.st.a m.st.length S.st.cap,.slice (some ⟨g,0,none⟩) m.ex.length S.ex.cap] 54)).alloc (.cells #[.int .i64 k,.int .i64 D,.string A,.string E,.int .i64 (z:Int),.int .i64 (q:Int)] 100)) base S m):=(h.alloc _).alloc _;have HE:=zc he;have J:Hid (zl S m= .agg #[.slice S.rq.a m.rq.length S.rq.cap,.slice S.im.a m.im.length S.im.cap,.slice S.ep.a m.ep.length S.ep.cap,.slice S.st.a m.st.length S.st.cap,.slice (some ⟨g,0,none⟩) m.ex.length S.ex.cap]):=by show _=_;rw[zl,K]
 have al:(z:Int)<(m.ex.length:Int):=by omega
 have am:(q:Int)<(m.ex.length:Int):=by omega
 obtain⟨g2,hg2,-,d0,-,-,-,-,-⟩:=h.expr (i:=q) (by omega);have eg:g2=g:=by have:=hg2.symm.trans K;simpa using this
 rw[eg] at d0;obtain⟨kr,N⟩: ∃kr,(m.ex.getD q zh).kind=kr:=⟨_,rfl⟩;rw[N] at d0;have M:=zc N;obtain⟨tl,O⟩: ∃tl,prX m.ex z=tl:=⟨_,rfl⟩;obtain⟨tr,Z⟩: ∃tr,zH (zP (m.ex.getD q zh).kind) (prX m.ex q)=tr:=⟨_,rfl⟩;rw[O,Z] at U;have aa:=zc O;have V:=zc Z;have cL: ∀d H,Calls prog 125 #[.agg #[.slice S.rq.a m.rq.length S.rq.cap,.slice S.im.a m.im.length S.im.cap,.slice S.ep.a m.ep.length S.ep.cap,.slice S.st.a m.st.length S.st.cap,.slice (some ⟨g,0,none⟩) m.ex.length S.ex.cap],.int .i64 (z:Int)] (grow (redrawn ((w.alloc (.cells #[.slice S.rq.a m.rq.length S.rq.cap,.slice S.im.a m.im.length S.im.cap,.slice S.ep.a m.ep.length S.ep.cap,.slice S.st.a m.st.length S.st.cap,.slice (some ⟨g,0,none⟩) m.ex.length S.ex.cap] 54)).alloc (.cells #[.int .i64 k,.int .i64 D,.string A,.string E,.int .i64 (z:Int),.int .i64 (q:Int)] 100)) d) H) fun e I=>e= .returned (.string tl)/\∃p:Regrown,I=grow (redrawn ((w.alloc (.cells #[.slice S.rq.a m.rq.length S.rq.cap,.slice S.im.a m.im.length S.im.cap,.slice S.ep.a m.ep.length S.ep.cap,.slice S.st.a m.st.length S.st.cap,.slice (some ⟨g,0,none⟩) m.ex.length S.ex.cap] 54)).alloc (.cells #[.int .i64 k,.int .i64 D,.string A,.string E,.int .i64 (z:Int),.int .i64 (q:Int)] 100)) p.d) p.os:=fun d H=>Calls.regrown_of (by rw[<-J.o,<-aa.o];exact HE.o z _ (by omega) (by omega) (HA.o.later (below_regrown _ d H)) ad);have cS: ∀d H,Calls prog 163 #[.agg #[.slice S.rq.a m.rq.length S.rq.cap,.slice S.im.a m.im.length S.im.cap,.slice S.ep.a m.ep.length S.ep.cap,.slice S.st.a m.st.length S.st.cap,.slice (some ⟨g,0,none⟩) m.ex.length S.ex.cap],.int .i64 (q:Int)] (grow (redrawn ((w.alloc (.cells #[.slice S.rq.a m.rq.length S.rq.cap,.slice S.im.a m.im.length S.im.cap,.slice S.ep.a m.ep.length S.ep.cap,.slice S.st.a m.st.length S.st.cap,.slice (some ⟨g,0,none⟩) m.ex.length S.ex.cap] 54)).alloc (.cells #[.int .i64 k,.int .i64 D,.string A,.string E,.int .i64 (z:Int),.int .i64 (q:Int)] 100)) d) H) fun e I=>e= .returned (.bool (zP kr))/\∃p:Regrown,I=grow (redrawn ((w.alloc (.cells #[.slice S.rq.a m.rq.length S.rq.cap,.slice S.im.a m.im.length S.im.cap,.slice S.ep.a m.ep.length S.ep.cap,.slice S.st.a m.st.length S.st.cap,.slice (some ⟨g,0,none⟩) m.ex.length S.ex.cap] 54)).alloc (.cells #[.int .i64 k,.int .i64 D,.string A,.string E,.int .i64 (z:Int),.int .i64 (q:Int)] 100)) p.d) p.os:=fun d H=>Calls.regrown_of (by rw[<-J.o,<-M.o];exact zhN base S m q _ (HA.o.later (below_regrown _ d H)) (by omega));have cR: ∀d H,Calls prog 162 #[.agg #[.slice S.rq.a m.rq.length S.rq.cap,.slice S.im.a m.im.length S.im.cap,.slice S.ep.a m.ep.length S.ep.cap,.slice S.st.a m.st.length S.st.cap,.slice (some ⟨g,0,none⟩) m.ex.length S.ex.cap],.int .i64 (q:Int),.bool (zP kr)] (grow (redrawn ((w.alloc (.cells #[.slice S.rq.a m.rq.length S.rq.cap,.slice S.im.a m.im.length S.im.cap,.slice S.ep.a m.ep.length S.ep.cap,.slice S.st.a m.st.length S.st.cap,.slice (some ⟨g,0,none⟩) m.ex.length S.ex.cap] 54)).alloc (.cells #[.int .i64 k,.int .i64 D,.string A,.string E,.int .i64 (z:Int),.int .i64 (q:Int)] 100)) d) H) fun e I=>e= .returned (.string tr)/\∃p:Regrown,I=grow (redrawn ((w.alloc (.cells #[.slice S.rq.a m.rq.length S.rq.cap,.slice S.im.a m.im.length S.im.cap,.slice S.ep.a m.ep.length S.ep.cap,.slice S.st.a m.st.length S.st.cap,.slice (some ⟨g,0,none⟩) m.ex.length S.ex.cap] 54)).alloc (.cells #[.int .i64 k,.int .i64 D,.string A,.string E,.int .i64 (z:Int),.int .i64 (q:Int)] 100)) p.d) p.os:=fun d H=>Calls.regrown_of (by rw[<-J.o,<-V.o,M.o];exact zg4 base S m i q _ _ HE.o (by omega) (by omega) (HA.o.later (below_regrown _ d H)) ag);have X:Hid (Six ((w.alloc (.cells #[.slice S.rq.a m.rq.length S.rq.cap,.slice S.im.a m.im.length S.im.cap,.slice S.ep.a m.ep.length S.ep.cap,.slice S.st.a m.st.length S.st.cap,.slice (some ⟨g,0,none⟩) m.ex.length S.ex.cap] 54)).alloc (.cells #[.int .i64 k,.int .i64 D,.string A,.string E,.int .i64 (z:Int),.int .i64 (q:Int)] 100)) (w.heap.size+1) (.int .i64 k) (.int .i64 D) (.string A) (.string E) (.int .i64 (z:Int)) (.int .i64 (q:Int))):=zw (new2 w _ _);have Y:=zc (zj (zc9 (o':=.cells #[.int .i64 k,.int .i64 D,.string A,.string E,.int .i64 (z:Int),.int .i64 (q:Int)] 100) (heap_alloc_new w (.cells #[.slice S.rq.a m.rq.length S.rq.cap,.slice S.im.a m.im.length S.im.cap,.slice S.ep.a m.ep.length S.ep.cap,.slice S.st.a m.st.length S.st.cap,.slice (some ⟨g,0,none⟩) m.ex.length S.ex.cap] 54))));have D0:Hid (((w.alloc (.cells #[.slice S.rq.a m.rq.length S.rq.cap,.slice S.im.a m.im.length S.im.cap,.slice S.ep.a m.ep.length S.ep.cap,.slice S.st.a m.st.length S.st.cap,.slice (some ⟨g,0,none⟩) m.ex.length S.ex.cap] 54)).alloc (.cells #[.int .i64 k,.int .i64 D,.string A,.string E,.int .i64 (z:Int),.int .i64 (q:Int)] 100)).cell? ⟨g,q*6,none⟩=some (.int .i64 kr)):=by show _=_;rw[World.cell?_alloc_past _ _ _ (by rw[zg];omega),World.cell?_alloc_past _ _ _ ab];exact d0
 simp only[ByteArray.size_append] at U;have ae:tPlus.size=3:=rfl;have ai:tl.size<=1099511627776:=by omega
 have aj:tr.size<=1099511627776:=by omega
 have HV:Hid ((prX m.ex z++tPlus++zH (zP (m.ex.getD q zh).kind) (prX m.ex q))=tl++tPlus++tr):=by show _=_;rw[aa.o,V.o]
 unfold zl;rw[K];clear K h HA HE J aa V O Z N M hg2 he U ae d0 eg;go_enter func125,ntmps125;go_wp2_with fail;have x0:=cell_regrown X.o.c0;have x4:=cell_regrown X.o.c4;have x5:=cell_regrown X.o.c5;have y0:=cell_regrown Y.o.1;have y1:=cell_regrown Y.o.2.1;have y2:=cell_regrown Y.o.2.2.1;have y3:=cell_regrown Y.o.2.2.2.1;have y4:=cell_regrown Y.o.2.2.2.2.1;have e0:=cell_regrown D0.o;refine wp_region_quiet_below (by kernel_rfl) (by kernel_rfl) ?_
 repeat (go_big_quiet_step (first|with_reducible exact cL _ _|with_reducible exact cS _ _|with_reducible exact cR _ _))
 refine wpQuiet_nil ?_;intro w1 ac;obtain⟨⟨dq,ah⟩,L⟩:=ac;have af:Hid (Below w.heap.size w w1):=by show Below _ _ _;rw[L];exact (zbd w _ _).trans ((below_regrown _ _ _).mono (by rw[zg,zg];omega))
 clear L;go_wp2;go_ret;exact⟨za5 HV.o.symm,af.o⟩
theorem zqK (base g:Nat) (S:Sv) (m:Md) (i z q:Nat) (k D:Int) (A E:BA) (w:World) (K:S.ex.a=some ⟨g,0,none⟩) (h:OwnMd w base S m) (hi:i<m.ex.length) (ab:g<w.heap.size) (c0:w.cell? ⟨g,i*6,none⟩=some (.int .i64 k)) (c1:w.cell? ⟨g,i*6+1,none⟩=some (.int .i64 D)) (c2:w.cell? ⟨g,i*6+2,none⟩=some (.string A)) (c3:w.cell? ⟨g,i*6+3,none⟩=some (.string E)) (c4:w.cell? ⟨g,i*6+4,none⟩=some (.int .i64 (z:Int))) (c5:w.cell? ⟨g,i*6+5,none⟩=some (.int .i64 (q:Int))) (k1:(k==1)=false) (k2:(k==2)=false) (k3:(k==3)=false) (k4:(k==4)=false) (k5:(k==5)=false) (k6:(k==6)=false) (k7:(k==7)=true) (U:(prX m.ex z++tMinus++zH (zP (m.ex.getD q zh).kind) (prX m.ex q)).size<=1099511627776) (he:zeL base S m i) (hl:z<i) (hr:q<i) (ad:wt m.ex z<=1099511627776) (ag:wt m.ex q<=1099511627776):
  Calls prog 125 #[zl S m,.int .i64 i] w fun e w'=>e= .returned (.string (prX m.ex z++tMinus++zH (zP (m.ex.getD q zh).kind) (prX m.ex q)))/\Below w.heap.size w w':=by
 have ak:(i:Int)<(m.ex.length:Int):=by omega
 have HA:Hid (OwnMd ((w.alloc (.cells #[.slice S.rq.a m.rq.length S.rq.cap,.slice S.im.a m.im.length S.im.cap,.slice S.ep.a m.ep.length S.ep.cap,.slice S.st.a m.st.length S.st.cap,.slice (some ⟨g,0,none⟩) m.ex.length S.ex.cap] 54)).alloc (.cells #[.int .i64 k,.int .i64 D,.string A,.string E,.int .i64 (z:Int),.int .i64 (q:Int)] 100)) base S m):=(h.alloc _).alloc _;have HE:=zc he;have J:Hid (zl S m= .agg #[.slice S.rq.a m.rq.length S.rq.cap,.slice S.im.a m.im.length S.im.cap,.slice S.ep.a m.ep.length S.ep.cap,.slice S.st.a m.st.length S.st.cap,.slice (some ⟨g,0,none⟩) m.ex.length S.ex.cap]):=by show _=_;rw[zl,K]
 have al:(z:Int)<(m.ex.length:Int):=by omega
 have am:(q:Int)<(m.ex.length:Int):=by omega
 obtain⟨g2,hg2,-,d0,-,-,-,-,-⟩:=h.expr (i:=q) (by omega);have eg:g2=g:=by have:=hg2.symm.trans K;simpa using this
 rw[eg] at d0;obtain⟨kr,N⟩: ∃kr,(m.ex.getD q zh).kind=kr:=⟨_,rfl⟩;rw[N] at d0;have M:=zc N;obtain⟨tl,O⟩: ∃tl,prX m.ex z=tl:=⟨_,rfl⟩;obtain⟨tr,Z⟩: ∃tr,zH (zP (m.ex.getD q zh).kind) (prX m.ex q)=tr:=⟨_,rfl⟩;rw[O,Z] at U;have aa:=zc O;have V:=zc Z;have cL: ∀d H,Calls prog 125 #[.agg #[.slice S.rq.a m.rq.length S.rq.cap,.slice S.im.a m.im.length S.im.cap,.slice S.ep.a m.ep.length S.ep.cap,.slice S.st.a m.st.length S.st.cap,.slice (some ⟨g,0,none⟩) m.ex.length S.ex.cap],.int .i64 (z:Int)] (grow (redrawn ((w.alloc (.cells #[.slice S.rq.a m.rq.length S.rq.cap,.slice S.im.a m.im.length S.im.cap,.slice S.ep.a m.ep.length S.ep.cap,.slice S.st.a m.st.length S.st.cap,.slice (some ⟨g,0,none⟩) m.ex.length S.ex.cap] 54)).alloc (.cells #[.int .i64 k,.int .i64 D,.string A,.string E,.int .i64 (z:Int),.int .i64 (q:Int)] 100)) d) H) fun e I=>e= .returned (.string tl)/\∃p:Regrown,I=grow (redrawn ((w.alloc (.cells #[.slice S.rq.a m.rq.length S.rq.cap,.slice S.im.a m.im.length S.im.cap,.slice S.ep.a m.ep.length S.ep.cap,.slice S.st.a m.st.length S.st.cap,.slice (some ⟨g,0,none⟩) m.ex.length S.ex.cap] 54)).alloc (.cells #[.int .i64 k,.int .i64 D,.string A,.string E,.int .i64 (z:Int),.int .i64 (q:Int)] 100)) p.d) p.os:=fun d H=>Calls.regrown_of (by rw[<-J.o,<-aa.o];exact HE.o z _ (by omega) (by omega) (HA.o.later (below_regrown _ d H)) ad);have cS: ∀d H,Calls prog 163 #[.agg #[.slice S.rq.a m.rq.length S.rq.cap,.slice S.im.a m.im.length S.im.cap,.slice S.ep.a m.ep.length S.ep.cap,.slice S.st.a m.st.length S.st.cap,.slice (some ⟨g,0,none⟩) m.ex.length S.ex.cap],.int .i64 (q:Int)] (grow (redrawn ((w.alloc (.cells #[.slice S.rq.a m.rq.length S.rq.cap,.slice S.im.a m.im.length S.im.cap,.slice S.ep.a m.ep.length S.ep.cap,.slice S.st.a m.st.length S.st.cap,.slice (some ⟨g,0,none⟩) m.ex.length S.ex.cap] 54)).alloc (.cells #[.int .i64 k,.int .i64 D,.string A,.string E,.int .i64 (z:Int),.int .i64 (q:Int)] 100)) d) H) fun e I=>e= .returned (.bool (zP kr))/\∃p:Regrown,I=grow (redrawn ((w.alloc (.cells #[.slice S.rq.a m.rq.length S.rq.cap,.slice S.im.a m.im.length S.im.cap,.slice S.ep.a m.ep.length S.ep.cap,.slice S.st.a m.st.length S.st.cap,.slice (some ⟨g,0,none⟩) m.ex.length S.ex.cap] 54)).alloc (.cells #[.int .i64 k,.int .i64 D,.string A,.string E,.int .i64 (z:Int),.int .i64 (q:Int)] 100)) p.d) p.os:=fun d H=>Calls.regrown_of (by rw[<-J.o,<-M.o];exact zhN base S m q _ (HA.o.later (below_regrown _ d H)) (by omega));have cR: ∀d H,Calls prog 162 #[.agg #[.slice S.rq.a m.rq.length S.rq.cap,.slice S.im.a m.im.length S.im.cap,.slice S.ep.a m.ep.length S.ep.cap,.slice S.st.a m.st.length S.st.cap,.slice (some ⟨g,0,none⟩) m.ex.length S.ex.cap],.int .i64 (q:Int),.bool (zP kr)] (grow (redrawn ((w.alloc (.cells #[.slice S.rq.a m.rq.length S.rq.cap,.slice S.im.a m.im.length S.im.cap,.slice S.ep.a m.ep.length S.ep.cap,.slice S.st.a m.st.length S.st.cap,.slice (some ⟨g,0,none⟩) m.ex.length S.ex.cap] 54)).alloc (.cells #[.int .i64 k,.int .i64 D,.string A,.string E,.int .i64 (z:Int),.int .i64 (q:Int)] 100)) d) H) fun e I=>e= .returned (.string tr)/\∃p:Regrown,I=grow (redrawn ((w.alloc (.cells #[.slice S.rq.a m.rq.length S.rq.cap,.slice S.im.a m.im.length S.im.cap,.slice S.ep.a m.ep.length S.ep.cap,.slice S.st.a m.st.length S.st.cap,.slice (some ⟨g,0,none⟩) m.ex.length S.ex.cap] 54)).alloc (.cells #[.int .i64 k,.int .i64 D,.string A,.string E,.int .i64 (z:Int),.int .i64 (q:Int)] 100)) p.d) p.os:=fun d H=>Calls.regrown_of (by rw[<-J.o,<-V.o,M.o];exact zg4 base S m i q _ _ HE.o (by omega) (by omega) (HA.o.later (below_regrown _ d H)) ag);have X:Hid (Six ((w.alloc (.cells #[.slice S.rq.a m.rq.length S.rq.cap,.slice S.im.a m.im.length S.im.cap,.slice S.ep.a m.ep.length S.ep.cap,.slice S.st.a m.st.length S.st.cap,.slice (some ⟨g,0,none⟩) m.ex.length S.ex.cap] 54)).alloc (.cells #[.int .i64 k,.int .i64 D,.string A,.string E,.int .i64 (z:Int),.int .i64 (q:Int)] 100)) (w.heap.size+1) (.int .i64 k) (.int .i64 D) (.string A) (.string E) (.int .i64 (z:Int)) (.int .i64 (q:Int))):=zw (new2 w _ _);have Y:=zc (zj (zc9 (o':=.cells #[.int .i64 k,.int .i64 D,.string A,.string E,.int .i64 (z:Int),.int .i64 (q:Int)] 100) (heap_alloc_new w (.cells #[.slice S.rq.a m.rq.length S.rq.cap,.slice S.im.a m.im.length S.im.cap,.slice S.ep.a m.ep.length S.ep.cap,.slice S.st.a m.st.length S.st.cap,.slice (some ⟨g,0,none⟩) m.ex.length S.ex.cap] 54))));have D0:Hid (((w.alloc (.cells #[.slice S.rq.a m.rq.length S.rq.cap,.slice S.im.a m.im.length S.im.cap,.slice S.ep.a m.ep.length S.ep.cap,.slice S.st.a m.st.length S.st.cap,.slice (some ⟨g,0,none⟩) m.ex.length S.ex.cap] 54)).alloc (.cells #[.int .i64 k,.int .i64 D,.string A,.string E,.int .i64 (z:Int),.int .i64 (q:Int)] 100)).cell? ⟨g,q*6,none⟩=some (.int .i64 kr)):=by show _=_;rw[World.cell?_alloc_past _ _ _ (by rw[zg];omega),World.cell?_alloc_past _ _ _ ab];exact d0
 simp only[ByteArray.size_append] at U;have ae:tMinus.size=3:=rfl;have ai:tl.size<=1099511627776:=by omega
 have aj:tr.size<=1099511627776:=by omega
 have HV:Hid ((prX m.ex z++tMinus++zH (zP (m.ex.getD q zh).kind) (prX m.ex q))=tl++tMinus++tr):=by show _=_;rw[aa.o,V.o]
 unfold zl;rw[K];clear K h HA HE J aa V O Z N M hg2 he U ae d0 eg;go_enter func125,ntmps125;go_wp2_with fail;have x0:=cell_regrown X.o.c0;have x4:=cell_regrown X.o.c4;have x5:=cell_regrown X.o.c5;have y0:=cell_regrown Y.o.1;have y1:=cell_regrown Y.o.2.1;have y2:=cell_regrown Y.o.2.2.1;have y3:=cell_regrown Y.o.2.2.2.1;have y4:=cell_regrown Y.o.2.2.2.2.1;have e0:=cell_regrown D0.o;refine wp_region_quiet_below (by kernel_rfl) (by kernel_rfl) ?_
 repeat (go_big_quiet_step (first|with_reducible exact cL _ _|with_reducible exact cS _ _|with_reducible exact cR _ _))
 refine wpQuiet_nil ?_;intro w1 ac;obtain⟨⟨dq,ah⟩,L⟩:=ac;have af:Hid (Below w.heap.size w w1):=by show Below _ _ _;rw[L];exact (zbd w _ _).trans ((below_regrown _ _ _).mono (by rw[zg,zg];omega))
 clear L;go_wp2;go_ret;exact⟨za5 HV.o.symm,af.o⟩
theorem zqL (base g:Nat) (S:Sv) (m:Md) (i z q:Nat) (k H:Int) (D I:BA) (w:World) (K:S.ex.a=some ⟨g,0,none⟩) (h:OwnMd w base S m) (hi:i<m.ex.length) (ac:g<w.heap.size) (c0:w.cell? ⟨g,i*6,none⟩=some (.int .i64 k)) (c1:w.cell? ⟨g,i*6+1,none⟩=some (.int .i64 H)) (c2:w.cell? ⟨g,i*6+2,none⟩=some (.string D)) (c3:w.cell? ⟨g,i*6+3,none⟩=some (.string I)) (c4:w.cell? ⟨g,i*6+4,none⟩=some (.int .i64 (z:Int))) (c5:w.cell? ⟨g,i*6+5,none⟩=some (.int .i64 (q:Int))) (k1:(k==1)=false) (k2:(k==2)=false) (k3:(k==3)=false) (k4:(k==4)=false) (k5:(k==5)=false) (k6:(k==6)=false) (k7:(k==7)=false) (k8:(k==8)=true) (U:(zH (zP (m.ex.getD z zh).kind) (prX m.ex z)++tStar++zH (zZ (m.ex.getD q zh).kind) (prX m.ex q)).size<=1099511627776) (he:zeL base S m i) (hl:z<i) (hr:q<i) (ae:wt m.ex z<=1099511627776) (ah:wt m.ex q<=1099511627776):
  Calls prog 125 #[zl S m,.int .i64 i] w fun e w'=>e= .returned (.string (zH (zP (m.ex.getD z zh).kind) (prX m.ex z)++tStar++zH (zZ (m.ex.getD q zh).kind) (prX m.ex q)))/\Below w.heap.size w w':=by
 have al:(i:Int)<(m.ex.length:Int):=by omega
 have HA:Hid (OwnMd ((w.alloc (.cells #[.slice S.rq.a m.rq.length S.rq.cap,.slice S.im.a m.im.length S.im.cap,.slice S.ep.a m.ep.length S.ep.cap,.slice S.st.a m.st.length S.st.cap,.slice (some ⟨g,0,none⟩) m.ex.length S.ex.cap] 54)).alloc (.cells #[.int .i64 k,.int .i64 H,.string D,.string I,.int .i64 (z:Int),.int .i64 (q:Int)] 100)) base S m):=(h.alloc _).alloc _;have HE:=zc he;have J:Hid (zl S m= .agg #[.slice S.rq.a m.rq.length S.rq.cap,.slice S.im.a m.im.length S.im.cap,.slice S.ep.a m.ep.length S.ep.cap,.slice S.st.a m.st.length S.st.cap,.slice (some ⟨g,0,none⟩) m.ex.length S.ex.cap]):=by show _=_;rw[zl,K]
 have am:(z:Int)<(m.ex.length:Int):=by omega
 have an:(q:Int)<(m.ex.length:Int):=by omega
 obtain⟨g2,hg2,-,d0,-,-,-,-,-⟩:=h.expr (i:=q) (by omega);have eg:g2=g:=by have:=hg2.symm.trans K;simpa using this
 rw[eg] at d0;obtain⟨kr,N⟩: ∃kr,(m.ex.getD q zh).kind=kr:=⟨_,rfl⟩;rw[N] at d0;have ab:=zc N;obtain⟨tl,O⟩: ∃tl,zH (zP (m.ex.getD z zh).kind) (prX m.ex z)=tl:=⟨_,rfl⟩;obtain⟨tr,Z⟩: ∃tr,zH (zZ (m.ex.getD q zh).kind) (prX m.ex q)=tr:=⟨_,rfl⟩;rw[O,Z] at U;have aa:=zc O;have V:=zc Z;obtain⟨kl,M⟩: ∃kl,(m.ex.getD z zh).kind=kl:=⟨_,rfl⟩;have cK: ∀d E,Calls prog 163 #[.agg #[.slice S.rq.a m.rq.length S.rq.cap,.slice S.im.a m.im.length S.im.cap,.slice S.ep.a m.ep.length S.ep.cap,.slice S.st.a m.st.length S.st.cap,.slice (some ⟨g,0,none⟩) m.ex.length S.ex.cap],.int .i64 (z:Int)] (grow (redrawn ((w.alloc (.cells #[.slice S.rq.a m.rq.length S.rq.cap,.slice S.im.a m.im.length S.im.cap,.slice S.ep.a m.ep.length S.ep.cap,.slice S.st.a m.st.length S.st.cap,.slice (some ⟨g,0,none⟩) m.ex.length S.ex.cap] 54)).alloc (.cells #[.int .i64 k,.int .i64 H,.string D,.string I,.int .i64 (z:Int),.int .i64 (q:Int)] 100)) d) E) fun e A=>e= .returned (.bool (zP kl))/\∃p:Regrown,A=grow (redrawn ((w.alloc (.cells #[.slice S.rq.a m.rq.length S.rq.cap,.slice S.im.a m.im.length S.im.cap,.slice S.ep.a m.ep.length S.ep.cap,.slice S.st.a m.st.length S.st.cap,.slice (some ⟨g,0,none⟩) m.ex.length S.ex.cap] 54)).alloc (.cells #[.int .i64 k,.int .i64 H,.string D,.string I,.int .i64 (z:Int),.int .i64 (q:Int)] 100)) p.d) p.os:=fun d E=>Calls.regrown_of (by rw[<-J.o,<-M];exact zhN base S m z _ (HA.o.later (below_regrown _ d E)) (by omega));have cL: ∀d E,Calls prog 162 #[.agg #[.slice S.rq.a m.rq.length S.rq.cap,.slice S.im.a m.im.length S.im.cap,.slice S.ep.a m.ep.length S.ep.cap,.slice S.st.a m.st.length S.st.cap,.slice (some ⟨g,0,none⟩) m.ex.length S.ex.cap],.int .i64 (z:Int),.bool (zP kl)] (grow (redrawn ((w.alloc (.cells #[.slice S.rq.a m.rq.length S.rq.cap,.slice S.im.a m.im.length S.im.cap,.slice S.ep.a m.ep.length S.ep.cap,.slice S.st.a m.st.length S.st.cap,.slice (some ⟨g,0,none⟩) m.ex.length S.ex.cap] 54)).alloc (.cells #[.int .i64 k,.int .i64 H,.string D,.string I,.int .i64 (z:Int),.int .i64 (q:Int)] 100)) d) E) fun e A=>e= .returned (.string tl)/\∃p:Regrown,A=grow (redrawn ((w.alloc (.cells #[.slice S.rq.a m.rq.length S.rq.cap,.slice S.im.a m.im.length S.im.cap,.slice S.ep.a m.ep.length S.ep.cap,.slice S.st.a m.st.length S.st.cap,.slice (some ⟨g,0,none⟩) m.ex.length S.ex.cap] 54)).alloc (.cells #[.int .i64 k,.int .i64 H,.string D,.string I,.int .i64 (z:Int),.int .i64 (q:Int)] 100)) p.d) p.os:=fun d E=>Calls.regrown_of (by rw[<-J.o,<-aa.o,M];exact zg4 base S m i z _ _ HE.o (by omega) (by omega) (HA.o.later (below_regrown _ d E)) ae);have cS: ∀d E,Calls prog 123 #[.int .i64 kr] (grow (redrawn ((w.alloc (.cells #[.slice S.rq.a m.rq.length S.rq.cap,.slice S.im.a m.im.length S.im.cap,.slice S.ep.a m.ep.length S.ep.cap,.slice S.st.a m.st.length S.st.cap,.slice (some ⟨g,0,none⟩) m.ex.length S.ex.cap] 54)).alloc (.cells #[.int .i64 k,.int .i64 H,.string D,.string I,.int .i64 (z:Int),.int .i64 (q:Int)] 100)) d) E) fun e A=>e= .returned (.bool (zZ kr))/\∃p:Regrown,A=grow (redrawn ((w.alloc (.cells #[.slice S.rq.a m.rq.length S.rq.cap,.slice S.im.a m.im.length S.im.cap,.slice S.ep.a m.ep.length S.ep.cap,.slice S.st.a m.st.length S.st.cap,.slice (some ⟨g,0,none⟩) m.ex.length S.ex.cap] 54)).alloc (.cells #[.int .i64 k,.int .i64 H,.string D,.string I,.int .i64 (z:Int),.int .i64 (q:Int)] 100)) p.d) p.os:=fun d E=>Calls.regrown_of ((zk7 kr _).mono (by rintro e w' ⟨rfl,rfl⟩;exact⟨rfl,Below.refl _ _⟩));have cR: ∀d E,Calls prog 162 #[.agg #[.slice S.rq.a m.rq.length S.rq.cap,.slice S.im.a m.im.length S.im.cap,.slice S.ep.a m.ep.length S.ep.cap,.slice S.st.a m.st.length S.st.cap,.slice (some ⟨g,0,none⟩) m.ex.length S.ex.cap],.int .i64 (q:Int),.bool (zZ kr)] (grow (redrawn ((w.alloc (.cells #[.slice S.rq.a m.rq.length S.rq.cap,.slice S.im.a m.im.length S.im.cap,.slice S.ep.a m.ep.length S.ep.cap,.slice S.st.a m.st.length S.st.cap,.slice (some ⟨g,0,none⟩) m.ex.length S.ex.cap] 54)).alloc (.cells #[.int .i64 k,.int .i64 H,.string D,.string I,.int .i64 (z:Int),.int .i64 (q:Int)] 100)) d) E) fun e A=>e= .returned (.string tr)/\∃p:Regrown,A=grow (redrawn ((w.alloc (.cells #[.slice S.rq.a m.rq.length S.rq.cap,.slice S.im.a m.im.length S.im.cap,.slice S.ep.a m.ep.length S.ep.cap,.slice S.st.a m.st.length S.st.cap,.slice (some ⟨g,0,none⟩) m.ex.length S.ex.cap] 54)).alloc (.cells #[.int .i64 k,.int .i64 H,.string D,.string I,.int .i64 (z:Int),.int .i64 (q:Int)] 100)) p.d) p.os:=fun d E=>Calls.regrown_of (by rw[<-J.o,<-V.o,ab.o];exact zg4 base S m i q _ _ HE.o (by omega) (by omega) (HA.o.later (below_regrown _ d E)) ah);have X:Hid (Six ((w.alloc (.cells #[.slice S.rq.a m.rq.length S.rq.cap,.slice S.im.a m.im.length S.im.cap,.slice S.ep.a m.ep.length S.ep.cap,.slice S.st.a m.st.length S.st.cap,.slice (some ⟨g,0,none⟩) m.ex.length S.ex.cap] 54)).alloc (.cells #[.int .i64 k,.int .i64 H,.string D,.string I,.int .i64 (z:Int),.int .i64 (q:Int)] 100)) (w.heap.size+1) (.int .i64 k) (.int .i64 H) (.string D) (.string I) (.int .i64 (z:Int)) (.int .i64 (q:Int))):=zw (new2 w _ _);have Y:=zc (zj (zc9 (o':=.cells #[.int .i64 k,.int .i64 H,.string D,.string I,.int .i64 (z:Int),.int .i64 (q:Int)] 100) (heap_alloc_new w (.cells #[.slice S.rq.a m.rq.length S.rq.cap,.slice S.im.a m.im.length S.im.cap,.slice S.ep.a m.ep.length S.ep.cap,.slice S.st.a m.st.length S.st.cap,.slice (some ⟨g,0,none⟩) m.ex.length S.ex.cap] 54))));have D0:Hid (((w.alloc (.cells #[.slice S.rq.a m.rq.length S.rq.cap,.slice S.im.a m.im.length S.im.cap,.slice S.ep.a m.ep.length S.ep.cap,.slice S.st.a m.st.length S.st.cap,.slice (some ⟨g,0,none⟩) m.ex.length S.ex.cap] 54)).alloc (.cells #[.int .i64 k,.int .i64 H,.string D,.string I,.int .i64 (z:Int),.int .i64 (q:Int)] 100)).cell? ⟨g,q*6,none⟩=some (.int .i64 kr)):=by show _=_;rw[World.cell?_alloc_past _ _ _ (by rw[zg];omega),World.cell?_alloc_past _ _ _ ac];exact d0
 simp only[ByteArray.size_append] at U;have af:tStar.size=3:=rfl;have aj:tl.size<=1099511627776:=by omega
 have ak:tr.size<=1099511627776:=by omega
 have HV:Hid ((zH (zP (m.ex.getD z zh).kind) (prX m.ex z)++tStar++zH (zZ (m.ex.getD q zh).kind) (prX m.ex q))=tl++tStar++tr):=by show _=_;rw[aa.o,V.o]
 unfold zl;rw[K];clear K h HA HE J aa V O Z N ab hg2 he U af d0 eg M;go_enter func125,ntmps125;go_wp2_with fail;have x0:=cell_regrown X.o.c0;have x4:=cell_regrown X.o.c4;have x5:=cell_regrown X.o.c5;have y0:=cell_regrown Y.o.1;have y1:=cell_regrown Y.o.2.1;have y2:=cell_regrown Y.o.2.2.1;have y3:=cell_regrown Y.o.2.2.2.1;have y4:=cell_regrown Y.o.2.2.2.2.1;have e0:=cell_regrown D0.o;refine wp_region_quiet_below (by kernel_rfl) (by kernel_rfl) ?_
 repeat (go_big_quiet_step (first|with_reducible exact cL _ _|with_reducible exact cS _ _|with_reducible exact cR _ _|with_reducible exact cK _ _))
 refine wpQuiet_nil ?_;intro w1 ad;obtain⟨⟨dq,ai⟩,L⟩:=ad;have ag:Hid (Below w.heap.size w w1):=by show Below _ _ _;rw[L];exact (zbd w _ _).trans ((below_regrown _ _ _).mono (by rw[zg,zg];omega))
 clear L;go_wp2;go_ret;exact⟨za5 HV.o.symm,ag.o⟩
theorem zg5 (b:Bool) (t:BA):t.size<=(zH b t).size:=by
 unfold zH
 split
 ·rw[ByteArray.size_append,ByteArray.size_append];omega
 ·exact Nat.le_refl _
theorem zqM (base:Nat) (S:Sv) (m:Md) (hn:zaU m.ex) (ha:zb3 m.ex) (n:Nat):zeL base S m n:=by
 induction n with
 |zero=>intro i w D;omega
 |succ n ih=>
  intro i w ac D h q;by_cases aa:i<n
  ·exact ih i w aa D h q
  ·have he:zeL base S m i:=by
    have:i=n:=by omega
    rw[this];exact ih
   obtain⟨g,A,z,U,K,M,N,L,O⟩:=h.expr D;have ab:=hn (m.ex.getD i zh) (by rw[zdV D];exact List.getElem_mem D);have X:=zfU ha (i:=i);unfold wt at q;rw[zhg ha] at q ⊢;generalize m.ex.getD i zh=x at*;by_cases E:(x.kind==1)=true
   ·rw[if_pos E];exact zqD g S m i _ _ _ _ _ _ w A D z U K M N L O E ab
   rw[if_neg E] at q ⊢;by_cases I:(x.kind==2)=true
   ·rw[if_pos I];exact zqE g S m i _ _ _ _ _ _ w A D z U K M N L O (by simpa using E) I
   rw[if_neg I] at q ⊢;by_cases J:(x.kind==3)=true
   ·rw[if_pos J] at q ⊢;exact zqF g S m i _ _ _ _ _ _ w A D z U K M N L O (by simpa using E) (by simpa using I) J q
   rw[if_neg J] at q ⊢;by_cases V:(x.kind==4)=true
   ·rw[if_pos V] at q ⊢;exact zqG g S m i _ _ _ _ _ _ w A D z U K M N L O (by simpa using E) (by simpa using I) (by simpa using J) V q
   rw[if_neg V] at q ⊢;by_cases Y:(x.kind==5)=true
   ·rw[if_pos Y] at q ⊢;exact zqH g S m i _ _ _ _ _ _ w A D z U K M N L O (by simpa using E) (by simpa using I) (by simpa using J) (by simpa using V) Y q
   rw[if_neg Y] at q ⊢;by_cases Z:(x.kind==6)=true
   ·rw[if_pos Z] at q ⊢;obtain⟨h1,h2,h3,h4⟩:=X (zbF (.inl Z));have H:=q;rw[ByteArray.size_append,ByteArray.size_append] at H;have s2:=zg5 (zP (m.ex.getD x.r.toNat zh).kind) (prX m.ex x.r.toNat);exact zqJ base g S m i x.l.toNat x.r.toNat _ _ _ _ w A h D z U K M N (by rw[L,Int.toNat_of_nonneg h1]) (by rw[O,Int.toNat_of_nonneg h3]) (by simpa using E) (by simpa using I) (by simpa using J) (by simpa using V) (by simpa using Y) Z q he (by omega) (by omega) (by unfold wt;omega) (by unfold wt;omega)
   rw[if_neg Z] at q ⊢;by_cases k7:(x.kind==7)=true
   ·rw[if_pos k7] at q ⊢;obtain⟨h1,h2,h3,h4⟩:=X (zbF (.inr (.inl k7)));have H:=q;rw[ByteArray.size_append,ByteArray.size_append] at H;have s2:=zg5 (zP (m.ex.getD x.r.toNat zh).kind) (prX m.ex x.r.toNat);exact zqK base g S m i x.l.toNat x.r.toNat _ _ _ _ w A h D z U K M N (by rw[L,Int.toNat_of_nonneg h1]) (by rw[O,Int.toNat_of_nonneg h3]) (by simpa using E) (by simpa using I) (by simpa using J) (by simpa using V) (by simpa using Y) (by simpa using Z) k7 q he (by omega) (by omega) (by unfold wt;omega) (by unfold wt;omega)
   rw[if_neg k7] at q ⊢;by_cases k8:(x.kind==8)=true
   ·rw[if_pos k8] at q ⊢;obtain⟨h1,h2,h3,h4⟩:=X (zbF (.inr (.inr k8)));have H:=q;rw[ByteArray.size_append,ByteArray.size_append] at H;have s1:=zg5 (zP (m.ex.getD x.l.toNat zh).kind) (prX m.ex x.l.toNat);have s2:=zg5 (zZ (m.ex.getD x.r.toNat zh).kind) (prX m.ex x.r.toNat);exact zqL base g S m i x.l.toNat x.r.toNat _ _ _ _ w A h D z U K M N (by rw[L,Int.toNat_of_nonneg h1]) (by rw[O,Int.toNat_of_nonneg h3]) (by simpa using E) (by simpa using I) (by simpa using J) (by simpa using V) (by simpa using Y) (by simpa using Z) (by simpa using k7) k8 q he (by omega) (by omega) (by unfold wt;omega) (by unfold wt;omega)
   rw[if_neg k8] at q ⊢;exact zqI g S m i _ _ _ _ _ _ w A D z U K M N L O (by simpa using E) (by simpa using I) (by simpa using J) (by simpa using V) (by simpa using Y) (by simpa using Z) (by simpa using k7) (by simpa using k8)
theorem zeo (base:Nat) (S:Sv) (m:Md) (i:Nat) (w:World) (E:zaU m.ex) (A:zb3 m.ex) (D:i<m.ex.length) (h:OwnMd w base S m) (q:wt m.ex i<=1099511627776):
  Calls prog 125 #[zl S m,.int .i64 i] w fun e z=>e= .returned (.string (prX m.ex i))/\Below w.heap.size w z:=zqM base S m E A (i+1) i w (Nat.lt_succ_self i) D h q
theorem zhO (a b:BA) (w:World) (A:a.size<=1099511627776) (D:b.size<=1099511627776):Calls prog 124 #[.string a,.string b] w fun e z=>e= .returned (.string (asT a b))/\z=w:=by
 cases h:(a.toList==b.toList) with
 |true=>
  have q:Hid (asT a b=a):=by show _=_;rw[asT,h];rfl
  go_enter func124,ntmps124;go_wp2;go_ret;exact⟨za5 q.o.symm,rfl⟩
 |false=>
  have q:Hid (asT a b=a++({data:=#[32,97,115,32]}:BA)++b):=by show _=_;rw[asT,h];rfl
  go_enter func124,ntmps124;go_wp2;go_ret;exact⟨za5 q.o.symm,rfl⟩
theorem zg6 (s:BA) (w:World) (z:s.size<=1099511627776):Calls prog 84 #[.string s] w fun e q=>e= .returned (.string (zaz s))/\q=w:=by
 have h:Hid (zaz s=({data:=#[34]}:BA)++s++({data:=#[34]}:BA)):=rfl;go_enter func84,ntmps84;go_wp2;go_ret;exact⟨za5 h.o.symm,rfl⟩
theorem zhP (s:BA):(zaz s).size=s.size+2:=by
 rw[zaz,ByteArray.size_append,ByteArray.size_append];show 1+s.size+1=_;omega
theorem zk8 (a b:BA):(asT a b).size<=a.size+b.size+4:=by
 unfold asT
 split
 ·omega
 ·rw[ByteArray.size_append,ByteArray.size_append];show a.size+4+b.size<=_;omega
theorem zqN (x:Im) (w:World) (h1:x.spec.size<=4294967296) (h2:x.first.size<=4294967296) (h3:x.loc.size<=4294967296):Calls prog 85 #[imV x] w fun e K=>e= .returned (.string (zac x))/\Below w.heap.size w K:=by
 obtain⟨qt,A⟩: ∃t,zaz x.spec=t:=⟨_,rfl⟩;obtain⟨at',hat⟩: ∃t,asT x.first x.loc=t:=⟨_,rfl⟩;have Y:=zhP x.spec;have ha:=zk8 x.first x.loc;rw[A] at Y;rw[hat] at ha;have ab:qt.size<=8589934592:=by omega
 have aa:at'.size<=17179869184:=by omega
 have N:=zc A;have AT:=zc hat;have M: ∀d I,Calls prog 84 #[.string x.spec] (grow (redrawn (w.alloc (.cells #[.string x.spec,.string x.first,.string x.loc] 95)) d) I) fun e D=>e= .returned (.string qt)/\∃p:Regrown,D=grow (redrawn (w.alloc (.cells #[.string x.spec,.string x.first,.string x.loc] 95)) p.d) p.os:=fun d I=>Calls.regrown_of (by rw[<-A];exact (zg6 x.spec _ (by omega)).mono (by rintro e K ⟨rfl,rfl⟩;exact⟨rfl,Below.refl _ _⟩));have L: ∀d I,Calls prog 124 #[.string x.first,.string x.loc] (grow (redrawn (w.alloc (.cells #[.string x.spec,.string x.first,.string x.loc] 95)) d) I) fun e D=>e= .returned (.string at')/\∃p:Regrown,D=grow (redrawn (w.alloc (.cells #[.string x.spec,.string x.first,.string x.loc] 95)) p.d) p.os:=fun d I=>Calls.regrown_of (by rw[<-hat];exact (zhO x.first x.loc _ (by omega) (by omega)).mono (by rintro e K ⟨rfl,rfl⟩;exact⟨rfl,Below.refl _ _⟩));have X:=zc (zq (heap_alloc_new w (.cells #[.string x.spec,.string x.first,.string x.loc] 95)));clear A hat Y ha;unfold imV;cases O:(x.first.toList==[42]) with
 |true=>
  have J:Hid (zac x=({data:=#[105,109,112,111,114,116,32,42,32,97,115,32]}:BA)++x.loc++({data:=#[32,102,114,111,109,32]}:BA)++zaz x.spec++({data:=#[59,10]}:BA)):=by show _=_;rw[zac,O];rfl
  go_enter func85,ntmps85;go_wp2_with fail;have y0:=cell_regrown X.o.1;have V:=cell_regrown X.o.2.1;have y2:=cell_regrown X.o.2.2.1;refine wp_region_quiet_below (by kernel_rfl) (by kernel_rfl) ?_
  repeat (go_big_quiet_step (first|with_reducible exact M _ _|with_reducible exact L _ _))
  refine wpQuiet_nil ?_;intro E q;obtain⟨⟨U,H⟩,h⟩:=q;have z:Hid (Below w.heap.size w E):=by show Below _ _ _;rw[h];exact ((Below.refl _ _).alloc (Nat.le_refl _) _).trans ((below_regrown _ _ _).mono (by rw[zg];omega))
  clear h;go_wp2;go_ret;exact⟨za5 (by rw[J.o,N.o]),z.o⟩
 |false=>
  cases Z:(x.first.toList==[100,101,102,97,117,108,116]) with
  |true=>
   have J:Hid (zac x=({data:=#[105,109,112,111,114,116,32]}:BA)++x.loc++({data:=#[32,102,114,111,109,32]}:BA)++zaz x.spec++({data:=#[59,10]}:BA)):=by show _=_;rw[zac,O,Z];rfl
   go_enter func85,ntmps85;go_wp2_with fail;have y0:=cell_regrown X.o.1;have V:=cell_regrown X.o.2.1;have y2:=cell_regrown X.o.2.2.1;refine wp_region_quiet_below (by kernel_rfl) (by kernel_rfl) ?_
   repeat (go_big_quiet_step (first|with_reducible exact M _ _|with_reducible exact L _ _))
   refine wpQuiet_nil ?_;intro E q;obtain⟨⟨U,H⟩,h⟩:=q;have z:Hid (Below w.heap.size w E):=by show Below _ _ _;rw[h];exact ((Below.refl _ _).alloc (Nat.le_refl _) _).trans ((below_regrown _ _ _).mono (by rw[zg];omega))
   clear h;go_wp2;go_ret;exact⟨za5 (by rw[J.o,N.o]),z.o⟩
  |false=>
   have J:Hid (zac x=({data:=#[105,109,112,111,114,116,32,123,32]}:BA)++asT x.first x.loc++({data:=#[32,125,32,102,114,111,109,32]}:BA)++zaz x.spec++({data:=#[59,10]}:BA)):=by show _=_;rw[zac,O,Z];rfl
   go_enter func85,ntmps85;go_wp2_with fail;have y0:=cell_regrown X.o.1;have V:=cell_regrown X.o.2.1;have y2:=cell_regrown X.o.2.2.1;refine wp_region_quiet_below (by kernel_rfl) (by kernel_rfl) ?_
   repeat (go_big_quiet_step (first|with_reducible exact M _ _|with_reducible exact L _ _))
   refine wpQuiet_nil ?_;intro E q;obtain⟨⟨U,H⟩,h⟩:=q;have z:Hid (Below w.heap.size w E):=by show Below _ _ _;rw[h];exact ((Below.refl _ _).alloc (Nat.le_refl _) _).trans ((below_regrown _ _ _).mono (by rw[zg];omega))
   clear h;go_wp2;go_ret;exact⟨za5 (by rw[J.o,N.o,AT.o]),z.o⟩
theorem zqO (x:Ep) (w:World) (h1:x.spec.size<=4294967296) (h2:x.name.size<=4294967296) (h3:x.loc.size<=4294967296):Calls prog 86 #[epV x] w fun e z=>e= .returned (.string (zbr x))/\Below w.heap.size w z:=by
 obtain⟨L,h⟩: ∃t,zaz x.spec=t:=⟨_,rfl⟩;obtain⟨at',hat⟩: ∃t,asT x.loc x.name=t:=⟨_,rfl⟩;have U:=zhP x.spec;have Z:=zk8 x.loc x.name;rw[h] at U;rw[hat] at Z;have ac:L.size<=8589934592:=by omega
 have ab:at'.size<=17179869184:=by omega
 have Y:=zc h;have AT:=zc hat;have cQ: ∀d E,Calls prog 84 #[.string x.spec] (grow (redrawn (w.alloc (.cells #[.int .i64 x.kind,.string x.name,.string x.loc,.string x.spec] 97)) d) E) fun e A=>e= .returned (.string L)/\∃p:Regrown,A=grow (redrawn (w.alloc (.cells #[.int .i64 x.kind,.string x.name,.string x.loc,.string x.spec] 97)) p.d) p.os:=fun d E=>Calls.regrown_of (by rw[<-h];exact (zg6 x.spec _ (by omega)).mono (by rintro e z ⟨rfl,rfl⟩;exact⟨rfl,Below.refl _ _⟩));have cA: ∀d E,Calls prog 124 #[.string x.loc,.string x.name] (grow (redrawn (w.alloc (.cells #[.int .i64 x.kind,.string x.name,.string x.loc,.string x.spec] 97)) d) E) fun e A=>e= .returned (.string at')/\∃p:Regrown,A=grow (redrawn (w.alloc (.cells #[.int .i64 x.kind,.string x.name,.string x.loc,.string x.spec] 97)) p.d) p.os:=fun d E=>Calls.regrown_of (by rw[<-hat];exact (zhO x.loc x.name _ (by omega) (by omega)).mono (by rintro e z ⟨rfl,rfl⟩;exact⟨rfl,Below.refl _ _⟩));have O: ∀w:World,Calls prog 84 #[.string x.spec] w fun e z=>e= .returned (.string L)/\z=w:=fun w=>by rw[<-h];exact zg6 x.spec w (by omega)
 have K: ∀w:World,Calls prog 124 #[.string x.loc,.string x.name] w fun e z=>e= .returned (.string at')/\z=w:=fun w=>by rw[<-hat];exact zhO x.loc x.name w (by omega) (by omega)
 have X:=zc (zbH (heap_alloc_new w (.cells #[.int .i64 x.kind,.string x.name,.string x.loc,.string x.spec] 97)));clear h hat U Z;unfold epV;cases N:(x.kind==3) with
 |true=>
  have I:Hid (zbr x=({data:=#[101,120,112,111,114,116,32,42,32,102,114,111,109,32]}:BA)++zaz x.spec++({data:=#[59,10]}:BA)):=by show _=_;rw[zbr,N];rfl
  go_enter func86,ntmps86;go_wp2_with fail;refine (O _).mono ?_;rintro e D ⟨rfl,H⟩;rw[H];clear H D;go_wp2;go_ret;exact⟨za5 (by rw[I.o,Y.o]),(Below.refl _ _).alloc (Nat.le_refl _) _⟩
 |false=>
  cases V:(x.kind==2) with
  |true=>
   have I:Hid (zbr x=({data:=#[101,120,112,111,114,116,32,123,32]}:BA)++asT x.loc x.name++({data:=#[32,125,32,102,114,111,109,32]}:BA)++zaz x.spec++({data:=#[59,10]}:BA)):=by show _=_;rw[zbr,N,V];rfl
   go_enter func86,ntmps86;go_wp2_with fail;have y0:=cell_regrown X.o.1;have y1:=cell_regrown X.o.2.1;have y2:=cell_regrown X.o.2.2.1;have y3:=cell_regrown X.o.2.2.2.1;refine wp_region_quiet_below (by kernel_rfl) (by kernel_rfl) ?_
   repeat (go_big_quiet_step (first|with_reducible exact cQ _ _|with_reducible exact cA _ _))
   refine wpQuiet_nil ?_;intro D J;obtain⟨⟨dq,aa⟩,q⟩:=J;have M:Hid (Below w.heap.size w D):=by show Below _ _ _;rw[q];exact ((Below.refl _ _).alloc (Nat.le_refl _) _).trans ((below_regrown _ _ _).mono (by rw[zg];omega))
   clear q;go_wp2;go_ret;exact⟨za5 (by rw[I.o,Y.o,AT.o]),M.o⟩
  |false=>
   have I:Hid (zbr x=({data:=#[101,120,112,111,114,116,32,123,32]}:BA)++asT x.loc x.name++({data:=#[32,125,59,10]}:BA)):=by show _=_;rw[zbr,N,V];rfl
   go_enter func86,ntmps86;go_wp2_with fail;refine (K _).mono ?_;rintro e D ⟨rfl,H⟩;rw[H];clear H D;go_wp2;go_ret;exact⟨za5 (by rw[I.o,AT.o]),(Below.refl _ _).alloc (Nat.le_refl _) _⟩
theorem zqP (base:Nat) (S:Sv) (m:Md) (k:Int) (n:BA) (i:Nat) (w:World) (h:OwnMd w base S m) (M:i<m.ex.length) (N:zaU m.ex) (V:zb3 m.ex) (E:wt m.ex i<=1099511627776) (_:n.size<=4294967296) (H:(k==1)=true) (L:(n.toList==[42,100,101,102,97,117,108,116])=true):
  Calls prog 87 #[zl S m,.agg #[.int .i64 k,.string n,.int .i64 (i:Int)]] w fun e J=>e= .returned (.string (za4 k n (prX m.ex i)))/\Below w.heap.size w J:=by
 have U:=zc h;have X:Hid (za4 k n (prX m.ex i)=({data:=#[101,120,112,111,114,116,32,100,101,102,97,117,108,116,32]}:BA)++prX m.ex i++({data:=#[59,10]}:BA)):=by show _=_;rw[za4,H,L];rfl
 have q:=E;unfold wt at q;have O:=zc (And.intro (zc9 (o':=.cells #[.int .i64 k,.string n,.int .i64 (i:Int)] 102) (heap_alloc_new w (.cells #[.slice S.rq.a m.rq.length S.rq.cap,.slice S.im.a m.im.length S.im.cap,.slice S.ep.a m.ep.length S.ep.cap,.slice S.st.a m.st.length S.st.cap,.slice S.ex.a m.ex.length S.ex.cap] 54))) (new2 w (.cells #[.slice S.rq.a m.rq.length S.rq.cap,.slice S.im.a m.im.length S.im.cap,.slice S.ep.a m.ep.length S.ep.cap,.slice S.st.a m.st.length S.st.cap,.slice S.ex.a m.ex.length S.ex.cap] 54) (.cells #[.int .i64 k,.string n,.int .i64 (i:Int)] 102)));clear h;unfold zl;go_enter func87,ntmps87;go_wp2_with fail;refine (zeo base S m i _ N V M ((U.o.alloc _).alloc _) E).mono ?_;rintro e I ⟨rfl,A⟩;have K:Hid (Below w.heap.size w I):=(zbd w _ _).trans (A.mono (by rw[zg,zg];omega));have D:=zc ((A.block _ (by rw[zg,zg];omega)).trans O.o.2);obtain⟨c0,Z,c2,cf⟩:=zq D.o;clear A;obtain⟨t,z⟩: ∃t,prX m.ex i=t:=⟨_,rfl⟩;rw[z] at q ⊢;have Y:=zc z;clear z;go_wp2;go_ret;exact⟨za5 (by rw[X.o,Y.o]),K.o⟩
theorem zqQ (base:Nat) (S:Sv) (m:Md) (k:Int) (n:BA) (i:Nat) (w:World) (h:OwnMd w base S m) (M:i<m.ex.length) (N:zaU m.ex) (V:zb3 m.ex) (E:wt m.ex i<=1099511627776) (hs:n.size<=4294967296) (H:(k==1)=true) (L:(n.toList==[42,100,101,102,97,117,108,116])=false):
  Calls prog 87 #[zl S m,.agg #[.int .i64 k,.string n,.int .i64 (i:Int)]] w fun e J=>e= .returned (.string (za4 k n (prX m.ex i)))/\Below w.heap.size w J:=by
 have U:=zc h;have X:Hid (za4 k n (prX m.ex i)=({data:=#[108,101,116,32]}:BA)++n++({data:=#[32,61,32]}:BA)++prX m.ex i++({data:=#[59,10]}:BA)):=by show _=_;rw[za4,H,L];rfl
 have q:=E;unfold wt at q;have O:=zc (And.intro (zc9 (o':=.cells #[.int .i64 k,.string n,.int .i64 (i:Int)] 102) (heap_alloc_new w (.cells #[.slice S.rq.a m.rq.length S.rq.cap,.slice S.im.a m.im.length S.im.cap,.slice S.ep.a m.ep.length S.ep.cap,.slice S.st.a m.st.length S.st.cap,.slice S.ex.a m.ex.length S.ex.cap] 54))) (new2 w (.cells #[.slice S.rq.a m.rq.length S.rq.cap,.slice S.im.a m.im.length S.im.cap,.slice S.ep.a m.ep.length S.ep.cap,.slice S.st.a m.st.length S.st.cap,.slice S.ex.a m.ex.length S.ex.cap] 54) (.cells #[.int .i64 k,.string n,.int .i64 (i:Int)] 102)));clear h;unfold zl;go_enter func87,ntmps87;go_wp2_with fail;refine (zeo base S m i _ N V M ((U.o.alloc _).alloc _) E).mono ?_;rintro e I ⟨rfl,A⟩;have K:Hid (Below w.heap.size w I):=(zbd w _ _).trans (A.mono (by rw[zg,zg];omega));have D:=zc ((A.block _ (by rw[zg,zg];omega)).trans O.o.2);obtain⟨c0,Z,c2,cf⟩:=zq D.o;clear A;obtain⟨t,z⟩: ∃t,prX m.ex i=t:=⟨_,rfl⟩;rw[z] at q ⊢;have Y:=zc z;clear z;go_wp2;go_ret;exact⟨za5 (by rw[X.o,Y.o]),K.o⟩
theorem zqR (base:Nat) (S:Sv) (m:Md) (k:Int) (n:BA) (i:Nat) (w:World) (h:OwnMd w base S m) (L:i<m.ex.length) (M:zaU m.ex) (V:zb3 m.ex) (E:wt m.ex i<=1099511627776) (hs:n.size<=4294967296) (H:(k==1)=false) (N:(k==2)=true):
  Calls prog 87 #[zl S m,.agg #[.int .i64 k,.string n,.int .i64 (i:Int)]] w fun e J=>e= .returned (.string (za4 k n (prX m.ex i)))/\Below w.heap.size w J:=by
 have U:=zc h;have X:Hid (za4 k n (prX m.ex i)=({data:=#[102,117,110,99,116,105,111,110,32]}:BA)++n++({data:=#[40,41,32,123,32,114,101,116,117,114,110,32]}:BA)++prX m.ex i++({data:=#[59,32,125,10]}:BA)):=by show _=_;rw[za4,H,N];rfl
 have q:=E;unfold wt at q;have O:=zc (And.intro (zc9 (o':=.cells #[.int .i64 k,.string n,.int .i64 (i:Int)] 102) (heap_alloc_new w (.cells #[.slice S.rq.a m.rq.length S.rq.cap,.slice S.im.a m.im.length S.im.cap,.slice S.ep.a m.ep.length S.ep.cap,.slice S.st.a m.st.length S.st.cap,.slice S.ex.a m.ex.length S.ex.cap] 54))) (new2 w (.cells #[.slice S.rq.a m.rq.length S.rq.cap,.slice S.im.a m.im.length S.im.cap,.slice S.ep.a m.ep.length S.ep.cap,.slice S.st.a m.st.length S.st.cap,.slice S.ex.a m.ex.length S.ex.cap] 54) (.cells #[.int .i64 k,.string n,.int .i64 (i:Int)] 102)));clear h;unfold zl;go_enter func87,ntmps87;go_wp2_with fail;refine (zeo base S m i _ M V L ((U.o.alloc _).alloc _) E).mono ?_;rintro e I ⟨rfl,A⟩;have K:Hid (Below w.heap.size w I):=(zbd w _ _).trans (A.mono (by rw[zg,zg];omega));have D:=zc ((A.block _ (by rw[zg,zg];omega)).trans O.o.2);obtain⟨c0,Z,c2,cf⟩:=zq D.o;clear A;obtain⟨t,z⟩: ∃t,prX m.ex i=t:=⟨_,rfl⟩;rw[z] at q ⊢;have Y:=zc z;clear z;go_wp2;go_ret;exact⟨za5 (by rw[X.o,Y.o]),K.o⟩
theorem zqS (base:Nat) (S:Sv) (m:Md) (k:Int) (n:BA) (i:Nat) (w:World) (h:OwnMd w base S m) (M:i<m.ex.length) (N:zaU m.ex) (X:zb3 m.ex) (E:wt m.ex i<=1099511627776) (hs:n.size<=4294967296) (H:(k==1)=false) (O:(k==2)=false) (K:(k==3)=true):
  Calls prog 87 #[zl S m,.agg #[.int .i64 k,.string n,.int .i64 (i:Int)]] w fun e J=>e= .returned (.string (za4 k n (prX m.ex i)))/\Below w.heap.size w J:=by
 have V:=zc h;have Y:Hid (za4 k n (prX m.ex i)=n++({data:=#[32,61,32]}:BA)++prX m.ex i++({data:=#[59,10]}:BA)):=by show _=_;rw[za4,H,O,K];rfl
 have q:=E;unfold wt at q;have U:=zc (And.intro (zc9 (o':=.cells #[.int .i64 k,.string n,.int .i64 (i:Int)] 102) (heap_alloc_new w (.cells #[.slice S.rq.a m.rq.length S.rq.cap,.slice S.im.a m.im.length S.im.cap,.slice S.ep.a m.ep.length S.ep.cap,.slice S.st.a m.st.length S.st.cap,.slice S.ex.a m.ex.length S.ex.cap] 54))) (new2 w (.cells #[.slice S.rq.a m.rq.length S.rq.cap,.slice S.im.a m.im.length S.im.cap,.slice S.ep.a m.ep.length S.ep.cap,.slice S.st.a m.st.length S.st.cap,.slice S.ex.a m.ex.length S.ex.cap] 54) (.cells #[.int .i64 k,.string n,.int .i64 (i:Int)] 102)));clear h;unfold zl;go_enter func87,ntmps87;go_wp2_with fail;refine (zeo base S m i _ N X M ((V.o.alloc _).alloc _) E).mono ?_;rintro e I ⟨rfl,A⟩;have L:Hid (Below w.heap.size w I):=(zbd w _ _).trans (A.mono (by rw[zg,zg];omega));have D:=zc ((A.block _ (by rw[zg,zg];omega)).trans U.o.2);obtain⟨c0,c1,c2,cf⟩:=zq D.o;clear A;obtain⟨t,z⟩: ∃t,prX m.ex i=t:=⟨_,rfl⟩;rw[z] at q ⊢;have Z:=zc z;clear z;go_wp2;go_ret;exact⟨za5 (by rw[Y.o,Z.o]),L.o⟩
theorem zqT (base:Nat) (S:Sv) (m:Md) (k:Int) (n:BA) (i:Nat) (w:World) (h:OwnMd w base S m) (M:i<m.ex.length) (N:zaU m.ex) (X:zb3 m.ex) (E:wt m.ex i<=1099511627776) (_:n.size<=4294967296) (H:(k==1)=false) (O:(k==2)=false) (K:(k==3)=false) (Z:(k==4)=true):
  Calls prog 87 #[zl S m,.agg #[.int .i64 k,.string n,.int .i64 (i:Int)]] w fun e J=>e= .returned (.string (za4 k n (prX m.ex i)))/\Below w.heap.size w J:=by
 have V:=zc h;have Y:Hid (za4 k n (prX m.ex i)=({data:=#[112,114,105,110,116,40]}:BA)++prX m.ex i++({data:=#[41,59,10]}:BA)):=by show _=_;rw[za4,H,O,K,Z];rfl
 have q:=E;unfold wt at q;have U:=zc (And.intro (zc9 (o':=.cells #[.int .i64 k,.string n,.int .i64 (i:Int)] 102) (heap_alloc_new w (.cells #[.slice S.rq.a m.rq.length S.rq.cap,.slice S.im.a m.im.length S.im.cap,.slice S.ep.a m.ep.length S.ep.cap,.slice S.st.a m.st.length S.st.cap,.slice S.ex.a m.ex.length S.ex.cap] 54))) (new2 w (.cells #[.slice S.rq.a m.rq.length S.rq.cap,.slice S.im.a m.im.length S.im.cap,.slice S.ep.a m.ep.length S.ep.cap,.slice S.st.a m.st.length S.st.cap,.slice S.ex.a m.ex.length S.ex.cap] 54) (.cells #[.int .i64 k,.string n,.int .i64 (i:Int)] 102)));clear h;unfold zl;go_enter func87,ntmps87;go_wp2_with fail;refine (zeo base S m i _ N X M ((V.o.alloc _).alloc _) E).mono ?_;rintro e I ⟨rfl,A⟩;have L:Hid (Below w.heap.size w I):=(zbd w _ _).trans (A.mono (by rw[zg,zg];omega));have D:=zc ((A.block _ (by rw[zg,zg];omega)).trans U.o.2);obtain⟨c0,c1,c2,cf⟩:=zq D.o;clear A;obtain⟨t,z⟩: ∃t,prX m.ex i=t:=⟨_,rfl⟩;rw[z] at q ⊢;have HT:=zc z;clear z;go_wp2;go_ret;exact⟨za5 (by rw[Y.o,HT.o]),L.o⟩
theorem zqU (base:Nat) (S:Sv) (m:Md) (k:Int) (n:BA) (i:Nat) (w:World) (h:OwnMd w base S m) (O:i<m.ex.length) (U:zaU m.ex) (Y:zb3 m.ex) (E:wt m.ex i<=1099511627776) (_:n.size<=4294967296) (H:(k==1)=false) (V:(k==2)=false) (L:(k==3)=false) (k4:(k==4)=false) (N:(k==5)=true):
  Calls prog 87 #[zl S m,.agg #[.int .i64 k,.string n,.int .i64 (i:Int)]] w fun e J=>e= .returned (.string (za4 k n (prX m.ex i)))/\Below w.heap.size w J:=by
 have X:=zc h;have Z:Hid (za4 k n (prX m.ex i)=({data:=#[116,104,114,111,119,32]}:BA)++prX m.ex i++({data:=#[59,10]}:BA)):=by show _=_;rw[za4,H,V,L,k4,N];rfl
 have q:=E;unfold wt at q;have HX:=zc (And.intro (zc9 (o':=.cells #[.int .i64 k,.string n,.int .i64 (i:Int)] 102) (heap_alloc_new w (.cells #[.slice S.rq.a m.rq.length S.rq.cap,.slice S.im.a m.im.length S.im.cap,.slice S.ep.a m.ep.length S.ep.cap,.slice S.st.a m.st.length S.st.cap,.slice S.ex.a m.ex.length S.ex.cap] 54))) (new2 w (.cells #[.slice S.rq.a m.rq.length S.rq.cap,.slice S.im.a m.im.length S.im.cap,.slice S.ep.a m.ep.length S.ep.cap,.slice S.st.a m.st.length S.st.cap,.slice S.ex.a m.ex.length S.ex.cap] 54) (.cells #[.int .i64 k,.string n,.int .i64 (i:Int)] 102)));clear h;unfold zl;go_enter func87,ntmps87;go_wp2_with fail;refine (zeo base S m i _ U Y O ((X.o.alloc _).alloc _) E).mono ?_;rintro e I ⟨rfl,A⟩;have M:Hid (Below w.heap.size w I):=(zbd w _ _).trans (A.mono (by rw[zg,zg];omega));have D:=zc ((A.block _ (by rw[zg,zg];omega)).trans HX.o.2);obtain⟨c0,c1,c2,cf⟩:=zq D.o;clear A;obtain⟨t,z⟩: ∃t,prX m.ex i=t:=⟨_,rfl⟩;rw[z] at q ⊢;have K:=zc z;clear z;go_wp2;go_ret;exact⟨za5 (by rw[Z.o,K.o]),M.o⟩
theorem zqV (base:Nat) (S:Sv) (m:Md) (k:Int) (n:BA) (i:Nat) (w:World) (h:OwnMd w base S m) (O:i<m.ex.length) (U:zaU m.ex) (Y:zb3 m.ex) (E:wt m.ex i<=1099511627776) (_:n.size<=4294967296) (H:(k==1)=false) (V:(k==2)=false) (L:(k==3)=false) (k4:(k==4)=false) (N:(k==5)=false):
  Calls prog 87 #[zl S m,.agg #[.int .i64 k,.string n,.int .i64 (i:Int)]] w fun e J=>e= .returned (.string (za4 k n (prX m.ex i)))/\Below w.heap.size w J:=by
 have X:=zc h;have Z:Hid (za4 k n (prX m.ex i)=({data:=#[102,97,105,108,32]}:BA)++prX m.ex i++({data:=#[59,10]}:BA)):=by show _=_;rw[za4,H,V,L,k4,N];rfl
 have q:=E;unfold wt at q;have HX:=zc (And.intro (zc9 (o':=.cells #[.int .i64 k,.string n,.int .i64 (i:Int)] 102) (heap_alloc_new w (.cells #[.slice S.rq.a m.rq.length S.rq.cap,.slice S.im.a m.im.length S.im.cap,.slice S.ep.a m.ep.length S.ep.cap,.slice S.st.a m.st.length S.st.cap,.slice S.ex.a m.ex.length S.ex.cap] 54))) (new2 w (.cells #[.slice S.rq.a m.rq.length S.rq.cap,.slice S.im.a m.im.length S.im.cap,.slice S.ep.a m.ep.length S.ep.cap,.slice S.st.a m.st.length S.st.cap,.slice S.ex.a m.ex.length S.ex.cap] 54) (.cells #[.int .i64 k,.string n,.int .i64 (i:Int)] 102)));clear h;unfold zl;go_enter func87,ntmps87;go_wp2_with fail;refine (zeo base S m i _ U Y O ((X.o.alloc _).alloc _) E).mono ?_;rintro e I ⟨rfl,A⟩;have M:Hid (Below w.heap.size w I):=(zbd w _ _).trans (A.mono (by rw[zg,zg];omega));have D:=zc ((A.block _ (by rw[zg,zg];omega)).trans HX.o.2);obtain⟨c0,c1,c2,cf⟩:=zq D.o;clear A;obtain⟨t,z⟩: ∃t,prX m.ex i=t:=⟨_,rfl⟩;rw[z] at q ⊢;have K:=zc z;clear z;go_wp2;go_ret;exact⟨za5 (by rw[Z.o,K.o]),M.o⟩
theorem zqW (base:Nat) (S:Sv) (m:Md) (k:Int) (n:BA) (i:Nat) (w:World) (h:OwnMd w base S m) (E:i<m.ex.length) (H:zaU m.ex) (A:zb3 m.ex) (z:wt m.ex i<=1099511627776) (D:n.size<=4294967296):
  Calls prog 87 #[zl S m,.agg #[.int .i64 k,.string n,.int .i64 (i:Int)]] w fun e N=>e= .returned (.string (za4 k n (prX m.ex i)))/\Below w.heap.size w N:=by
 cases q:(k==1) with
 |true=>
  cases L:(n.toList==[42,100,101,102,97,117,108,116]) with
  |true=>exact zqP base S m k n i w h E H A z D q L
  |false=>exact zqQ base S m k n i w h E H A z D q L
 |false=>
  cases I:(k==2) with
  |true=>exact zqR base S m k n i w h E H A z D q I
  |false=>
   cases J:(k==3) with
   |true=>exact zqS base S m k n i w h E H A z D q I J
   |false=>
    cases K:(k==4) with
    |true=>exact zqT base S m k n i w h E H A z D q I J K
    |false=>
     cases M:(k==5) with
     |true=>exact zqU base S m k n i w h E H A z D q I J K M
     |false=>exact zqV base S m k n i w h E H A z D q I J K M
theorem zk9 (a b:List Ex) (k:Int):zas (a++b) k=zas a k+zas b k:=by simp[zas]
theorem zkA (a b:List Sm) (k:Int):zaL (a++b) k=zaL a k+zaL b k:=by simp[zaL]
theorem zkB {ex:List Ex} {i:Nat} (h:i<ex.length) (k:Int):zas (ex.take (i+1)) k=zas (ex.take i) k+u1 ex[i] k:=by
 rw[List.take_succ_eq_append_getElem h,zk9];simp[zas,u1]
theorem zqX {h:List Sm} {i:Nat} (q:i<h.length) (k:Int):zaL (h.take (i+1)) k=zaL (h.take i) k+if h[i].expr==k then 1 else 0:=by
 rw[List.take_succ_eq_append_getElem q,zkA];simp[zaL]
theorem zg7 (ex:List Ex) (k:Int):zas ex k<=2*ex.length:=by
 induction ex with
 |nil=>simp[zas]
 |cons x l h=>
  rw[show x::l=[x]++l from rfl,zk9];have:zas [x] k<=2:=by
   simp only[zas,List.map_cons,List.map_nil,List.sum_cons,List.sum_nil]
   split
   ·split<;>split<;>omega
   ·omega
  simp only[List.length_append,List.length_cons,List.length_nil];omega
theorem zkC (h:List Sm) (k:Int):zaL h k<=h.length:=by
 induction h with
 |nil=>simp[zaL]
 |cons x l q=>
  rw[show x::l=[x]++l from rfl,zkA];have:zaL [x] k<=1:=by
   simp only[zaL,List.map_cons,List.map_nil,List.sum_cons,List.sum_nil]
   split<;>omega
  simp only[List.length_append,List.length_cons,List.length_nil];omega
def zar (n:Nat) (f:Nat->Nat):List Value:=(List.range n).map fun k=>.int .i64 (f k:Int)
theorem zhQ (n:Nat) (f:Nat->Nat):(zar n f).length=n:=by simp[zar]
theorem zg8 {n:Nat} (f:Nat->Nat) {k:Nat} (h:k<n):(zar n f)[k]? =some (.int .i64 (f k:Int)):=by
 unfold zar;rw[List.getElem?_map,List.getElem?_range h];rfl
theorem zqY {n l:Nat} (f g:Nat->Nat) (v:Nat) (w:g l=v) (h: ∀k,k≠l->g k=f k):(zar n f).set l (.int .i64 (v:Int))=zar n g:=by
 apply List.ext_getElem?;intro k;by_cases q:k<n
 ·by_cases e:k=l
  ·subst e;rw[List.getElem?_set_self (by rw[zhQ];exact q),zg8 g q,w]
  ·rw[List.getElem?_set_ne (fun x=>e x.symm),zg8 f q,zg8 g q,h k e]
 ·rw[List.getElem?_eq_none (by rw[List.length_set,zhQ];omega),List.getElem?_eq_none (by rw[zhQ];omega)]
theorem zep {n:Nat} {f g:Nat->Nat} (h: ∀k,k<n->f k=g k):zar n f=zar n g:=by
 unfold zar;refine List.map_congr_left fun k q=>?_;rw[h k (List.mem_range.1 q)]
def zaI (f:Nat->Nat) (l:Nat):Nat->Nat:=fun k=>f k+if k=l then 1 else 0
theorem zqZ (f:Nat->Nat) (l:Nat):zaI f l l=f l+1:=by simp[zaI]
theorem zra (f:Nat->Nat) {l k:Nat} (h:k≠l):zaI f l k=f k:=by simp[zaI,h]
theorem zkD {ex:List Ex} {i:Nat} (z:i<ex.length) (w:zZ ex[i].kind=true) (D:0<=ex[i].l) (A:0<=ex[i].r) (k:Nat):zaI (zaI (fun k=>zas (ex.take i) (k:Int)) ex[i].l.toNat) ex[i].r.toNat k=zas (ex.take (i+1)) (k:Int):=by
 rw[zkB z,u1,if_pos w];unfold zaI;have h:(ex[i].l==(k:Int))=decide (k=ex[i].l.toNat):=by
  rw[Bool.eq_iff_iff,beq_iff_eq,decide_eq_true_iff];omega
 have q:(ex[i].r==(k:Int))=decide (k=ex[i].r.toNat):=by
  rw[Bool.eq_iff_iff,beq_iff_eq,decide_eq_true_iff];omega
 rw[h,q];simp only[decide_eq_true_eq];omega
theorem zkE {ex:List Ex} {i:Nat} (h:i<ex.length) (q:zZ ex[i].kind=false) (k:Nat):zas (ex.take i) (k:Int)=zas (ex.take (i+1)) (k:Int):=by
 rw[zkB h,u1,if_neg (by rw[q];decide),Nat.add_zero]
theorem zkF {h:List Sm} {ex:List Ex} {i:Nat} (q:i<h.length) (z:0<=h[i].expr) (k:Nat):zaI (fun k=>zas ex (k:Int)+zaL (h.take i) (k:Int)) h[i].expr.toNat k=zas ex (k:Int)+zaL (h.take (i+1)) (k:Int):=by
 rw[zqX q];unfold zaI;have w:(h[i].expr==(k:Int))=decide (k=h[i].expr.toNat):=by
  rw[Bool.eq_iff_iff,beq_iff_eq,decide_eq_true_iff];omega
 rw[w];simp only[decide_eq_true_eq];omega
def AheadTo (ex:List Ex) (n:Nat):Prop:=∀(i:Nat) (x:Ex),i<n->ex[i]? =some x->zZ x.kind=true->0<=x.l/\x.l<(i:Int)/\0<=x.r/\x.r<(i:Int)
theorem AheadTo.all {ex:List Ex} (h:AheadTo ex ex.length):zb3 ex:=fun i x q=>h i x (List.getElem?_eq_some_iff.1 q).1 q
theorem AheadTo.next {ex:List Ex} {i:Nat} (h:AheadTo ex i) (D:i<ex.length) (z:zZ ex[i].kind=true->0<=ex[i].l/\ex[i].l<(i:Int)/\0<=ex[i].r/\ex[i].r<(i:Int)):AheadTo ex (i+1):=by
 intro j x A q w;by_cases e:j=i
 ·subst e;obtain⟨_,rfl⟩:=List.getElem?_eq_some_iff.1 q;exact z w
 ·exact h j x (by omega) q w
theorem AheadTo.not {ex:List Ex} {i:Nat} (q:i<ex.length) (w:zZ ex[i].kind=true) (z: ¬(0<=ex[i].l/\ex[i].l<(i:Int)/\0<=ex[i].r/\ex[i].r<(i:Int))): ¬zb3 ex:=fun h=>z (h i _ (List.getElem?_eq_getElem q) w)
end Go.Proofs.YtgcbmogmniahjaaGreat
namespace Go.Proofs.YtgcbmogmniahjaaGreat
open Go.RowKit Go.PlainAid Go.Proofs.Tryz
theorem zfa (a b c:Int) (w:World):
  Calls prog 25 #[.int .i64 a,.int .i64 b,.int .i64 c] w fun e q=>e= .returned (.bool (inB a b c))/\q=w:=by
 by_cases h:b<=a
 ·by_cases z:a<=c
  ·go_enter func25,ntmps25;go_wp2;go_ret;exact⟨zi (ziH h z).symm,rfl⟩
  ·go_enter func25,ntmps25;go_wp2;go_ret;exact⟨zi (zgZ (by omega)).symm,rfl⟩
 ·go_enter func25,ntmps25;go_wp2;go_ret;exact⟨zi (zgZ (by omega)).symm,rfl⟩
end Go.Proofs.YtgcbmogmniahjaaGreat
