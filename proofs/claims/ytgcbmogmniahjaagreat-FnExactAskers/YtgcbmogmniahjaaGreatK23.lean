/- Facts and walks. -/
import Derived.Laws.StructEq
import Derived.Test.YtgcbmogmniahjaaGreatK22
namespace Go.Proofs.YtgcbmogmniahjaaGreat
open Nat (le_refl)
open Go.Proofs.Tryz
set_option maxRecDepth 100000
set_option maxHeartbeats 12800000
open Go.RowKit Go.PlainAid Go.Sort
variable (w:List Ex) (W:BinOp) (C S:Operand) (q z:Ep) (s g:Im) (b c:Nat) (d:Nat->Nat) (T:Sv) (n:Md) (k:Nat) (u:Int) (t A:BA) (h:Nat) (V:World) {B:List Ex} {D:Nat} {E:List Sm}
theorem zkS:Sem.run prog (binOp .neq 95 (.agg #[.string s.spec,.string s.first,.string s.loc]) (.agg #[.string g.spec,.string g.first,.string g.loc])) V= .ok (.bool (!zdu s g)) V:=by
 have E:=underlying9;have I:=Tryz.isAgg9;have H:=Tryz.sizeOf9;have K:=underlying3;have J:=Tryz.isAgg3;have L:=Tryz.sizeOf3;have z:prog.underlying 95=some (.struct (prog.fieldsOf 95)):=by kernel_rfl
 have h:prog.stoodInHeld 95=false:=by kernel_rfl
 rw[run_neq_struct,show (10000:Nat)=9999+1 from rfl,run_equalIn_agg V 9999 95 _ _ z h];simp only[Program.fieldsOf,underlying95];go_simp;by_cases D:s.spec.toList=g.spec.toList<;>by_cases A:s.first.toList=g.first.toList<;>by_cases q:s.loc.toList=g.loc.toList<;>simp[zdu,D,A,q]
theorem zkT:Sem.run prog (eqGuard W 95 C S (.agg #[.string s.spec,.string s.first,.string s.loc]) (.agg #[.string g.spec,.string g.first,.string g.loc])) V= .ok () V:=run_eqGuard_agg V W 95 C S _ _ (by kernel_rfl)
theorem zkU:Sem.run prog (binOp .neq 97 (.agg #[.int .i64 q.kind,.string q.name,.string q.loc,.string q.spec]) (.agg #[.int .i64 z.kind,.string z.name,.string z.loc,.string z.spec])) V= .ok (.bool (!zdv q z)) V:=by
 have H:=underlying9;have J:=Tryz.isAgg9;have I:=Tryz.sizeOf9;have L:=underlying3;have K:=Tryz.isAgg3;have M:=Tryz.sizeOf3;have G:prog.underlying 97=some (.struct (prog.fieldsOf 97)):=by kernel_rfl
 have h:prog.stoodInHeld 97=false:=by kernel_rfl
 rw[run_neq_struct,show (10000:Nat)=9999+1 from rfl,run_equalIn_agg V 9999 97 _ _ G h];simp only[Program.fieldsOf,underlying97];go_simp;by_cases D:q.kind=z.kind<;>by_cases A:q.name.toList=z.name.toList<;>by_cases F:q.loc.toList=z.loc.toList<;>by_cases E:q.spec.toList=z.spec.toList<;>simp[zdv,D,A,F,E]
theorem zkV:Sem.run prog (eqGuard W 97 C S (.agg #[.int .i64 q.kind,.string q.name,.string q.loc,.string q.spec]) (.agg #[.int .i64 z.kind,.string z.name,.string z.loc,.string z.spec])) V= .ok () V:=run_eqGuard_agg V W 97 C S _ _ (by kernel_rfl)
theorem zkW (x y:Sm) (w:World):Sem.run prog (binOp .neq 102 (.agg #[.int .i64 x.kind,.string x.name,.int .i64 x.expr]) (.agg #[.int .i64 y.kind,.string y.name,.int .i64 y.expr])) w= .ok (.bool (!zdw x y)) w:=by
 have E:=underlying9;have I:=Tryz.isAgg9;have H:=Tryz.sizeOf9;have K:=underlying3;have J:=Tryz.isAgg3;have L:=Tryz.sizeOf3;have z:prog.underlying 102=some (.struct (prog.fieldsOf 102)):=by kernel_rfl
 have h:prog.stoodInHeld 102=false:=by kernel_rfl
 rw[run_neq_struct,show (10000:Nat)=9999+1 from rfl,run_equalIn_agg w 9999 102 _ _ z h];simp only[Program.fieldsOf,underlying102];go_simp;by_cases D:x.kind=y.kind<;>by_cases A:x.name.toList=y.name.toList<;>by_cases q:x.expr=y.expr<;>simp[zdw,D,A,q]
theorem zkX (x y:Sm) (w:World):Sem.run prog (eqGuard W 102 C S (.agg #[.int .i64 x.kind,.string x.name,.int .i64 x.expr]) (.agg #[.int .i64 y.kind,.string y.name,.int .i64 y.expr])) w= .ok () w:=run_eqGuard_agg w W 102 C S _ _ (by kernel_rfl)
theorem zkY (x y:Ex) (w:World):Sem.run prog (binOp .neq 100 (.agg #[.int .i64 x.kind,.int .i64 x.num,.string x.name,.string x.field,.int .i64 x.l,.int .i64 x.r]) (.agg #[.int .i64 y.kind,.int .i64 y.num,.string y.name,.string y.field,.int .i64 y.l,.int .i64 y.r])) w= .ok (.bool (!zdx x y)) w:=by
 have J:=underlying9;have L:=Tryz.isAgg9;have K:=Tryz.sizeOf9;have N:=underlying3;have M:=Tryz.isAgg3;have O:=Tryz.sizeOf3;have z:prog.underlying 100=some (.struct (prog.fieldsOf 100)):=by kernel_rfl
 have h:prog.stoodInHeld 100=false:=by kernel_rfl
 rw[run_neq_struct,show (10000:Nat)=9999+1 from rfl,run_equalIn_agg w 9999 100 _ _ z h];simp only[Program.fieldsOf,underlying100];go_simp;by_cases H:x.kind=y.kind<;>by_cases D:x.num=y.num<;>by_cases q:x.name.toList=y.name.toList<;>by_cases I:x.field.toList=y.field.toList<;>by_cases A:x.l=y.l<;>by_cases E:x.r=y.r<;>simp[zdx,H,D,q,I,A,E]
theorem zkZ (x y:Ex) (w:World):Sem.run prog (eqGuard W 100 C S (.agg #[.int .i64 x.kind,.int .i64 x.num,.string x.name,.string x.field,.int .i64 x.l,.int .i64 x.r]) (.agg #[.int .i64 y.kind,.int .i64 y.num,.string y.name,.string y.field,.int .i64 y.l,.int .i64 y.r])) w= .ok () w:=run_eqGuard_agg w W 100 C S _ _ (by kernel_rfl)
theorem zla (Y:Sv) (A I:Md) (w:World) (h1:OwnMd w b T A) (h2:OwnMd w c Y I) (hf:zdT A):
  Calls prog 137 #[zl T A,zl Y I] w fun e w'=>SameOut (A=I) e/\Bw w w':=by
 have H1:=zc h1;have H2:=zc h2;have HF:=zc hf;clear h1 h2 hf;unfold zl;go_enter func137,ntmps137;go_upto_region 1 with fail;refine zu (R:=TwoM w b c T Y A I) (zhQ w b c T Y A I H1.o H2.o) ?_;clear H1 H2;intro w0 h;have T0:=zc h;clear h;obtain⟨X,K,M,U,L,O⟩:=zj T0.o.1;obtain⟨N,J,D,E,V,H⟩:=zj T0.o.2.1;go_wp2_with fail;refine (zpk b c T.rq Y.rq A.rq I.rq w0 (by rw[<-zeX];exact T0.o.2.2.1.rq) (by rw[<-zeX];exact T0.o.2.2.2.1.rq) HF.o.1).mono ?_;rintro e w1 ⟨⟨r,rfl,z⟩,q⟩;have T1:=zc (T0.o.later q);have R0:=zc z;clear q z X K M U L O N J D E V H;obtain⟨X,K,M,U,L,O⟩:=zj T1.o.1;obtain⟨N,J,D,E,V,H⟩:=zj T1.o.2.1;cases r with
 |false=>
  go_wp2;go_ret;exact⟨⟨false,rfl,⟨fun k=>(by cases k),fun k=>(by have:=R0.o.2 (by rw[k]);cases this)⟩⟩,T1.o.2.2.2.2⟩
 |true=>
  go_wp2_with fail;refine (zpo zkS zkT b c T.im Y.im A.im I.im w1 T1.o.2.2.1.im T1.o.2.2.2.1.im HF.o.2.1).mono ?_;rintro e w2 ⟨⟨r,rfl,z⟩,q⟩;have T2:=zc (T1.o.later q);have R1:=zc z;clear q z X K M U L O N J D E V H;obtain⟨X,K,M,U,L,O⟩:=zj T2.o.1;obtain⟨N,J,D,E,V,H⟩:=zj T2.o.2.1;cases r with
  |false=>
   go_wp2;go_ret;exact⟨⟨false,rfl,⟨fun k=>(by cases k),fun k=>(by have:=R1.o.2 (by rw[k]);cases this)⟩⟩,T2.o.2.2.2.2⟩
  |true=>
   go_wp2_with fail;refine (zps zkU zkV b c T.ep Y.ep A.ep I.ep w2 T2.o.2.2.1.ep T2.o.2.2.2.1.ep HF.o.2.2.1).mono ?_;rintro e w3 ⟨⟨r,rfl,z⟩,q⟩;have T3:=zc (T2.o.later q);have R2:=zc z;clear q z X K M U L O N J D E V H;obtain⟨X,K,M,U,L,O⟩:=zj T3.o.1;obtain⟨N,J,D,E,V,H⟩:=zj T3.o.2.1;cases r with
   |false=>
    go_wp2;go_ret;exact⟨⟨false,rfl,⟨fun k=>(by cases k),fun k=>(by have:=R2.o.2 (by rw[k]);cases this)⟩⟩,T3.o.2.2.2.2⟩
   |true=>
    go_wp2_with fail;refine (zpw zkW zkX b c T.st Y.st A.st I.st w3 T3.o.2.2.1.st T3.o.2.2.2.1.st HF.o.2.2.2.1).mono ?_;rintro e w4 ⟨⟨r,rfl,z⟩,q⟩;have T4:=zc (T3.o.later q);have R3:=zc z;clear q z X K M U L O N J D E V H;obtain⟨X,K,M,U,L,O⟩:=zj T4.o.1;obtain⟨N,J,D,E,V,H⟩:=zj T4.o.2.1;cases r with
    |false=>
     go_wp2;go_ret;exact⟨⟨false,rfl,⟨fun k=>(by cases k),fun k=>(by have:=R3.o.2 (by rw[k]);cases this)⟩⟩,T4.o.2.2.2.2⟩
    |true=>
     go_wp2_with fail;refine (zp0 zkY zkZ b c T.ex Y.ex A.ex I.ex w4 T4.o.2.2.1.ex T4.o.2.2.2.1.ex HF.o.2.2.2.2).mono ?_;rintro e w5 ⟨⟨r,rfl,z⟩,q⟩;have T5:=zc (T4.o.later q);have R4:=zc z;clear q z X K M U L O N J D E V H;obtain⟨X,K,M,U,L,O⟩:=zj T5.o.1;obtain⟨N,J,D,E,V,H⟩:=zj T5.o.2.1;cases r with
     |false=>
      go_wp2;go_ret;exact⟨⟨false,rfl,⟨fun k=>(by cases k),fun k=>(by have:=R4.o.2 (by rw[k]);cases this)⟩⟩,T5.o.2.2.2.2⟩
     |true=>
      go_wp2;go_ret;exact⟨⟨true,rfl,⟨fun _=>zke (R0.o.1 (by simp)) (R1.o.1 (by simp)) (R2.o.1 (by simp)) (R3.o.1 (by simp)) (R4.o.1 (by simp)),fun _=>rfl⟩⟩,T5.o.2.2.2.2⟩
theorem Tryz.infoByte:(prog.info? 5).map (fun i=>(i.zero,i.size,i.bytes))=some (some (.int .u8 0),1,1):=by kernel_rfl
theorem zlb (H:0<=u) (I:u<=18446744073709551615):
  Calls prog 254 #[.int .u64 u] V fun e K=>e= .returned (.int .i64 (dcn u))/\K=V:=by
 have A:=zdA u H I;have J:dcn u<=20:=A.2.1;have E:1<=dcn u:=A.1;clear A;go_enter func254,ntmps254;go_wp2;go_loop [0,3] (fun a c=>∃k:Nat,k+1<=dcn u/\a= .int .u64 (u/10^k)/\c= .int .i64 ((k:Int)+1)) (fun a _=>(intOf a).toNat)
 case atStart=>exact⟨0,E,by simp,rfl⟩
 case round=>
  obtain⟨k,L,rfl,rfl⟩:=hrel;have M:=zeM u k H;have z:=znM u H I k;by_cases q:10<=u/10^k
  ·have D:=z.1 q;clear z;go_wp2;go_round
   case rel=>exact⟨k+1,by omega,by rw[zeL],by go_num⟩
   case measure=>simp[intOf];omega
  ·have D: ¬(k+1<dcn u):=fun h=>q (z.2 h);clear z;go_wp2;go_ret;exact⟨zbG (by omega),rfl⟩
theorem zrr (O:0<=u) (h1:u<=9223372036854775807):
  Calls prog 241 #[.int .i64 u] V fun e D=>e= .returned (.string (strOfNums (dgk u (dcn u))))/\Bw V D:=by
 obtain⟨Y,hi,J,L,M⟩:=info_parts Tryz.infoByte;have I:=zdA u O (by omega);have Z:dcn u<=20:=I.2.1;have aa:1<=dcn u:=I.1;clear I;go_enter func241,ntmps241;go_wp2_with (first|(go_at_call 254;refine (zlb _ _ (by omega) (by omega)).mono ?_;rintro e D ⟨rfl,rfl⟩)|(at_make;refine wpList_make_full _ rfl _ _ 147 rfl D.heap.size 5 Y (.int .u8 0) 1 underlying147 hi J L _ _ _ _ (dcn u) rfl rfl (by omega) (by omega) ?b2 ?b3 ?b4 ?_))
 case b2=>rw[M];omega
 case b3=>unfold maxLen;omega
 case b4=>exact le_refl _
 intro w1 q z;have E:=(Below.refl D.heap.size D).grown z (le_refl _) (by intro k U;cases U);rw[toList_madeCells_one] at q;clear z;go_wp2;go_loopw [3,7,21] (fun r _ i wr=>∃k:Nat,k<=dcn u/\i= .int .i64 k/\r= .int .u64 (u/10^k)/\zcQ wr D.heap.size 5 (.slice (some ⟨D.heap.size,0,none⟩) (dcn u) (dcn u)) (dcn u) (zcR (dgk u (dcn u)) k)/\Bw D wr) (fun _ _ i _=>dcn u-(intOf i).toNat)
 case atStart=>exact⟨0,by omega,rfl,by simp,by unfold zcQ;rw[zjt,zcG,List.map_replicate];exact q,E⟩
 case round=>
  obtain⟨k,U,rfl,rfl,h,A⟩:=hrel;clear q E;have hb:=zeM u k O;by_cases H:k<dcn u
  ·obtain⟨v,hv⟩:=zhz h (dcn u-1-k) (by omega);have hf:=zh0 h (dcn u-1-k);have F:=zhy h (dcn u-1-k) (48+u/10^k%10);have N:=zju (dgk u (dcn u)) k (48+u/10^k%10) (by rw[zcG];exact H) (by rw[zcG];exact zj3 u _ k H);rw[zcG] at N;rw[N] at F;clear N h;go_wp2;go_roundw
   case rel=>exact⟨k+1,by omega,by go_num,by rw[zeL],F,A.setCell (le_refl _) _⟩
   case measure=>simp[intOf];omega
  ·have K:=znN (dgk u (dcn u));rw[zcG] at K;rw[show k=dcn u from by omega,K] at h;clear K;have X:=zjs (P:=prog) (src:=147) (dst:=9) underlying147 underlying5 underlying9 h;go_wp2;go_ret;exact⟨rfl,A⟩
theorem zrs (q:0<u) (h:u<=9223372036854775808):IntKind.u64.wrap (-IntKind.u64.wrap (-u))=u:=by
 rw[IntKind.wrap_u64,IntKind.wrap_u64];omega
theorem zrt (Y:0<u) (h1:u<=9223372036854775808):
  Calls prog 241 #[.int .i64 (-u)] V fun e D=>e= .returned (.string (strOfNums (45::dgk u (dcn u))))/\Bw V D:=by
 obtain⟨i0,hi,L,N,O⟩:=info_parts Tryz.infoByte;have J:=zdA u (by omega) (by omega);have aa:dcn u<=20:=J.2.1;have ab:1<=dcn u:=J.1;clear J;have hu:=zrs u Y h1;go_enter func241,ntmps241;go_wp2_with (first|(go_at_call 254;refine (zlb _ _ (by omega) (by omega)).mono ?_;rintro e D ⟨rfl,rfl⟩)|(at_make;refine wpList_make_full _ rfl _ _ 147 rfl D.heap.size 5 i0 (.int .u8 0) 1 underlying147 hi L N _ _ _ _ (dcn u+1) rfl rfl (by omega) (by omega) ?b2 ?b3 ?b4 ?_))
 case b2=>rw[O];omega
 case b3=>unfold maxLen;omega
 case b4=>exact le_refl _
 intro w1 q z;have H:=(Below.refl D.heap.size D).grown z (le_refl _) (by intro k X;cases X);rw[toList_madeCells_one] at q;clear z;have E:(45::dgk u (dcn u)).length=dcn u+1:=by rw[List.length_cons,zcG]
 have U:Hid ((45::dgk u (dcn u)).length=dcn u+1):=E;clear E;go_wp2;go_loopw [3,7,21] (fun r _ i wr=>∃k:Nat,k<=dcn u/\i= .int .i64 k/\r= .int .u64 (u/10^k)/\zcQ wr D.heap.size 5 (.slice (some ⟨D.heap.size,0,none⟩) (dcn u+1) (dcn u+1)) (dcn u+1) (zcR (45::dgk u (dcn u)) k)/\Bw D wr) (fun _ _ i _=>dcn u-(intOf i).toNat)
 case atStart=>exact⟨0,by omega,rfl,by simp,by unfold zcQ;rw[zjt,U.o,List.map_replicate];exact q,H⟩
 case round=>
  obtain⟨k,X,rfl,rfl,h,A⟩:=hrel;clear q H hu;have hb:=zeM u k (by omega);by_cases K:k<dcn u
  ·obtain⟨v,hv⟩:=zhz h (dcn u-k) (by omega);have hf:=zh0 h (dcn u-k);have I:=zhy h (dcn u-k) (48+u/10^k%10);have F:=zju (45::dgk u (dcn u)) k (48+u/10^k%10) (by rw[U.o];omega) (znP [45] u (dcn u) k K);rw[U.o,show dcn u+1-1-k=dcn u-k from by omega] at F;rw[F] at I;clear F h;go_wp2;go_roundw
   case rel=>exact⟨k+1,by omega,by go_num,by rw[zeL],I,A.setCell (le_refl _) _⟩
   case measure=>simp[intOf];omega
  ·have M:=znO 45 (dgk u (dcn u));rw[zcG] at M;rw[show k=dcn u from by omega] at h;obtain⟨v,hv⟩:=zhz h 0 (by omega);have hf:=zh0 h 0;have I:=zhy h 0 45;rw[M] at I;clear M h;have Z:=zjs (P:=prog) (src:=147) (dst:=9) underlying147 underlying5 underlying9 I;go_wp2;go_ret;exact⟨rfl,A.setCell (le_refl _) _⟩
theorem zru (z: -9223372036854775808<=u/\u<=9223372036854775807):
  Calls prog 241 #[.int .i64 u] V fun e q=>e= .returned (.string (strOfNums (zcc u)))/\Bw V q:=by
 by_cases h:0<=u
 ·rw[zh3 h];exact zrr u V h z.2
 ·obtain⟨m,rfl⟩: ∃m,u= -m:=⟨-u,by omega⟩;rw[zh2 (by omega),Int.neg_neg];exact zrt m V (by omega) (by omega)
theorem neg_tmod (h:0<=u):(-u).tmod 10= -(u%10):=by rw[Int.neg_tmod,Int.tmod_eq_emod_of_nonneg h]
theorem neg_tdiv (h:0<=u):(-u).tdiv 10= -(u/10):=by rw[Int.neg_tdiv,Int.tdiv_eq_ediv_of_nonneg h]
theorem zrv (X:0<u) (h1:u<=9223372036854775807):
  Calls prog 161 #[.int .i64 u] V fun e L=>e= .returned (.string (strOfNums (dgk u (dcn u))))/\Bw V L:=by
 have D:=zdA u (by omega) (by omega);have U:dcn u<=20:=D.2.1;have F:1<=dcn u:=D.1;have K:(u==0)=false:=by simp;omega
 have J: ¬u<0:=by omega
 clear D;go_enter func161,ntmps161;go_wp2;go_loopw [0,3,5] (fun a o _ wr=>∃k:Nat,k<=dcn u/\a= .int .i64 (u/10^k)/\o= .string (strOfNums (dgk u k))/\Bw V wr) (fun a _ _ _=>(intOf a).toNat)
 case atStart=>exact⟨0,by omega,by simp,rfl,Below.refl _ _⟩
 case round=>
  obtain⟨k,Z,rfl,rfl,q⟩:=hrel;have Y:=zeM u k (by omega);have A:=zj2 u (by omega) (by omega) k;have O:(strOfNums (dgk u k)).size<=20:=by rw[strOfNums_size,zcG];omega
  by_cases z:u/10^k=0
  ·have E: ¬(k<dcn u):=fun h=>A.2 h z;have H:(u/10^k !=0)=false:=by simpa using z
   clear A z;go_wp2;go_ret;exact⟨za4 (by rw[show dcn u=k from by omega]),q⟩
  ·have E:=A.1 z;have H:(u/10^k !=0)=true:=by simpa using z
   have N:0<u/10^k:=by omega
   clear A z;have M:=fun (V:World) (x:Int)=>zhx (P:=prog) (src:=147) (dst:=9) underlying147 underlying5 underlying9 V x;have I:=fun x=>strOfNums_size [x];go_wp2;go_roundw
   case rel=>exact⟨k+1,by omega,by rw[zeL],by rw[zgg];rfl,q.alloc q.size _⟩
   case measure=>simp[intOf];omega
theorem zrw (Y:0<u) (h1:u<=9223372036854775808):
  Calls prog 161 #[.int .i64 (-u)] V fun e M=>e= .returned (.string (strOfNums (45::dgk u (dcn u))))/\Bw V M:=by
 have A:=zdA u (by omega) (by omega);have F:dcn u<=20:=A.2.1;have X:1<=dcn u:=A.1;have L:(-u==0)=false:=by simp;omega
 clear A;go_enter func161,ntmps161;go_wp2;go_loopw [0,3,5] (fun a o _ wr=>∃k:Nat,k<=dcn u/\a= .int .i64 (-(u/10^k))/\o= .string (strOfNums (dgk u k))/\Bw V wr) (fun a _ _ _=>(-(intOf a)).toNat)
 case atStart=>exact⟨0,by omega,by simp,rfl,Below.refl _ _⟩
 case round=>
  obtain⟨k,Z,rfl,rfl,q⟩:=hrel;have I:=zeM u k (by omega);have D:=zj2 u (by omega) (by omega) k;have U:(strOfNums (dgk u k)).size<=20:=by rw[strOfNums_size,zcG];omega
  by_cases z:u/10^k=0
  ·have E: ¬(k<dcn u):=fun h=>D.2 h z;have H:(-(u/10^k) !=0)=false:=by simpa using z
   have J:(strOfNums [45]).size=1:=strOfNums_size [45];clear D z;go_wp2;go_ret;exact⟨za4 (by rw[show dcn u=k from by omega];exact zgg 45 _),q⟩
  ·have E:=D.1 z;have H:(-(u/10^k) !=0)=true:=by simpa using z
   have O:0<u/10^k:=by omega
   clear D z;have e1:=neg_tmod (u/10^k) I.1;have e2:=neg_tdiv (u/10^k) I.1;have N:=fun (V:World) (x:Int)=>zhx (P:=prog) (src:=147) (dst:=9) underlying147 underlying5 underlying9 V x;have K:=fun x=>strOfNums_size [x];by_cases A:0<u/10^k%10
   ·go_wp2;go_roundw
    case rel=>exact⟨k+1,by omega,by rw[zeL],by rw[zgg];rfl,q.alloc q.size _⟩
    case measure=>simp[intOf];omega
   ·go_wp2;go_roundw
    case rel=>exact⟨k+1,by omega,by rw[zeL],by rw[zgg,show 48+ -(u/10^k%10)=48+u/10^k%10 from by omega];rfl,q.alloc q.size _⟩
    case measure=>simp[intOf];omega
theorem zrx (A: -9223372036854775808<=u/\u<=9223372036854775807):
  Calls prog 161 #[.int .i64 u] V fun e q=>e= .returned (.string (strOfNums (zcc u)))/\Bw V q:=by
 by_cases h:0<u
 ·rw[zh3 (by omega)];exact zrv u V h A.2
 ·by_cases D:u=0
  ·subst D;have z:Hid (zcc 0=[48]):=by show zcc 0=[48];decide
   go_enter func161,ntmps161;go_wp2;go_ret;exact⟨za4 (by rw[z.o];rfl),Below.refl _ _⟩
  ·obtain⟨m,rfl⟩: ∃m,u= -m:=⟨-u,by omega⟩;rw[zh2 (by omega),Int.neg_neg];exact zrw m V (by omega) (by omega)
theorem zlc:Calls prog 123 #[.int .i64 u] V fun e A=>e= .returned (.bool (zac u))/\A=V:=by
 cases q:(u==6) with
 |true=>
  have h:Hid (zac u=true):=by show _=_;rw[zac,q];rfl
  go_enter func123,ntmps123;go_wp2;go_ret;exact⟨zi h.o.symm,rfl⟩
 |false=>
  cases z:(u==7) with
  |true=>
   have h:Hid (zac u=true):=by show _=_;rw[zac,q,z];rfl
   go_enter func123,ntmps123;go_wp2;go_ret;exact⟨zi h.o.symm,rfl⟩
  |false=>
   have h:Hid (zac u=(u==8)):=by show _=_;rw[zac,q,z];simp
   go_enter func123,ntmps123;go_wp2;go_ret;exact⟨zi h.o.symm,rfl⟩
theorem zim (i:Nat) (w:World) (h:OwnMd w b T n) (E:i<n.ex.length):
  Calls prog 163 #[zl T n,.int .i64 i] w fun e A=>e= .returned (.bool (zR (n.ex.getD i zh).kind))/\Bw w A:=by
 obtain⟨g,hg,hlt,c0,-,-,-,-,-⟩:=h.expr E;have D:(i:Int)<(n.ex.length:Int):=by omega
 unfold zl;rw[hg];generalize (n.ex.getD i zh).kind=k at c0 ⊢;clear h hg;cases z:(k==6) with
 |true=>
  have q:Hid (zR k=true):=by show _=_;rw[zR,z];rfl
  go_enter func163,ntmps163;go_wp2;go_ret;exact⟨zi q.o.symm,bA0⟩
 |false=>
  have q:Hid (zR k=(k==7)):=by show _=_;rw[zR,z];simp
  go_enter func163,ntmps163;go_wp2;go_ret;exact⟨zi q.o.symm,bA0⟩
def zfd (base:Nat) (S:Sv) (m:Md) (n:Nat):Prop:=∀(i:Nat) (w:World),i<n->i<m.ex.length->OwnMd w base S m->wt m.ex i<=1099511627776->
 Calls prog 125 #[zl S m,.int .i64 i] w fun e w'=>e= .returned (.string (prX m.ex i))/\Bw w w'
theorem zgO (G i:Nat) (F:Bool) (w:World) (H:zfd b T n G) (J:i<G) (M:i<n.ex.length) (h:OwnMd w b T n) (A:wt n.ex i<=1099511627776):
  Calls prog 162 #[zl T n,.int .i64 i,.bool F] w fun e O=>e= .returned (.string (zK F (prX n.ex i)))/\Bw w O:=by
 have L:=zc H;have I:=zc h;have N:=zc A;unfold wt at A;clear H h;unfold zl;cases F with
 |true=>
  have z:Hid (zK true (prX n.ex i)=zp++prX n.ex i++zaA):=rfl;go_enter func162,ntmps162;go_wp2_with fail;refine (L.o i _ J M (I.o.alloc _) N.o).mono ?_;rintro e D ⟨rfl,q⟩;have E:Hid (Bw w D):=(bA0).trans (q.mono (by rw[zg];omega));clear q;generalize K:prX n.ex i=t at A z ⊢;have U:=zc K;clear K;go_wp2;go_ret;exact⟨za4 (by rw[U.o];exact z.o.symm),E.o⟩
 |false=>
  have z:Hid (zK false (prX n.ex i)=prX n.ex i):=rfl;go_enter func162,ntmps162;go_wp2_with fail;refine (L.o i _ J M (I.o.alloc _) N.o).mono ?_;rintro e D ⟨rfl,q⟩;have E:Hid (Bw w D):=(bA0).trans (q.mono (by rw[zg];omega));clear q;go_wp2;go_ret;exact⟨za4 z.o.symm,E.o⟩
theorem zry (F h l r:Int) (H L:BA) (w:World) (q:T.ex.a=some ⟨b,0,none⟩) (U:k<n.ex.length) (E:b<w.heap.size) (O:w.cell? ⟨b,k*6,none⟩=some (.int .i64 F)) (V:w.cell? ⟨b,k*6+1,none⟩=some (.int .i64 h)) (N:w.cell? ⟨b,k*6+2,none⟩=some (.string H)) (c3:w.cell? ⟨b,k*6+3,none⟩=some (.string L)) (c4:w.cell? ⟨b,k*6+4,none⟩=some (.int .i64 l)) (c5:w.cell? ⟨b,k*6+5,none⟩=some (.int .i64 r)) (M:(F==1)=true) (z: -9223372036854775808<=h/\h<=9223372036854775807):
  Calls prog 125 #[zl T n,.int .i64 k] w fun e I=>e= .returned (.string (strOfNums (zcc h)))/\Bw w I:=by
 have K:(k:Int)<(n.ex.length:Int):=by omega
 unfold zl;rw[q];clear q;go_enter func125,ntmps125;go_wp2_with fail;refine (zrx h _ z).mono ?_;rintro e D ⟨rfl,A⟩;have J:Hid (Bw w D):=(zbg w _ _).trans (A.mono (by rw[zg,zg];omega));clear A;go_wp2;go_ret;exact⟨rfl,J.o⟩
theorem zrz (F D l r:Int) (q H:BA) (w:World) (h:T.ex.a=some ⟨b,0,none⟩) (M:k<n.ex.length) (z:b<w.heap.size) (L:w.cell? ⟨b,k*6,none⟩=some (.int .i64 F)) (N:w.cell? ⟨b,k*6+1,none⟩=some (.int .i64 D)) (J:w.cell? ⟨b,k*6+2,none⟩=some (.string q)) (c3:w.cell? ⟨b,k*6+3,none⟩=some (.string H)) (c4:w.cell? ⟨b,k*6+4,none⟩=some (.int .i64 l)) (c5:w.cell? ⟨b,k*6+5,none⟩=some (.int .i64 r)) (I:(F==1)=false) (K:(F==2)=true):
  Calls prog 125 #[zl T n,.int .i64 k] w fun e A=>e= .returned (.string (q))/\Bw w A:=by
 have E:(k:Int)<(n.ex.length:Int):=by omega
 unfold zl;rw[h];clear h;go_enter func125,ntmps125;go_wp2;go_ret;exact⟨rfl,(bA0).alloc (by show _<=(w.heap.push _).size;simp) _⟩
theorem zr0 (F I l r:Int) (z E:BA) (w:World) (h:T.ex.a=some ⟨b,0,none⟩) (X:k<n.ex.length) (D:b<w.heap.size) (V:w.cell? ⟨b,k*6,none⟩=some (.int .i64 F)) (U:w.cell? ⟨b,k*6+1,none⟩=some (.int .i64 I)) (M:w.cell? ⟨b,k*6+2,none⟩=some (.string z)) (c3:w.cell? ⟨b,k*6+3,none⟩=some (.string E)) (c4:w.cell? ⟨b,k*6+4,none⟩=some (.int .i64 l)) (c5:w.cell? ⟨b,k*6+5,none⟩=some (.int .i64 r)) (L:(F==1)=false) (N:(F==2)=false) (O:(F==3)=true) (q:(z++cParens).size<=1099511627776):
  Calls prog 125 #[zl T n,.int .i64 k] w fun e H=>e= .returned (.string (z++cParens))/\Bw w H:=by
 have J:(k:Int)<(n.ex.length:Int):=by omega
 unfold zl;rw[h];clear h;simp only[ByteArray.size_append] at q;have A:cParens.size=2:=rfl;have K:z.size<=1099511627776:=by omega
 clear q A;go_enter func125,ntmps125;go_wp2;go_ret;exact⟨rfl,(bA0).alloc (by show _<=(w.heap.push _).size;simp) _⟩
theorem zr1 (F I l r:Int) (z A:BA) (w:World) (q:T.ex.a=some ⟨b,0,none⟩) (V:k<n.ex.length) (E:b<w.heap.size) (Z:w.cell? ⟨b,k*6,none⟩=some (.int .i64 F)) (O:w.cell? ⟨b,k*6+1,none⟩=some (.int .i64 I)) (U:w.cell? ⟨b,k*6+2,none⟩=some (.string z)) (c3:w.cell? ⟨b,k*6+3,none⟩=some (.string A)) (c4:w.cell? ⟨b,k*6+4,none⟩=some (.int .i64 l)) (c5:w.cell? ⟨b,k*6+5,none⟩=some (.int .i64 r)) (M:(F==1)=false) (X:(F==2)=false) (N:(F==3)=false) (Y:(F==4)=true) (h:(z++cPoint++A).size<=1099511627776):
  Calls prog 125 #[zl T n,.int .i64 k] w fun e H=>e= .returned (.string (z++cPoint++A))/\Bw w H:=by
 have J:(k:Int)<(n.ex.length:Int):=by omega
 unfold zl;rw[q];clear q;simp only[ByteArray.size_append] at h;have D:cPoint.size=1:=rfl;have K:z.size<=1099511627776:=by omega
 have L:A.size<=1099511627776:=by omega
 clear h D;go_enter func125,ntmps125;go_wp2;go_ret;exact⟨rfl,(bA0).alloc (by show _<=(w.heap.push _).size;simp) _⟩
theorem zr2 (F J l r:Int) (z A:BA) (w:World) (q:T.ex.a=some ⟨b,0,none⟩) (Y:k<n.ex.length) (H:b<w.heap.size) (c0:w.cell? ⟨b,k*6,none⟩=some (.int .i64 F)) (V:w.cell? ⟨b,k*6+1,none⟩=some (.int .i64 J)) (X:w.cell? ⟨b,k*6+2,none⟩=some (.string z)) (c3:w.cell? ⟨b,k*6+3,none⟩=some (.string A)) (c4:w.cell? ⟨b,k*6+4,none⟩=some (.int .i64 l)) (c5:w.cell? ⟨b,k*6+5,none⟩=some (.int .i64 r)) (N:(F==1)=false) (Z:(F==2)=false) (O:(F==3)=false) (k4:(F==4)=false) (U:(F==5)=true) (h:(z++cPoint++A++cParens).size<=1099511627776):
  Calls prog 125 #[zl T n,.int .i64 k] w fun e I=>e= .returned (.string (z++cPoint++A++cParens))/\Bw w I:=by
 have K:(k:Int)<(n.ex.length:Int):=by omega
 unfold zl;rw[q];clear q;simp only[ByteArray.size_append] at h;have E:cParens.size=2:=rfl;have D:cPoint.size=1:=rfl;have L:z.size<=1099511627776:=by omega
 have M:A.size<=1099511627776:=by omega
 clear h E D;go_enter func125,ntmps125;go_wp2;go_ret;exact⟨rfl,(bA0).alloc (by show _<=(w.heap.push _).size;simp) _⟩
theorem zr3 (F D l r:Int) (z H:BA) (w:World) (h:T.ex.a=some ⟨b,0,none⟩) (V:k<n.ex.length) (q:b<w.heap.size) (Z:w.cell? ⟨b,k*6,none⟩=some (.int .i64 F)) (N:w.cell? ⟨b,k*6+1,none⟩=some (.int .i64 D)) (O:w.cell? ⟨b,k*6+2,none⟩=some (.string z)) (c3:w.cell? ⟨b,k*6+3,none⟩=some (.string H)) (c4:w.cell? ⟨b,k*6+4,none⟩=some (.int .i64 l)) (c5:w.cell? ⟨b,k*6+5,none⟩=some (.int .i64 r)) (I:(F==1)=false) (X:(F==2)=false) (L:(F==3)=false) (Y:(F==4)=false) (M:(F==5)=false) (U:(F==6)=false) (K:(F==7)=false) (J:(F==8)=false):
  Calls prog 125 #[zl T n,.int .i64 k] w fun e A=>e= .returned (.string (sNone))/\Bw w A:=by
 have E:(k:Int)<(n.ex.length:Int):=by omega
 unfold zl;rw[h];clear h;go_enter func125,ntmps125;go_wp2;go_ret;exact⟨rfl,(bA0).alloc (by show _<=(w.heap.push _).size;simp) _⟩
theorem zr4 (q:Nat) (F D:Int) (A E:BA) (w:World) (K:T.ex.a=some ⟨c,0,none⟩) (G:OwnMd w b T n) (hi:k<n.ex.length) (ab:c<w.heap.size) (c0:w.cell? ⟨c,k*6,none⟩=some (.int .i64 F)) (c1:w.cell? ⟨c,k*6+1,none⟩=some (.int .i64 D)) (c2:w.cell? ⟨c,k*6+2,none⟩=some (.string A)) (c3:w.cell? ⟨c,k*6+3,none⟩=some (.string E)) (c4:w.cell? ⟨c,k*6+4,none⟩=some (.int .i64 (h:Int))) (c5:w.cell? ⟨c,k*6+5,none⟩=some (.int .i64 (q:Int))) (k1:(F==1)=false) (k2:(F==2)=false) (k3:(F==3)=false) (k4:(F==4)=false) (k5:(F==5)=false) (k6:(F==6)=true) (U:(prX n.ex h++tPlus++zK (zR (n.ex.getD q zh).kind) (prX n.ex q)).size<=1099511627776) (he:zfd b T n k) (hl:h<k) (hr:q<k) (ad:wt n.ex h<=1099511627776) (ag:wt n.ex q<=1099511627776):
  Calls prog 125 #[zl T n,.int .i64 k] w fun e w'=>e= .returned (.string (prX n.ex h++tPlus++zK (zR (n.ex.getD q zh).kind) (prX n.ex q)))/\Bw w w':=by
 have ak:(k:Int)<(n.ex.length:Int):=by omega
 have HA:Hid (OwnMd ((w.alloc (.cells #[.slice T.rq.a n.rq.length T.rq.cap,.slice T.im.a n.im.length T.im.cap,.slice T.ep.a n.ep.length T.ep.cap,.slice T.st.a n.st.length T.st.cap,.slice (some ⟨c,0,none⟩) n.ex.length T.ex.cap] 54)).alloc (.cells #[.int .i64 F,.int .i64 D,.string A,.string E,.int .i64 (h:Int),.int .i64 (q:Int)] 100)) b T n):=(G.alloc _).alloc _;have HE:=zc he;have J:Hid (zl T n= .agg #[.slice T.rq.a n.rq.length T.rq.cap,.slice T.im.a n.im.length T.im.cap,.slice T.ep.a n.ep.length T.ep.cap,.slice T.st.a n.st.length T.st.cap,.slice (some ⟨c,0,none⟩) n.ex.length T.ex.cap]):=by show _=_;rw[zl,K]
 have al:(h:Int)<(n.ex.length:Int):=by omega
 have am:(q:Int)<(n.ex.length:Int):=by omega
 obtain⟨g2,hg2,-,d0,-,-,-,-,-⟩:=G.expr (i:=q) (by omega);have eg:g2=c:=by have:=hg2.symm.trans K;simpa using this
 rw[eg] at d0;obtain⟨kr,N⟩: ∃kr,(n.ex.getD q zh).kind=kr:=⟨_,rfl⟩;rw[N] at d0;have M:=zc N;obtain⟨tl,O⟩: ∃tl,prX n.ex h=tl:=⟨_,rfl⟩;obtain⟨tr,Z⟩: ∃tr,zK (zR (n.ex.getD q zh).kind) (prX n.ex q)=tr:=⟨_,rfl⟩;rw[O,Z] at U;have aa:=zc O;have V:=zc Z;have cL: ∀d H,Calls prog 125 #[.agg #[.slice T.rq.a n.rq.length T.rq.cap,.slice T.im.a n.im.length T.im.cap,.slice T.ep.a n.ep.length T.ep.cap,.slice T.st.a n.st.length T.st.cap,.slice (some ⟨c,0,none⟩) n.ex.length T.ex.cap],.int .i64 (h:Int)] (grow (redrawn ((w.alloc (.cells #[.slice T.rq.a n.rq.length T.rq.cap,.slice T.im.a n.im.length T.im.cap,.slice T.ep.a n.ep.length T.ep.cap,.slice T.st.a n.st.length T.st.cap,.slice (some ⟨c,0,none⟩) n.ex.length T.ex.cap] 54)).alloc (.cells #[.int .i64 F,.int .i64 D,.string A,.string E,.int .i64 (h:Int),.int .i64 (q:Int)] 100)) d) H) fun e I=>e= .returned (.string tl)/\∃p:Regrown,I=grow (redrawn ((w.alloc (.cells #[.slice T.rq.a n.rq.length T.rq.cap,.slice T.im.a n.im.length T.im.cap,.slice T.ep.a n.ep.length T.ep.cap,.slice T.st.a n.st.length T.st.cap,.slice (some ⟨c,0,none⟩) n.ex.length T.ex.cap] 54)).alloc (.cells #[.int .i64 F,.int .i64 D,.string A,.string E,.int .i64 (h:Int),.int .i64 (q:Int)] 100)) p.d) p.os:=fun d H=>Calls.regrown_of (by rw[<-J.o,<-aa.o];exact HE.o h _ (by omega) (by omega) (HA.o.later (below_regrown _ d H)) ad);have cS: ∀d H,Calls prog 163 #[.agg #[.slice T.rq.a n.rq.length T.rq.cap,.slice T.im.a n.im.length T.im.cap,.slice T.ep.a n.ep.length T.ep.cap,.slice T.st.a n.st.length T.st.cap,.slice (some ⟨c,0,none⟩) n.ex.length T.ex.cap],.int .i64 (q:Int)] (grow (redrawn ((w.alloc (.cells #[.slice T.rq.a n.rq.length T.rq.cap,.slice T.im.a n.im.length T.im.cap,.slice T.ep.a n.ep.length T.ep.cap,.slice T.st.a n.st.length T.st.cap,.slice (some ⟨c,0,none⟩) n.ex.length T.ex.cap] 54)).alloc (.cells #[.int .i64 F,.int .i64 D,.string A,.string E,.int .i64 (h:Int),.int .i64 (q:Int)] 100)) d) H) fun e I=>e= .returned (.bool (zR kr))/\∃p:Regrown,I=grow (redrawn ((w.alloc (.cells #[.slice T.rq.a n.rq.length T.rq.cap,.slice T.im.a n.im.length T.im.cap,.slice T.ep.a n.ep.length T.ep.cap,.slice T.st.a n.st.length T.st.cap,.slice (some ⟨c,0,none⟩) n.ex.length T.ex.cap] 54)).alloc (.cells #[.int .i64 F,.int .i64 D,.string A,.string E,.int .i64 (h:Int),.int .i64 (q:Int)] 100)) p.d) p.os:=fun d H=>Calls.regrown_of (by rw[<-J.o,<-M.o];exact zim b T n q _ (HA.o.later (below_regrown _ d H)) (by omega));have cR: ∀d H,Calls prog 162 #[.agg #[.slice T.rq.a n.rq.length T.rq.cap,.slice T.im.a n.im.length T.im.cap,.slice T.ep.a n.ep.length T.ep.cap,.slice T.st.a n.st.length T.st.cap,.slice (some ⟨c,0,none⟩) n.ex.length T.ex.cap],.int .i64 (q:Int),.bool (zR kr)] (grow (redrawn ((w.alloc (.cells #[.slice T.rq.a n.rq.length T.rq.cap,.slice T.im.a n.im.length T.im.cap,.slice T.ep.a n.ep.length T.ep.cap,.slice T.st.a n.st.length T.st.cap,.slice (some ⟨c,0,none⟩) n.ex.length T.ex.cap] 54)).alloc (.cells #[.int .i64 F,.int .i64 D,.string A,.string E,.int .i64 (h:Int),.int .i64 (q:Int)] 100)) d) H) fun e I=>e= .returned (.string tr)/\∃p:Regrown,I=grow (redrawn ((w.alloc (.cells #[.slice T.rq.a n.rq.length T.rq.cap,.slice T.im.a n.im.length T.im.cap,.slice T.ep.a n.ep.length T.ep.cap,.slice T.st.a n.st.length T.st.cap,.slice (some ⟨c,0,none⟩) n.ex.length T.ex.cap] 54)).alloc (.cells #[.int .i64 F,.int .i64 D,.string A,.string E,.int .i64 (h:Int),.int .i64 (q:Int)] 100)) p.d) p.os:=fun d H=>Calls.regrown_of (by rw[<-J.o,<-V.o,M.o];exact zgO b T n k q _ _ HE.o (by omega) (by omega) (HA.o.later (below_regrown _ d H)) ag);have X:Hid (Six ((w.alloc (.cells #[.slice T.rq.a n.rq.length T.rq.cap,.slice T.im.a n.im.length T.im.cap,.slice T.ep.a n.ep.length T.ep.cap,.slice T.st.a n.st.length T.st.cap,.slice (some ⟨c,0,none⟩) n.ex.length T.ex.cap] 54)).alloc (.cells #[.int .i64 F,.int .i64 D,.string A,.string E,.int .i64 (h:Int),.int .i64 (q:Int)] 100)) (w.heap.size+1) (.int .i64 F) (.int .i64 D) (.string A) (.string E) (.int .i64 (h:Int)) (.int .i64 (q:Int))):=zy (new2 w _ _);have Y:=zc (zj (zcH (o':=.cells #[.int .i64 F,.int .i64 D,.string A,.string E,.int .i64 (h:Int),.int .i64 (q:Int)] 100) (heap_alloc_new w (.cells #[.slice T.rq.a n.rq.length T.rq.cap,.slice T.im.a n.im.length T.im.cap,.slice T.ep.a n.ep.length T.ep.cap,.slice T.st.a n.st.length T.st.cap,.slice (some ⟨c,0,none⟩) n.ex.length T.ex.cap] 54))));have D0:Hid (((w.alloc (.cells #[.slice T.rq.a n.rq.length T.rq.cap,.slice T.im.a n.im.length T.im.cap,.slice T.ep.a n.ep.length T.ep.cap,.slice T.st.a n.st.length T.st.cap,.slice (some ⟨c,0,none⟩) n.ex.length T.ex.cap] 54)).alloc (.cells #[.int .i64 F,.int .i64 D,.string A,.string E,.int .i64 (h:Int),.int .i64 (q:Int)] 100)).cell? ⟨c,q*6,none⟩=some (.int .i64 kr)):=by show _=_;rw[World.cell?_alloc_past _ _ _ (by rw[zg];omega),World.cell?_alloc_past _ _ _ ab];exact d0
 simp only[ByteArray.size_append] at U;have ae:tPlus.size=3:=rfl;have ai:tl.size<=1099511627776:=by omega
 have aj:tr.size<=1099511627776:=by omega
 have HV:Hid ((prX n.ex h++tPlus++zK (zR (n.ex.getD q zh).kind) (prX n.ex q))=tl++tPlus++tr):=by show _=_;rw[aa.o,V.o]
 unfold zl;rw[K];clear K G HA HE J aa V O Z N M hg2 he U ae d0 eg;go_enter func125,ntmps125;go_wp2_with fail;have x0:=cell_regrown X.o.c0;have x4:=cell_regrown X.o.c4;have x5:=cell_regrown X.o.c5;have y0:=cell_regrown Y.o.1;have y1:=cell_regrown Y.o.2.1;have y2:=cell_regrown Y.o.2.2.1;have y3:=cell_regrown Y.o.2.2.2.1;have y4:=cell_regrown Y.o.2.2.2.2.1;have e0:=cell_regrown D0.o;refine wp_region_quiet_below (by kernel_rfl) (by kernel_rfl) ?_
 repeat (go_big_quiet_step (first|with_reducible exact cL _ _|with_reducible exact cS _ _|with_reducible exact cR _ _))
 refine wpQuiet_nil ?_;intro w1 ac;obtain⟨⟨dq,ah⟩,L⟩:=ac;have af:Hid (Bw w w1):=by show Below _ _ _;rw[L];exact (zbg w _ _).trans ((below_regrown _ _ _).mono (by rw[zg,zg];omega))
 clear L;go_wp2;go_ret;exact⟨za4 HV.o.symm,af.o⟩
theorem zr5 (q:Nat) (F D:Int) (A E:BA) (w:World) (K:T.ex.a=some ⟨c,0,none⟩) (G:OwnMd w b T n) (hi:k<n.ex.length) (ab:c<w.heap.size) (c0:w.cell? ⟨c,k*6,none⟩=some (.int .i64 F)) (c1:w.cell? ⟨c,k*6+1,none⟩=some (.int .i64 D)) (c2:w.cell? ⟨c,k*6+2,none⟩=some (.string A)) (c3:w.cell? ⟨c,k*6+3,none⟩=some (.string E)) (c4:w.cell? ⟨c,k*6+4,none⟩=some (.int .i64 (h:Int))) (c5:w.cell? ⟨c,k*6+5,none⟩=some (.int .i64 (q:Int))) (k1:(F==1)=false) (k2:(F==2)=false) (k3:(F==3)=false) (k4:(F==4)=false) (k5:(F==5)=false) (k6:(F==6)=false) (k7:(F==7)=true) (U:(prX n.ex h++tMinus++zK (zR (n.ex.getD q zh).kind) (prX n.ex q)).size<=1099511627776) (he:zfd b T n k) (hl:h<k) (hr:q<k) (ad:wt n.ex h<=1099511627776) (ag:wt n.ex q<=1099511627776):
  Calls prog 125 #[zl T n,.int .i64 k] w fun e w'=>e= .returned (.string (prX n.ex h++tMinus++zK (zR (n.ex.getD q zh).kind) (prX n.ex q)))/\Bw w w':=by
 have ak:(k:Int)<(n.ex.length:Int):=by omega
 have HA:Hid (OwnMd ((w.alloc (.cells #[.slice T.rq.a n.rq.length T.rq.cap,.slice T.im.a n.im.length T.im.cap,.slice T.ep.a n.ep.length T.ep.cap,.slice T.st.a n.st.length T.st.cap,.slice (some ⟨c,0,none⟩) n.ex.length T.ex.cap] 54)).alloc (.cells #[.int .i64 F,.int .i64 D,.string A,.string E,.int .i64 (h:Int),.int .i64 (q:Int)] 100)) b T n):=(G.alloc _).alloc _;have HE:=zc he;have J:Hid (zl T n= .agg #[.slice T.rq.a n.rq.length T.rq.cap,.slice T.im.a n.im.length T.im.cap,.slice T.ep.a n.ep.length T.ep.cap,.slice T.st.a n.st.length T.st.cap,.slice (some ⟨c,0,none⟩) n.ex.length T.ex.cap]):=by show _=_;rw[zl,K]
 have al:(h:Int)<(n.ex.length:Int):=by omega
 have am:(q:Int)<(n.ex.length:Int):=by omega
 obtain⟨g2,hg2,-,d0,-,-,-,-,-⟩:=G.expr (i:=q) (by omega);have eg:g2=c:=by have:=hg2.symm.trans K;simpa using this
 rw[eg] at d0;obtain⟨kr,N⟩: ∃kr,(n.ex.getD q zh).kind=kr:=⟨_,rfl⟩;rw[N] at d0;have M:=zc N;obtain⟨tl,O⟩: ∃tl,prX n.ex h=tl:=⟨_,rfl⟩;obtain⟨tr,Z⟩: ∃tr,zK (zR (n.ex.getD q zh).kind) (prX n.ex q)=tr:=⟨_,rfl⟩;rw[O,Z] at U;have aa:=zc O;have V:=zc Z;have cL: ∀d H,Calls prog 125 #[.agg #[.slice T.rq.a n.rq.length T.rq.cap,.slice T.im.a n.im.length T.im.cap,.slice T.ep.a n.ep.length T.ep.cap,.slice T.st.a n.st.length T.st.cap,.slice (some ⟨c,0,none⟩) n.ex.length T.ex.cap],.int .i64 (h:Int)] (grow (redrawn ((w.alloc (.cells #[.slice T.rq.a n.rq.length T.rq.cap,.slice T.im.a n.im.length T.im.cap,.slice T.ep.a n.ep.length T.ep.cap,.slice T.st.a n.st.length T.st.cap,.slice (some ⟨c,0,none⟩) n.ex.length T.ex.cap] 54)).alloc (.cells #[.int .i64 F,.int .i64 D,.string A,.string E,.int .i64 (h:Int),.int .i64 (q:Int)] 100)) d) H) fun e I=>e= .returned (.string tl)/\∃p:Regrown,I=grow (redrawn ((w.alloc (.cells #[.slice T.rq.a n.rq.length T.rq.cap,.slice T.im.a n.im.length T.im.cap,.slice T.ep.a n.ep.length T.ep.cap,.slice T.st.a n.st.length T.st.cap,.slice (some ⟨c,0,none⟩) n.ex.length T.ex.cap] 54)).alloc (.cells #[.int .i64 F,.int .i64 D,.string A,.string E,.int .i64 (h:Int),.int .i64 (q:Int)] 100)) p.d) p.os:=fun d H=>Calls.regrown_of (by rw[<-J.o,<-aa.o];exact HE.o h _ (by omega) (by omega) (HA.o.later (below_regrown _ d H)) ad);have cS: ∀d H,Calls prog 163 #[.agg #[.slice T.rq.a n.rq.length T.rq.cap,.slice T.im.a n.im.length T.im.cap,.slice T.ep.a n.ep.length T.ep.cap,.slice T.st.a n.st.length T.st.cap,.slice (some ⟨c,0,none⟩) n.ex.length T.ex.cap],.int .i64 (q:Int)] (grow (redrawn ((w.alloc (.cells #[.slice T.rq.a n.rq.length T.rq.cap,.slice T.im.a n.im.length T.im.cap,.slice T.ep.a n.ep.length T.ep.cap,.slice T.st.a n.st.length T.st.cap,.slice (some ⟨c,0,none⟩) n.ex.length T.ex.cap] 54)).alloc (.cells #[.int .i64 F,.int .i64 D,.string A,.string E,.int .i64 (h:Int),.int .i64 (q:Int)] 100)) d) H) fun e I=>e= .returned (.bool (zR kr))/\∃p:Regrown,I=grow (redrawn ((w.alloc (.cells #[.slice T.rq.a n.rq.length T.rq.cap,.slice T.im.a n.im.length T.im.cap,.slice T.ep.a n.ep.length T.ep.cap,.slice T.st.a n.st.length T.st.cap,.slice (some ⟨c,0,none⟩) n.ex.length T.ex.cap] 54)).alloc (.cells #[.int .i64 F,.int .i64 D,.string A,.string E,.int .i64 (h:Int),.int .i64 (q:Int)] 100)) p.d) p.os:=fun d H=>Calls.regrown_of (by rw[<-J.o,<-M.o];exact zim b T n q _ (HA.o.later (below_regrown _ d H)) (by omega));have cR: ∀d H,Calls prog 162 #[.agg #[.slice T.rq.a n.rq.length T.rq.cap,.slice T.im.a n.im.length T.im.cap,.slice T.ep.a n.ep.length T.ep.cap,.slice T.st.a n.st.length T.st.cap,.slice (some ⟨c,0,none⟩) n.ex.length T.ex.cap],.int .i64 (q:Int),.bool (zR kr)] (grow (redrawn ((w.alloc (.cells #[.slice T.rq.a n.rq.length T.rq.cap,.slice T.im.a n.im.length T.im.cap,.slice T.ep.a n.ep.length T.ep.cap,.slice T.st.a n.st.length T.st.cap,.slice (some ⟨c,0,none⟩) n.ex.length T.ex.cap] 54)).alloc (.cells #[.int .i64 F,.int .i64 D,.string A,.string E,.int .i64 (h:Int),.int .i64 (q:Int)] 100)) d) H) fun e I=>e= .returned (.string tr)/\∃p:Regrown,I=grow (redrawn ((w.alloc (.cells #[.slice T.rq.a n.rq.length T.rq.cap,.slice T.im.a n.im.length T.im.cap,.slice T.ep.a n.ep.length T.ep.cap,.slice T.st.a n.st.length T.st.cap,.slice (some ⟨c,0,none⟩) n.ex.length T.ex.cap] 54)).alloc (.cells #[.int .i64 F,.int .i64 D,.string A,.string E,.int .i64 (h:Int),.int .i64 (q:Int)] 100)) p.d) p.os:=fun d H=>Calls.regrown_of (by rw[<-J.o,<-V.o,M.o];exact zgO b T n k q _ _ HE.o (by omega) (by omega) (HA.o.later (below_regrown _ d H)) ag);have X:Hid (Six ((w.alloc (.cells #[.slice T.rq.a n.rq.length T.rq.cap,.slice T.im.a n.im.length T.im.cap,.slice T.ep.a n.ep.length T.ep.cap,.slice T.st.a n.st.length T.st.cap,.slice (some ⟨c,0,none⟩) n.ex.length T.ex.cap] 54)).alloc (.cells #[.int .i64 F,.int .i64 D,.string A,.string E,.int .i64 (h:Int),.int .i64 (q:Int)] 100)) (w.heap.size+1) (.int .i64 F) (.int .i64 D) (.string A) (.string E) (.int .i64 (h:Int)) (.int .i64 (q:Int))):=zy (new2 w _ _);have Y:=zc (zj (zcH (o':=.cells #[.int .i64 F,.int .i64 D,.string A,.string E,.int .i64 (h:Int),.int .i64 (q:Int)] 100) (heap_alloc_new w (.cells #[.slice T.rq.a n.rq.length T.rq.cap,.slice T.im.a n.im.length T.im.cap,.slice T.ep.a n.ep.length T.ep.cap,.slice T.st.a n.st.length T.st.cap,.slice (some ⟨c,0,none⟩) n.ex.length T.ex.cap] 54))));have D0:Hid (((w.alloc (.cells #[.slice T.rq.a n.rq.length T.rq.cap,.slice T.im.a n.im.length T.im.cap,.slice T.ep.a n.ep.length T.ep.cap,.slice T.st.a n.st.length T.st.cap,.slice (some ⟨c,0,none⟩) n.ex.length T.ex.cap] 54)).alloc (.cells #[.int .i64 F,.int .i64 D,.string A,.string E,.int .i64 (h:Int),.int .i64 (q:Int)] 100)).cell? ⟨c,q*6,none⟩=some (.int .i64 kr)):=by show _=_;rw[World.cell?_alloc_past _ _ _ (by rw[zg];omega),World.cell?_alloc_past _ _ _ ab];exact d0
 simp only[ByteArray.size_append] at U;have ae:tMinus.size=3:=rfl;have ai:tl.size<=1099511627776:=by omega
 have aj:tr.size<=1099511627776:=by omega
 have HV:Hid ((prX n.ex h++tMinus++zK (zR (n.ex.getD q zh).kind) (prX n.ex q))=tl++tMinus++tr):=by show _=_;rw[aa.o,V.o]
 unfold zl;rw[K];clear K G HA HE J aa V O Z N M hg2 he U ae d0 eg;go_enter func125,ntmps125;go_wp2_with fail;have x0:=cell_regrown X.o.c0;have x4:=cell_regrown X.o.c4;have x5:=cell_regrown X.o.c5;have y0:=cell_regrown Y.o.1;have y1:=cell_regrown Y.o.2.1;have y2:=cell_regrown Y.o.2.2.1;have y3:=cell_regrown Y.o.2.2.2.1;have y4:=cell_regrown Y.o.2.2.2.2.1;have e0:=cell_regrown D0.o;refine wp_region_quiet_below (by kernel_rfl) (by kernel_rfl) ?_
 repeat (go_big_quiet_step (first|with_reducible exact cL _ _|with_reducible exact cS _ _|with_reducible exact cR _ _))
 refine wpQuiet_nil ?_;intro w1 ac;obtain⟨⟨dq,ah⟩,L⟩:=ac;have af:Hid (Bw w w1):=by show Below _ _ _;rw[L];exact (zbg w _ _).trans ((below_regrown _ _ _).mono (by rw[zg,zg];omega))
 clear L;go_wp2;go_ret;exact⟨za4 HV.o.symm,af.o⟩
theorem zr6 (q:Nat) (F H:Int) (D I:BA) (w:World) (K:T.ex.a=some ⟨c,0,none⟩) (G:OwnMd w b T n) (hi:k<n.ex.length) (ac:c<w.heap.size) (c0:w.cell? ⟨c,k*6,none⟩=some (.int .i64 F)) (c1:w.cell? ⟨c,k*6+1,none⟩=some (.int .i64 H)) (c2:w.cell? ⟨c,k*6+2,none⟩=some (.string D)) (c3:w.cell? ⟨c,k*6+3,none⟩=some (.string I)) (c4:w.cell? ⟨c,k*6+4,none⟩=some (.int .i64 (h:Int))) (c5:w.cell? ⟨c,k*6+5,none⟩=some (.int .i64 (q:Int))) (k1:(F==1)=false) (k2:(F==2)=false) (k3:(F==3)=false) (k4:(F==4)=false) (k5:(F==5)=false) (k6:(F==6)=false) (k7:(F==7)=false) (k8:(F==8)=true) (U:(zK (zR (n.ex.getD h zh).kind) (prX n.ex h)++tStar++zK (zac (n.ex.getD q zh).kind) (prX n.ex q)).size<=1099511627776) (he:zfd b T n k) (hl:h<k) (hr:q<k) (ae:wt n.ex h<=1099511627776) (ah:wt n.ex q<=1099511627776):
  Calls prog 125 #[zl T n,.int .i64 k] w fun e w'=>e= .returned (.string (zK (zR (n.ex.getD h zh).kind) (prX n.ex h)++tStar++zK (zac (n.ex.getD q zh).kind) (prX n.ex q)))/\Bw w w':=by
 have al:(k:Int)<(n.ex.length:Int):=by omega
 have HA:Hid (OwnMd ((w.alloc (.cells #[.slice T.rq.a n.rq.length T.rq.cap,.slice T.im.a n.im.length T.im.cap,.slice T.ep.a n.ep.length T.ep.cap,.slice T.st.a n.st.length T.st.cap,.slice (some ⟨c,0,none⟩) n.ex.length T.ex.cap] 54)).alloc (.cells #[.int .i64 F,.int .i64 H,.string D,.string I,.int .i64 (h:Int),.int .i64 (q:Int)] 100)) b T n):=(G.alloc _).alloc _;have HE:=zc he;have J:Hid (zl T n= .agg #[.slice T.rq.a n.rq.length T.rq.cap,.slice T.im.a n.im.length T.im.cap,.slice T.ep.a n.ep.length T.ep.cap,.slice T.st.a n.st.length T.st.cap,.slice (some ⟨c,0,none⟩) n.ex.length T.ex.cap]):=by show _=_;rw[zl,K]
 have am:(h:Int)<(n.ex.length:Int):=by omega
 have an:(q:Int)<(n.ex.length:Int):=by omega
 obtain⟨g2,hg2,-,d0,-,-,-,-,-⟩:=G.expr (i:=q) (by omega);have eg:g2=c:=by have:=hg2.symm.trans K;simpa using this
 rw[eg] at d0;obtain⟨kr,N⟩: ∃kr,(n.ex.getD q zh).kind=kr:=⟨_,rfl⟩;rw[N] at d0;have ab:=zc N;obtain⟨tl,O⟩: ∃tl,zK (zR (n.ex.getD h zh).kind) (prX n.ex h)=tl:=⟨_,rfl⟩;obtain⟨tr,Z⟩: ∃tr,zK (zac (n.ex.getD q zh).kind) (prX n.ex q)=tr:=⟨_,rfl⟩;rw[O,Z] at U;have aa:=zc O;have V:=zc Z;obtain⟨kl,M⟩: ∃kl,(n.ex.getD h zh).kind=kl:=⟨_,rfl⟩;have cK: ∀d E,Calls prog 163 #[.agg #[.slice T.rq.a n.rq.length T.rq.cap,.slice T.im.a n.im.length T.im.cap,.slice T.ep.a n.ep.length T.ep.cap,.slice T.st.a n.st.length T.st.cap,.slice (some ⟨c,0,none⟩) n.ex.length T.ex.cap],.int .i64 (h:Int)] (grow (redrawn ((w.alloc (.cells #[.slice T.rq.a n.rq.length T.rq.cap,.slice T.im.a n.im.length T.im.cap,.slice T.ep.a n.ep.length T.ep.cap,.slice T.st.a n.st.length T.st.cap,.slice (some ⟨c,0,none⟩) n.ex.length T.ex.cap] 54)).alloc (.cells #[.int .i64 F,.int .i64 H,.string D,.string I,.int .i64 (h:Int),.int .i64 (q:Int)] 100)) d) E) fun e A=>e= .returned (.bool (zR kl))/\∃p:Regrown,A=grow (redrawn ((w.alloc (.cells #[.slice T.rq.a n.rq.length T.rq.cap,.slice T.im.a n.im.length T.im.cap,.slice T.ep.a n.ep.length T.ep.cap,.slice T.st.a n.st.length T.st.cap,.slice (some ⟨c,0,none⟩) n.ex.length T.ex.cap] 54)).alloc (.cells #[.int .i64 F,.int .i64 H,.string D,.string I,.int .i64 (h:Int),.int .i64 (q:Int)] 100)) p.d) p.os:=fun d E=>Calls.regrown_of (by rw[<-J.o,<-M];exact zim b T n h _ (HA.o.later (below_regrown _ d E)) (by omega));have cL: ∀d E,Calls prog 162 #[.agg #[.slice T.rq.a n.rq.length T.rq.cap,.slice T.im.a n.im.length T.im.cap,.slice T.ep.a n.ep.length T.ep.cap,.slice T.st.a n.st.length T.st.cap,.slice (some ⟨c,0,none⟩) n.ex.length T.ex.cap],.int .i64 (h:Int),.bool (zR kl)] (grow (redrawn ((w.alloc (.cells #[.slice T.rq.a n.rq.length T.rq.cap,.slice T.im.a n.im.length T.im.cap,.slice T.ep.a n.ep.length T.ep.cap,.slice T.st.a n.st.length T.st.cap,.slice (some ⟨c,0,none⟩) n.ex.length T.ex.cap] 54)).alloc (.cells #[.int .i64 F,.int .i64 H,.string D,.string I,.int .i64 (h:Int),.int .i64 (q:Int)] 100)) d) E) fun e A=>e= .returned (.string tl)/\∃p:Regrown,A=grow (redrawn ((w.alloc (.cells #[.slice T.rq.a n.rq.length T.rq.cap,.slice T.im.a n.im.length T.im.cap,.slice T.ep.a n.ep.length T.ep.cap,.slice T.st.a n.st.length T.st.cap,.slice (some ⟨c,0,none⟩) n.ex.length T.ex.cap] 54)).alloc (.cells #[.int .i64 F,.int .i64 H,.string D,.string I,.int .i64 (h:Int),.int .i64 (q:Int)] 100)) p.d) p.os:=fun d E=>Calls.regrown_of (by rw[<-J.o,<-aa.o,M];exact zgO b T n k h _ _ HE.o (by omega) (by omega) (HA.o.later (below_regrown _ d E)) ae);have cS: ∀d E,Calls prog 123 #[.int .i64 kr] (grow (redrawn ((w.alloc (.cells #[.slice T.rq.a n.rq.length T.rq.cap,.slice T.im.a n.im.length T.im.cap,.slice T.ep.a n.ep.length T.ep.cap,.slice T.st.a n.st.length T.st.cap,.slice (some ⟨c,0,none⟩) n.ex.length T.ex.cap] 54)).alloc (.cells #[.int .i64 F,.int .i64 H,.string D,.string I,.int .i64 (h:Int),.int .i64 (q:Int)] 100)) d) E) fun e A=>e= .returned (.bool (zac kr))/\∃p:Regrown,A=grow (redrawn ((w.alloc (.cells #[.slice T.rq.a n.rq.length T.rq.cap,.slice T.im.a n.im.length T.im.cap,.slice T.ep.a n.ep.length T.ep.cap,.slice T.st.a n.st.length T.st.cap,.slice (some ⟨c,0,none⟩) n.ex.length T.ex.cap] 54)).alloc (.cells #[.int .i64 F,.int .i64 H,.string D,.string I,.int .i64 (h:Int),.int .i64 (q:Int)] 100)) p.d) p.os:=fun d E=>Calls.regrown_of ((zlc kr _).mono (by rintro e w' ⟨rfl,rfl⟩;exact⟨rfl,Below.refl _ _⟩));have cR: ∀d E,Calls prog 162 #[.agg #[.slice T.rq.a n.rq.length T.rq.cap,.slice T.im.a n.im.length T.im.cap,.slice T.ep.a n.ep.length T.ep.cap,.slice T.st.a n.st.length T.st.cap,.slice (some ⟨c,0,none⟩) n.ex.length T.ex.cap],.int .i64 (q:Int),.bool (zac kr)] (grow (redrawn ((w.alloc (.cells #[.slice T.rq.a n.rq.length T.rq.cap,.slice T.im.a n.im.length T.im.cap,.slice T.ep.a n.ep.length T.ep.cap,.slice T.st.a n.st.length T.st.cap,.slice (some ⟨c,0,none⟩) n.ex.length T.ex.cap] 54)).alloc (.cells #[.int .i64 F,.int .i64 H,.string D,.string I,.int .i64 (h:Int),.int .i64 (q:Int)] 100)) d) E) fun e A=>e= .returned (.string tr)/\∃p:Regrown,A=grow (redrawn ((w.alloc (.cells #[.slice T.rq.a n.rq.length T.rq.cap,.slice T.im.a n.im.length T.im.cap,.slice T.ep.a n.ep.length T.ep.cap,.slice T.st.a n.st.length T.st.cap,.slice (some ⟨c,0,none⟩) n.ex.length T.ex.cap] 54)).alloc (.cells #[.int .i64 F,.int .i64 H,.string D,.string I,.int .i64 (h:Int),.int .i64 (q:Int)] 100)) p.d) p.os:=fun d E=>Calls.regrown_of (by rw[<-J.o,<-V.o,ab.o];exact zgO b T n k q _ _ HE.o (by omega) (by omega) (HA.o.later (below_regrown _ d E)) ah);have X:Hid (Six ((w.alloc (.cells #[.slice T.rq.a n.rq.length T.rq.cap,.slice T.im.a n.im.length T.im.cap,.slice T.ep.a n.ep.length T.ep.cap,.slice T.st.a n.st.length T.st.cap,.slice (some ⟨c,0,none⟩) n.ex.length T.ex.cap] 54)).alloc (.cells #[.int .i64 F,.int .i64 H,.string D,.string I,.int .i64 (h:Int),.int .i64 (q:Int)] 100)) (w.heap.size+1) (.int .i64 F) (.int .i64 H) (.string D) (.string I) (.int .i64 (h:Int)) (.int .i64 (q:Int))):=zy (new2 w _ _);have Y:=zc (zj (zcH (o':=.cells #[.int .i64 F,.int .i64 H,.string D,.string I,.int .i64 (h:Int),.int .i64 (q:Int)] 100) (heap_alloc_new w (.cells #[.slice T.rq.a n.rq.length T.rq.cap,.slice T.im.a n.im.length T.im.cap,.slice T.ep.a n.ep.length T.ep.cap,.slice T.st.a n.st.length T.st.cap,.slice (some ⟨c,0,none⟩) n.ex.length T.ex.cap] 54))));have D0:Hid (((w.alloc (.cells #[.slice T.rq.a n.rq.length T.rq.cap,.slice T.im.a n.im.length T.im.cap,.slice T.ep.a n.ep.length T.ep.cap,.slice T.st.a n.st.length T.st.cap,.slice (some ⟨c,0,none⟩) n.ex.length T.ex.cap] 54)).alloc (.cells #[.int .i64 F,.int .i64 H,.string D,.string I,.int .i64 (h:Int),.int .i64 (q:Int)] 100)).cell? ⟨c,q*6,none⟩=some (.int .i64 kr)):=by show _=_;rw[World.cell?_alloc_past _ _ _ (by rw[zg];omega),World.cell?_alloc_past _ _ _ ac];exact d0
 simp only[ByteArray.size_append] at U;have af:tStar.size=3:=rfl;have aj:tl.size<=1099511627776:=by omega
 have ak:tr.size<=1099511627776:=by omega
 have HV:Hid ((zK (zR (n.ex.getD h zh).kind) (prX n.ex h)++tStar++zK (zac (n.ex.getD q zh).kind) (prX n.ex q))=tl++tStar++tr):=by show _=_;rw[aa.o,V.o]
 unfold zl;rw[K];clear K G HA HE J aa V O Z N ab hg2 he U af d0 eg M;go_enter func125,ntmps125;go_wp2_with fail;have x0:=cell_regrown X.o.c0;have x4:=cell_regrown X.o.c4;have x5:=cell_regrown X.o.c5;have y0:=cell_regrown Y.o.1;have y1:=cell_regrown Y.o.2.1;have y2:=cell_regrown Y.o.2.2.1;have y3:=cell_regrown Y.o.2.2.2.1;have y4:=cell_regrown Y.o.2.2.2.2.1;have e0:=cell_regrown D0.o;refine wp_region_quiet_below (by kernel_rfl) (by kernel_rfl) ?_
 repeat (go_big_quiet_step (first|with_reducible exact cL _ _|with_reducible exact cS _ _|with_reducible exact cR _ _|with_reducible exact cK _ _))
 refine wpQuiet_nil ?_;intro w1 ad;obtain⟨⟨dq,ai⟩,L⟩:=ad;have ag:Hid (Bw w w1):=by show Below _ _ _;rw[L];exact (zbg w _ _).trans ((below_regrown _ _ _).mono (by rw[zg,zg];omega))
 clear L;go_wp2;go_ret;exact⟨za4 HV.o.symm,ag.o⟩
theorem zgP (b:Bool) (t:BA):t.size<=(zK b t).size:=by
 unfold zK
 split
 ·rw[ByteArray.size_append,ByteArray.size_append];omega
 ·exact le_refl _
theorem zr7 (hn:zaY n.ex) (ha:zb8 n.ex) (F:Nat):zfd b T n F:=by
 induction F with
 |zero=>intro i w D;omega
 |succ F ih=>
  intro i w ac D h q;by_cases aa:i<F
  ·exact ih i w aa D h q
  ·have he:zfd b T n i:=by
    have:i=F:=by omega
    rw[this];exact ih
   obtain⟨g,A,z,U,K,M,N,L,O⟩:=h.expr D;have ab:=hn (n.ex.getD i zh) (by rw[zen D];exact List.getElem_mem D);have X:=zgm ha (i:=i);unfold wt at q;rw[zh4 ha] at q ⊢;generalize n.ex.getD i zh=x at*;by_cases E:(x.kind==1)=true
   ·rw[if_pos E];exact zry g T n i _ _ _ _ _ _ w A D z U K M N L O E ab
   rw[if_neg E] at q ⊢;by_cases I:(x.kind==2)=true
   ·rw[if_pos I];exact zrz g T n i _ _ _ _ _ _ w A D z U K M N L O (by simpa using E) I
   rw[if_neg I] at q ⊢;by_cases J:(x.kind==3)=true
   ·rw[if_pos J] at q ⊢;exact zr0 g T n i _ _ _ _ _ _ w A D z U K M N L O (by simpa using E) (by simpa using I) J q
   rw[if_neg J] at q ⊢;by_cases V:(x.kind==4)=true
   ·rw[if_pos V] at q ⊢;exact zr1 g T n i _ _ _ _ _ _ w A D z U K M N L O (by simpa using E) (by simpa using I) (by simpa using J) V q
   rw[if_neg V] at q ⊢;by_cases Y:(x.kind==5)=true
   ·rw[if_pos Y] at q ⊢;exact zr2 g T n i _ _ _ _ _ _ w A D z U K M N L O (by simpa using E) (by simpa using I) (by simpa using J) (by simpa using V) Y q
   rw[if_neg Y] at q ⊢;by_cases Z:(x.kind==6)=true
   ·rw[if_pos Z] at q ⊢;obtain⟨h1,h2,h3,h4⟩:=X (zbL (.inl Z));have H:=q;rw[ByteArray.size_append,ByteArray.size_append] at H;have s2:=zgP (zR (n.ex.getD x.r.toNat zh).kind) (prX n.ex x.r.toNat);exact zr4 b g T n i x.l.toNat x.r.toNat _ _ _ _ w A h D z U K M N (by rw[L,Int.toNat_of_nonneg h1]) (by rw[O,Int.toNat_of_nonneg h3]) (by simpa using E) (by simpa using I) (by simpa using J) (by simpa using V) (by simpa using Y) Z q he (by omega) (by omega) (by unfold wt;omega) (by unfold wt;omega)
   rw[if_neg Z] at q ⊢;by_cases k7:(x.kind==7)=true
   ·rw[if_pos k7] at q ⊢;obtain⟨h1,h2,h3,h4⟩:=X (zbL (.inr (.inl k7)));have H:=q;rw[ByteArray.size_append,ByteArray.size_append] at H;have s2:=zgP (zR (n.ex.getD x.r.toNat zh).kind) (prX n.ex x.r.toNat);exact zr5 b g T n i x.l.toNat x.r.toNat _ _ _ _ w A h D z U K M N (by rw[L,Int.toNat_of_nonneg h1]) (by rw[O,Int.toNat_of_nonneg h3]) (by simpa using E) (by simpa using I) (by simpa using J) (by simpa using V) (by simpa using Y) (by simpa using Z) k7 q he (by omega) (by omega) (by unfold wt;omega) (by unfold wt;omega)
   rw[if_neg k7] at q ⊢;by_cases k8:(x.kind==8)=true
   ·rw[if_pos k8] at q ⊢;obtain⟨h1,h2,h3,h4⟩:=X (zbL (.inr (.inr k8)));have H:=q;rw[ByteArray.size_append,ByteArray.size_append] at H;have s1:=zgP (zR (n.ex.getD x.l.toNat zh).kind) (prX n.ex x.l.toNat);have s2:=zgP (zac (n.ex.getD x.r.toNat zh).kind) (prX n.ex x.r.toNat);exact zr6 b g T n i x.l.toNat x.r.toNat _ _ _ _ w A h D z U K M N (by rw[L,Int.toNat_of_nonneg h1]) (by rw[O,Int.toNat_of_nonneg h3]) (by simpa using E) (by simpa using I) (by simpa using J) (by simpa using V) (by simpa using Y) (by simpa using Z) (by simpa using k7) k8 q he (by omega) (by omega) (by unfold wt;omega) (by unfold wt;omega)
   rw[if_neg k8] at q ⊢;exact zr3 g T n i _ _ _ _ _ _ w A D z U K M N L O (by simpa using E) (by simpa using I) (by simpa using J) (by simpa using V) (by simpa using Y) (by simpa using Z) (by simpa using k7) (by simpa using k8)
theorem ze6 (E:zaY n.ex) (A:zb8 n.ex) (D:k<n.ex.length) (h:OwnMd V b T n) (q:wt n.ex k<=1099511627776):
  Calls prog 125 #[zl T n,.int .i64 k] V fun e z=>e= .returned (.string (prX n.ex k))/\Bw V z:=zr7 b T n E A (k+1) k V (Nat.lt_succ_self k) D h q
theorem zin (F:t.size<=1099511627776) (D:A.size<=1099511627776):Calls prog 124 #[.string t,.string A] V fun e z=>e= .returned (.string (asT t A))/\z=V:=by
 cases h:(t.toList==A.toList) with
 |true=>
  have q:Hid (asT t A=t):=by show _=_;rw[asT,h];rfl
  go_enter func124,ntmps124;go_wp2;go_ret;exact⟨za4 q.o.symm,rfl⟩
 |false=>
  have q:Hid (asT t A=t++({data:=#[32,97,115,32]}:BA)++A):=by show _=_;rw[asT,h];rfl
  go_enter func124,ntmps124;go_wp2;go_ret;exact⟨za4 q.o.symm,rfl⟩
theorem zgQ (z:t.size<=1099511627776):Calls prog 84 #[.string t] V fun e q=>e= .returned (.string (za3 t))/\q=V:=by
 have h:Hid (za3 t=({data:=#[34]}:BA)++t++({data:=#[34]}:BA)):=rfl;go_enter func84,ntmps84;go_wp2;go_ret;exact⟨za4 h.o.symm,rfl⟩
theorem zio:(za3 t).size=t.size+2:=by
 rw[za3,ByteArray.size_append,ByteArray.size_append];show 1+t.size+1=_;omega
theorem zld:(asT t A).size<=t.size+A.size+4:=by
 unfold asT
 split
 ·omega
 ·rw[ByteArray.size_append,ByteArray.size_append];show t.size+4+A.size<=_;omega
theorem zr8 (h1:s.spec.size<=4294967296) (h2:s.first.size<=4294967296) (h3:s.loc.size<=4294967296):Calls prog 85 #[imV s] V fun e K=>e= .returned (.string (zaf s))/\Bw V K:=by
 obtain⟨qt,A⟩: ∃t,za3 s.spec=t:=⟨_,rfl⟩;obtain⟨at',hat⟩: ∃t,asT s.first s.loc=t:=⟨_,rfl⟩;have Y:=zio s.spec;have ha:=zld s.first s.loc;rw[A] at Y;rw[hat] at ha;have ab:qt.size<=8589934592:=by omega
 have aa:at'.size<=17179869184:=by omega
 have N:=zc A;have AT:=zc hat;have M: ∀d I,Calls prog 84 #[.string s.spec] (grow (redrawn (V.alloc (.cells #[.string s.spec,.string s.first,.string s.loc] 95)) d) I) fun e D=>e= .returned (.string qt)/\∃p:Regrown,D=grow (redrawn (V.alloc (.cells #[.string s.spec,.string s.first,.string s.loc] 95)) p.d) p.os:=fun d I=>Calls.regrown_of (by rw[<-A];exact (zgQ s.spec _ (by omega)).mono (by rintro e K ⟨rfl,rfl⟩;exact⟨rfl,Below.refl _ _⟩));have L: ∀d I,Calls prog 124 #[.string s.first,.string s.loc] (grow (redrawn (V.alloc (.cells #[.string s.spec,.string s.first,.string s.loc] 95)) d) I) fun e D=>e= .returned (.string at')/\∃p:Regrown,D=grow (redrawn (V.alloc (.cells #[.string s.spec,.string s.first,.string s.loc] 95)) p.d) p.os:=fun d I=>Calls.regrown_of (by rw[<-hat];exact (zin s.first s.loc _ (by omega) (by omega)).mono (by rintro e K ⟨rfl,rfl⟩;exact⟨rfl,Below.refl _ _⟩));have X:=zc (zn (heap_alloc_new V (.cells #[.string s.spec,.string s.first,.string s.loc] 95)));clear A hat Y ha;unfold imV;cases O:(s.first.toList==[42]) with
 |true=>
  have J:Hid (zaf s=({data:=#[105,109,112,111,114,116,32,42,32,97,115,32]}:BA)++s.loc++({data:=#[32,102,114,111,109,32]}:BA)++za3 s.spec++({data:=#[59,10]}:BA)):=by show _=_;rw[zaf,O];rfl
  go_enter func85,ntmps85;go_wp2_with fail;have y0:=cell_regrown X.o.1;have F:=cell_regrown X.o.2.1;have y2:=cell_regrown X.o.2.2.1;refine wp_region_quiet_below (by kernel_rfl) (by kernel_rfl) ?_
  repeat (go_big_quiet_step (first|with_reducible exact M _ _|with_reducible exact L _ _))
  refine wpQuiet_nil ?_;intro E q;obtain⟨⟨U,H⟩,h⟩:=q;have z:Hid (Bw V E):=by show Below _ _ _;rw[h];exact (bA0).trans ((below_regrown _ _ _).mono (by rw[zg];omega))
  clear h;go_wp2;go_ret;exact⟨za4 (by rw[J.o,N.o]),z.o⟩
 |false=>
  cases Z:(s.first.toList==[100,101,102,97,117,108,116]) with
  |true=>
   have J:Hid (zaf s=({data:=#[105,109,112,111,114,116,32]}:BA)++s.loc++({data:=#[32,102,114,111,109,32]}:BA)++za3 s.spec++({data:=#[59,10]}:BA)):=by show _=_;rw[zaf,O,Z];rfl
   go_enter func85,ntmps85;go_wp2_with fail;have y0:=cell_regrown X.o.1;have F:=cell_regrown X.o.2.1;have y2:=cell_regrown X.o.2.2.1;refine wp_region_quiet_below (by kernel_rfl) (by kernel_rfl) ?_
   repeat (go_big_quiet_step (first|with_reducible exact M _ _|with_reducible exact L _ _))
   refine wpQuiet_nil ?_;intro E q;obtain⟨⟨U,H⟩,h⟩:=q;have z:Hid (Bw V E):=by show Below _ _ _;rw[h];exact (bA0).trans ((below_regrown _ _ _).mono (by rw[zg];omega))
   clear h;go_wp2;go_ret;exact⟨za4 (by rw[J.o,N.o]),z.o⟩
  |false=>
   have J:Hid (zaf s=({data:=#[105,109,112,111,114,116,32,123,32]}:BA)++asT s.first s.loc++({data:=#[32,125,32,102,114,111,109,32]}:BA)++za3 s.spec++({data:=#[59,10]}:BA)):=by show _=_;rw[zaf,O,Z];rfl
   go_enter func85,ntmps85;go_wp2_with fail;have y0:=cell_regrown X.o.1;have F:=cell_regrown X.o.2.1;have y2:=cell_regrown X.o.2.2.1;refine wp_region_quiet_below (by kernel_rfl) (by kernel_rfl) ?_
   repeat (go_big_quiet_step (first|with_reducible exact M _ _|with_reducible exact L _ _))
   refine wpQuiet_nil ?_;intro E q;obtain⟨⟨U,H⟩,h⟩:=q;have z:Hid (Bw V E):=by show Below _ _ _;rw[h];exact (bA0).trans ((below_regrown _ _ _).mono (by rw[zg];omega))
   clear h;go_wp2;go_ret;exact⟨za4 (by rw[J.o,N.o,AT.o]),z.o⟩
theorem zr9 (h1:q.spec.size<=4294967296) (h2:q.name.size<=4294967296) (h3:q.loc.size<=4294967296):Calls prog 86 #[epV q] V fun e z=>e= .returned (.string (zbx q))/\Bw V z:=by
 obtain⟨L,h⟩: ∃t,za3 q.spec=t:=⟨_,rfl⟩;obtain⟨at',hat⟩: ∃t,asT q.loc q.name=t:=⟨_,rfl⟩;have U:=zio q.spec;have Z:=zld q.loc q.name;rw[h] at U;rw[hat] at Z;have ac:L.size<=8589934592:=by omega
 have ab:at'.size<=17179869184:=by omega
 have Y:=zc h;have AT:=zc hat;have cQ: ∀d E,Calls prog 84 #[.string q.spec] (grow (redrawn (V.alloc (.cells #[.int .i64 q.kind,.string q.name,.string q.loc,.string q.spec] 97)) d) E) fun e A=>e= .returned (.string L)/\∃p:Regrown,A=grow (redrawn (V.alloc (.cells #[.int .i64 q.kind,.string q.name,.string q.loc,.string q.spec] 97)) p.d) p.os:=fun d E=>Calls.regrown_of (by rw[<-h];exact (zgQ q.spec _ (by omega)).mono (by rintro e z ⟨rfl,rfl⟩;exact⟨rfl,Below.refl _ _⟩));have cA: ∀d E,Calls prog 124 #[.string q.loc,.string q.name] (grow (redrawn (V.alloc (.cells #[.int .i64 q.kind,.string q.name,.string q.loc,.string q.spec] 97)) d) E) fun e A=>e= .returned (.string at')/\∃p:Regrown,A=grow (redrawn (V.alloc (.cells #[.int .i64 q.kind,.string q.name,.string q.loc,.string q.spec] 97)) p.d) p.os:=fun d E=>Calls.regrown_of (by rw[<-hat];exact (zin q.loc q.name _ (by omega) (by omega)).mono (by rintro e z ⟨rfl,rfl⟩;exact⟨rfl,Below.refl _ _⟩));have O: ∀V:World,Calls prog 84 #[.string q.spec] V fun e z=>e= .returned (.string L)/\z=V:=fun V=>by rw[<-h];exact zgQ q.spec V (by omega)
 have K: ∀V:World,Calls prog 124 #[.string q.loc,.string q.name] V fun e z=>e= .returned (.string at')/\z=V:=fun V=>by rw[<-hat];exact zin q.loc q.name V (by omega) (by omega)
 have X:=zc (zbN (heap_alloc_new V (.cells #[.int .i64 q.kind,.string q.name,.string q.loc,.string q.spec] 97)));clear h hat U Z;unfold epV;cases N:(q.kind==3) with
 |true=>
  have I:Hid (zbx q=({data:=#[101,120,112,111,114,116,32,42,32,102,114,111,109,32]}:BA)++za3 q.spec++({data:=#[59,10]}:BA)):=by show _=_;rw[zbx,N];rfl
  go_enter func86,ntmps86;go_wp2_with fail;refine (O _).mono ?_;rintro e D ⟨rfl,H⟩;rw[H];clear H D;go_wp2;go_ret;exact⟨za4 (by rw[I.o,Y.o]),bA0⟩
 |false=>
  cases G:(q.kind==2) with
  |true=>
   have I:Hid (zbx q=({data:=#[101,120,112,111,114,116,32,123,32]}:BA)++asT q.loc q.name++({data:=#[32,125,32,102,114,111,109,32]}:BA)++za3 q.spec++({data:=#[59,10]}:BA)):=by show _=_;rw[zbx,N,G];rfl
   go_enter func86,ntmps86;go_wp2_with fail;have y0:=cell_regrown X.o.1;have y1:=cell_regrown X.o.2.1;have y2:=cell_regrown X.o.2.2.1;have y3:=cell_regrown X.o.2.2.2.1;refine wp_region_quiet_below (by kernel_rfl) (by kernel_rfl) ?_
   repeat (go_big_quiet_step (first|with_reducible exact cQ _ _|with_reducible exact cA _ _))
   refine wpQuiet_nil ?_;intro D J;obtain⟨⟨dq,aa⟩,F⟩:=J;have M:Hid (Bw V D):=by show Below _ _ _;rw[F];exact (bA0).trans ((below_regrown _ _ _).mono (by rw[zg];omega))
   clear F;go_wp2;go_ret;exact⟨za4 (by rw[I.o,Y.o,AT.o]),M.o⟩
  |false=>
   have I:Hid (zbx q=({data:=#[101,120,112,111,114,116,32,123,32]}:BA)++asT q.loc q.name++({data:=#[32,125,59,10]}:BA)):=by show _=_;rw[zbx,N,G];rfl
   go_enter func86,ntmps86;go_wp2_with fail;refine (K _).mono ?_;rintro e D ⟨rfl,H⟩;rw[H];clear H D;go_wp2;go_ret;exact⟨za4 (by rw[I.o,AT.o]),bA0⟩
theorem zrA (F:BA) (i:Nat) (w:World) (h:OwnMd w b T n) (M:i<n.ex.length) (N:zaY n.ex) (V:zb8 n.ex) (E:wt n.ex i<=1099511627776) (_:F.size<=4294967296) (H:(u==1)=true) (L:(F.toList==[42,100,101,102,97,117,108,116])=true):
  Calls prog 87 #[zl T n,.agg #[.int .i64 u,.string F,.int .i64 (i:Int)]] w fun e J=>e= .returned (.string (za9 u F (prX n.ex i)))/\Bw w J:=by
 have U:=zc h;have X:Hid (za9 u F (prX n.ex i)=({data:=#[101,120,112,111,114,116,32,100,101,102,97,117,108,116,32]}:BA)++prX n.ex i++({data:=#[59,10]}:BA)):=by show _=_;rw[za9,H,L];rfl
 have q:=E;unfold wt at q;have O:=zc (And.intro (zcH (o':=.cells #[.int .i64 u,.string F,.int .i64 (i:Int)] 102) (heap_alloc_new w (.cells #[.slice T.rq.a n.rq.length T.rq.cap,.slice T.im.a n.im.length T.im.cap,.slice T.ep.a n.ep.length T.ep.cap,.slice T.st.a n.st.length T.st.cap,.slice T.ex.a n.ex.length T.ex.cap] 54))) (new2 w (.cells #[.slice T.rq.a n.rq.length T.rq.cap,.slice T.im.a n.im.length T.im.cap,.slice T.ep.a n.ep.length T.ep.cap,.slice T.st.a n.st.length T.st.cap,.slice T.ex.a n.ex.length T.ex.cap] 54) (.cells #[.int .i64 u,.string F,.int .i64 (i:Int)] 102)));clear h;unfold zl;go_enter func87,ntmps87;go_wp2_with fail;refine (ze6 b T n i _ N V M ((U.o.alloc _).alloc _) E).mono ?_;rintro e I ⟨rfl,A⟩;have K:Hid (Bw w I):=(zbg w _ _).trans (A.mono (by rw[zg,zg];omega));have D:=zc ((A.block _ (by rw[zg,zg];omega)).trans O.o.2);obtain⟨c0,Z,c2,cf⟩:=zn D.o;clear A;obtain⟨t,z⟩: ∃t,prX n.ex i=t:=⟨_,rfl⟩;rw[z] at q ⊢;have Y:=zc z;clear z;go_wp2;go_ret;exact⟨za4 (by rw[X.o,Y.o]),K.o⟩
theorem zrB (F:BA) (i:Nat) (w:World) (h:OwnMd w b T n) (M:i<n.ex.length) (N:zaY n.ex) (V:zb8 n.ex) (E:wt n.ex i<=1099511627776) (hs:F.size<=4294967296) (H:(u==1)=true) (L:(F.toList==[42,100,101,102,97,117,108,116])=false):
  Calls prog 87 #[zl T n,.agg #[.int .i64 u,.string F,.int .i64 (i:Int)]] w fun e J=>e= .returned (.string (za9 u F (prX n.ex i)))/\Bw w J:=by
 have U:=zc h;have X:Hid (za9 u F (prX n.ex i)=({data:=#[108,101,116,32]}:BA)++F++({data:=#[32,61,32]}:BA)++prX n.ex i++({data:=#[59,10]}:BA)):=by show _=_;rw[za9,H,L];rfl
 have q:=E;unfold wt at q;have O:=zc (And.intro (zcH (o':=.cells #[.int .i64 u,.string F,.int .i64 (i:Int)] 102) (heap_alloc_new w (.cells #[.slice T.rq.a n.rq.length T.rq.cap,.slice T.im.a n.im.length T.im.cap,.slice T.ep.a n.ep.length T.ep.cap,.slice T.st.a n.st.length T.st.cap,.slice T.ex.a n.ex.length T.ex.cap] 54))) (new2 w (.cells #[.slice T.rq.a n.rq.length T.rq.cap,.slice T.im.a n.im.length T.im.cap,.slice T.ep.a n.ep.length T.ep.cap,.slice T.st.a n.st.length T.st.cap,.slice T.ex.a n.ex.length T.ex.cap] 54) (.cells #[.int .i64 u,.string F,.int .i64 (i:Int)] 102)));clear h;unfold zl;go_enter func87,ntmps87;go_wp2_with fail;refine (ze6 b T n i _ N V M ((U.o.alloc _).alloc _) E).mono ?_;rintro e I ⟨rfl,A⟩;have K:Hid (Bw w I):=(zbg w _ _).trans (A.mono (by rw[zg,zg];omega));have D:=zc ((A.block _ (by rw[zg,zg];omega)).trans O.o.2);obtain⟨c0,Z,c2,cf⟩:=zn D.o;clear A;obtain⟨t,z⟩: ∃t,prX n.ex i=t:=⟨_,rfl⟩;rw[z] at q ⊢;have Y:=zc z;clear z;go_wp2;go_ret;exact⟨za4 (by rw[X.o,Y.o]),K.o⟩
theorem zrC (F:BA) (i:Nat) (w:World) (h:OwnMd w b T n) (L:i<n.ex.length) (M:zaY n.ex) (V:zb8 n.ex) (E:wt n.ex i<=1099511627776) (hs:F.size<=4294967296) (H:(u==1)=false) (N:(u==2)=true):
  Calls prog 87 #[zl T n,.agg #[.int .i64 u,.string F,.int .i64 (i:Int)]] w fun e J=>e= .returned (.string (za9 u F (prX n.ex i)))/\Bw w J:=by
 have U:=zc h;have X:Hid (za9 u F (prX n.ex i)=({data:=#[102,117,110,99,116,105,111,110,32]}:BA)++F++({data:=#[40,41,32,123,32,114,101,116,117,114,110,32]}:BA)++prX n.ex i++({data:=#[59,32,125,10]}:BA)):=by show _=_;rw[za9,H,N];rfl
 have q:=E;unfold wt at q;have O:=zc (And.intro (zcH (o':=.cells #[.int .i64 u,.string F,.int .i64 (i:Int)] 102) (heap_alloc_new w (.cells #[.slice T.rq.a n.rq.length T.rq.cap,.slice T.im.a n.im.length T.im.cap,.slice T.ep.a n.ep.length T.ep.cap,.slice T.st.a n.st.length T.st.cap,.slice T.ex.a n.ex.length T.ex.cap] 54))) (new2 w (.cells #[.slice T.rq.a n.rq.length T.rq.cap,.slice T.im.a n.im.length T.im.cap,.slice T.ep.a n.ep.length T.ep.cap,.slice T.st.a n.st.length T.st.cap,.slice T.ex.a n.ex.length T.ex.cap] 54) (.cells #[.int .i64 u,.string F,.int .i64 (i:Int)] 102)));clear h;unfold zl;go_enter func87,ntmps87;go_wp2_with fail;refine (ze6 b T n i _ M V L ((U.o.alloc _).alloc _) E).mono ?_;rintro e I ⟨rfl,A⟩;have K:Hid (Bw w I):=(zbg w _ _).trans (A.mono (by rw[zg,zg];omega));have D:=zc ((A.block _ (by rw[zg,zg];omega)).trans O.o.2);obtain⟨c0,Z,c2,cf⟩:=zn D.o;clear A;obtain⟨t,z⟩: ∃t,prX n.ex i=t:=⟨_,rfl⟩;rw[z] at q ⊢;have Y:=zc z;clear z;go_wp2;go_ret;exact⟨za4 (by rw[X.o,Y.o]),K.o⟩
theorem zrD (F:BA) (i:Nat) (w:World) (h:OwnMd w b T n) (M:i<n.ex.length) (N:zaY n.ex) (X:zb8 n.ex) (E:wt n.ex i<=1099511627776) (hs:F.size<=4294967296) (H:(u==1)=false) (O:(u==2)=false) (K:(u==3)=true):
  Calls prog 87 #[zl T n,.agg #[.int .i64 u,.string F,.int .i64 (i:Int)]] w fun e J=>e= .returned (.string (za9 u F (prX n.ex i)))/\Bw w J:=by
 have V:=zc h;have Y:Hid (za9 u F (prX n.ex i)=F++({data:=#[32,61,32]}:BA)++prX n.ex i++({data:=#[59,10]}:BA)):=by show _=_;rw[za9,H,O,K];rfl
 have q:=E;unfold wt at q;have U:=zc (And.intro (zcH (o':=.cells #[.int .i64 u,.string F,.int .i64 (i:Int)] 102) (heap_alloc_new w (.cells #[.slice T.rq.a n.rq.length T.rq.cap,.slice T.im.a n.im.length T.im.cap,.slice T.ep.a n.ep.length T.ep.cap,.slice T.st.a n.st.length T.st.cap,.slice T.ex.a n.ex.length T.ex.cap] 54))) (new2 w (.cells #[.slice T.rq.a n.rq.length T.rq.cap,.slice T.im.a n.im.length T.im.cap,.slice T.ep.a n.ep.length T.ep.cap,.slice T.st.a n.st.length T.st.cap,.slice T.ex.a n.ex.length T.ex.cap] 54) (.cells #[.int .i64 u,.string F,.int .i64 (i:Int)] 102)));clear h;unfold zl;go_enter func87,ntmps87;go_wp2_with fail;refine (ze6 b T n i _ N X M ((V.o.alloc _).alloc _) E).mono ?_;rintro e I ⟨rfl,A⟩;have L:Hid (Bw w I):=(zbg w _ _).trans (A.mono (by rw[zg,zg];omega));have D:=zc ((A.block _ (by rw[zg,zg];omega)).trans U.o.2);obtain⟨c0,c1,c2,cf⟩:=zn D.o;clear A;obtain⟨t,z⟩: ∃t,prX n.ex i=t:=⟨_,rfl⟩;rw[z] at q ⊢;have Z:=zc z;clear z;go_wp2;go_ret;exact⟨za4 (by rw[Y.o,Z.o]),L.o⟩
theorem zrE (F:BA) (i:Nat) (w:World) (h:OwnMd w b T n) (M:i<n.ex.length) (N:zaY n.ex) (X:zb8 n.ex) (E:wt n.ex i<=1099511627776) (_:F.size<=4294967296) (H:(u==1)=false) (O:(u==2)=false) (K:(u==3)=false) (Z:(u==4)=true):
  Calls prog 87 #[zl T n,.agg #[.int .i64 u,.string F,.int .i64 (i:Int)]] w fun e J=>e= .returned (.string (za9 u F (prX n.ex i)))/\Bw w J:=by
 have V:=zc h;have Y:Hid (za9 u F (prX n.ex i)=({data:=#[112,114,105,110,116,40]}:BA)++prX n.ex i++({data:=#[41,59,10]}:BA)):=by show _=_;rw[za9,H,O,K,Z];rfl
 have q:=E;unfold wt at q;have U:=zc (And.intro (zcH (o':=.cells #[.int .i64 u,.string F,.int .i64 (i:Int)] 102) (heap_alloc_new w (.cells #[.slice T.rq.a n.rq.length T.rq.cap,.slice T.im.a n.im.length T.im.cap,.slice T.ep.a n.ep.length T.ep.cap,.slice T.st.a n.st.length T.st.cap,.slice T.ex.a n.ex.length T.ex.cap] 54))) (new2 w (.cells #[.slice T.rq.a n.rq.length T.rq.cap,.slice T.im.a n.im.length T.im.cap,.slice T.ep.a n.ep.length T.ep.cap,.slice T.st.a n.st.length T.st.cap,.slice T.ex.a n.ex.length T.ex.cap] 54) (.cells #[.int .i64 u,.string F,.int .i64 (i:Int)] 102)));clear h;unfold zl;go_enter func87,ntmps87;go_wp2_with fail;refine (ze6 b T n i _ N X M ((V.o.alloc _).alloc _) E).mono ?_;rintro e I ⟨rfl,A⟩;have L:Hid (Bw w I):=(zbg w _ _).trans (A.mono (by rw[zg,zg];omega));have D:=zc ((A.block _ (by rw[zg,zg];omega)).trans U.o.2);obtain⟨c0,c1,c2,cf⟩:=zn D.o;clear A;obtain⟨t,z⟩: ∃t,prX n.ex i=t:=⟨_,rfl⟩;rw[z] at q ⊢;have HT:=zc z;clear z;go_wp2;go_ret;exact⟨za4 (by rw[Y.o,HT.o]),L.o⟩
theorem zrF (F:BA) (i:Nat) (w:World) (h:OwnMd w b T n) (O:i<n.ex.length) (U:zaY n.ex) (Y:zb8 n.ex) (E:wt n.ex i<=1099511627776) (_:F.size<=4294967296) (H:(u==1)=false) (V:(u==2)=false) (L:(u==3)=false) (k4:(u==4)=false) (N:(u==5)=true):
  Calls prog 87 #[zl T n,.agg #[.int .i64 u,.string F,.int .i64 (i:Int)]] w fun e J=>e= .returned (.string (za9 u F (prX n.ex i)))/\Bw w J:=by
 have X:=zc h;have Z:Hid (za9 u F (prX n.ex i)=({data:=#[116,104,114,111,119,32]}:BA)++prX n.ex i++({data:=#[59,10]}:BA)):=by show _=_;rw[za9,H,V,L,k4,N];rfl
 have q:=E;unfold wt at q;have HX:=zc (And.intro (zcH (o':=.cells #[.int .i64 u,.string F,.int .i64 (i:Int)] 102) (heap_alloc_new w (.cells #[.slice T.rq.a n.rq.length T.rq.cap,.slice T.im.a n.im.length T.im.cap,.slice T.ep.a n.ep.length T.ep.cap,.slice T.st.a n.st.length T.st.cap,.slice T.ex.a n.ex.length T.ex.cap] 54))) (new2 w (.cells #[.slice T.rq.a n.rq.length T.rq.cap,.slice T.im.a n.im.length T.im.cap,.slice T.ep.a n.ep.length T.ep.cap,.slice T.st.a n.st.length T.st.cap,.slice T.ex.a n.ex.length T.ex.cap] 54) (.cells #[.int .i64 u,.string F,.int .i64 (i:Int)] 102)));clear h;unfold zl;go_enter func87,ntmps87;go_wp2_with fail;refine (ze6 b T n i _ U Y O ((X.o.alloc _).alloc _) E).mono ?_;rintro e I ⟨rfl,A⟩;have M:Hid (Bw w I):=(zbg w _ _).trans (A.mono (by rw[zg,zg];omega));have D:=zc ((A.block _ (by rw[zg,zg];omega)).trans HX.o.2);obtain⟨c0,c1,c2,cf⟩:=zn D.o;clear A;obtain⟨t,z⟩: ∃t,prX n.ex i=t:=⟨_,rfl⟩;rw[z] at q ⊢;have K:=zc z;clear z;go_wp2;go_ret;exact⟨za4 (by rw[Z.o,K.o]),M.o⟩
theorem zrG (F:BA) (i:Nat) (w:World) (h:OwnMd w b T n) (O:i<n.ex.length) (U:zaY n.ex) (Y:zb8 n.ex) (E:wt n.ex i<=1099511627776) (_:F.size<=4294967296) (H:(u==1)=false) (V:(u==2)=false) (L:(u==3)=false) (k4:(u==4)=false) (N:(u==5)=false):
  Calls prog 87 #[zl T n,.agg #[.int .i64 u,.string F,.int .i64 (i:Int)]] w fun e J=>e= .returned (.string (za9 u F (prX n.ex i)))/\Bw w J:=by
 have X:=zc h;have Z:Hid (za9 u F (prX n.ex i)=({data:=#[102,97,105,108,32]}:BA)++prX n.ex i++({data:=#[59,10]}:BA)):=by show _=_;rw[za9,H,V,L,k4,N];rfl
 have q:=E;unfold wt at q;have HX:=zc (And.intro (zcH (o':=.cells #[.int .i64 u,.string F,.int .i64 (i:Int)] 102) (heap_alloc_new w (.cells #[.slice T.rq.a n.rq.length T.rq.cap,.slice T.im.a n.im.length T.im.cap,.slice T.ep.a n.ep.length T.ep.cap,.slice T.st.a n.st.length T.st.cap,.slice T.ex.a n.ex.length T.ex.cap] 54))) (new2 w (.cells #[.slice T.rq.a n.rq.length T.rq.cap,.slice T.im.a n.im.length T.im.cap,.slice T.ep.a n.ep.length T.ep.cap,.slice T.st.a n.st.length T.st.cap,.slice T.ex.a n.ex.length T.ex.cap] 54) (.cells #[.int .i64 u,.string F,.int .i64 (i:Int)] 102)));clear h;unfold zl;go_enter func87,ntmps87;go_wp2_with fail;refine (ze6 b T n i _ U Y O ((X.o.alloc _).alloc _) E).mono ?_;rintro e I ⟨rfl,A⟩;have M:Hid (Bw w I):=(zbg w _ _).trans (A.mono (by rw[zg,zg];omega));have D:=zc ((A.block _ (by rw[zg,zg];omega)).trans HX.o.2);obtain⟨c0,c1,c2,cf⟩:=zn D.o;clear A;obtain⟨t,z⟩: ∃t,prX n.ex i=t:=⟨_,rfl⟩;rw[z] at q ⊢;have K:=zc z;clear z;go_wp2;go_ret;exact⟨za4 (by rw[Z.o,K.o]),M.o⟩
theorem zrH (F:BA) (i:Nat) (w:World) (h:OwnMd w b T n) (E:i<n.ex.length) (H:zaY n.ex) (A:zb8 n.ex) (z:wt n.ex i<=1099511627776) (D:F.size<=4294967296):
  Calls prog 87 #[zl T n,.agg #[.int .i64 u,.string F,.int .i64 (i:Int)]] w fun e N=>e= .returned (.string (za9 u F (prX n.ex i)))/\Bw w N:=by
 cases q:(u==1) with
 |true=>
  cases L:(F.toList==[42,100,101,102,97,117,108,116]) with
  |true=>exact zrA b T n u F i w h E H A z D q L
  |false=>exact zrB b T n u F i w h E H A z D q L
 |false=>
  cases I:(u==2) with
  |true=>exact zrC b T n u F i w h E H A z D q I
  |false=>
   cases J:(u==3) with
   |true=>exact zrD b T n u F i w h E H A z D q I J
   |false=>
    cases K:(u==4) with
    |true=>exact zrE b T n u F i w h E H A z D q I J K
    |false=>
     cases M:(u==5) with
     |true=>exact zrF b T n u F i w h E H A z D q I J K M
     |false=>exact zrG b T n u F i w h E H A z D q I J K M
theorem zle (b:List Ex) (k:Int):zav (w++b) k=zav w k+zav b k:=by simp[zav]
theorem zlf (a b:List Sm) (k:Int):zaP (a++b) k=zaP a k+zaP b k:=by simp[zaP]
theorem zlg (h:D<B.length) (k:Int):zav (B.take (D+1)) k=zav (B.take D) k+u1 B[D] k:=by
 rw[List.take_succ_eq_append_getElem h,zle];simp[zav,u1]
theorem zrI (q:D<E.length) (k:Int):zaP (E.take (D+1)) k=zaP (E.take D) k+if E[D].expr==k then 1 else 0:=by
 rw[List.take_succ_eq_append_getElem q,zlf];simp[zaP]
theorem zgR:zav w u<=2*w.length:=by
 induction w with
 |nil=>simp[zav]
 |cons x l h=>
  rw[show x::l=[x]++l from rfl,zle];have:zav [x] u<=2:=by
   simp only[zav,List.map_cons,List.map_nil,List.sum_cons,List.sum_nil]
   split
   ·split<;>split<;>omega
   ·omega
  simp only[List.length_append,List.length_cons,List.length_nil];omega
theorem zlh (h:List Sm) (k:Int):zaP h k<=h.length:=by
 induction h with
 |nil=>simp[zaP]
 |cons x l q=>
  rw[show x::l=[x]++l from rfl,zlf];have:zaP [x] k<=1:=by
   simp only[zaP,List.map_cons,List.map_nil,List.sum_cons,List.sum_nil]
   split<;>omega
  simp only[List.length_append,List.length_cons,List.length_nil];omega
def zau (n:Nat) (f:Nat->Nat):List Value:=(List.range n).map fun k=>.int .i64 (f k:Int)
theorem ziq:(zau b d).length=b:=by simp[zau]
theorem zgS {k:Nat} (h:k<D):(zau D d)[k]? =some (.int .i64 (d k:Int)):=by
 unfold zau;rw[List.getElem?_map,List.getElem?_range h];rfl
theorem zrJ {l:Nat} (g:Nat->Nat) (v:Nat) (w:g l=v) (h: ∀k,k≠l->g k=d k):(zau D d).set l (.int .i64 (v:Int))=zau D g:=by
 apply List.ext_getElem?;intro k;by_cases q:k<D
 ·by_cases e:k=l
  ·subst e;rw[List.getElem?_set_self (by rw[ziq];exact q),zgS g q,w]
  ·rw[List.getElem?_set_ne (fun x=>e x.symm),zgS d q,zgS g q,h k e]
 ·rw[List.getElem?_eq_none (by rw[List.length_set,ziq];omega),List.getElem?_eq_none (by rw[ziq];omega)]
theorem ze7 {f g:Nat->Nat} (h: ∀k,k<D->f k=g k):zau D f=zau D g:=by
 unfold zau;refine List.map_congr_left fun k q=>?_;rw[h k (List.mem_range.1 q)]
def zaM (f:Nat->Nat) (l:Nat):Nat->Nat:=fun k=>f k+if k=l then 1 else 0
theorem zrK:zaM d k k=d k+1:=by simp[zaM]
theorem zrL {k:Nat} (h:k≠D):zaM d D k=d k:=by simp[zaM,h]
theorem zli (z:D<B.length) (w:zac B[D].kind=true) (F:0<=B[D].l) (A:0<=B[D].r) (k:Nat):zaM (zaM (fun k=>zav (B.take D) (k:Int)) B[D].l.toNat) B[D].r.toNat k=zav (B.take (D+1)) (k:Int):=by
 rw[zlg z,u1,if_pos w];unfold zaM;have h:(B[D].l==(k:Int))=decide (k=B[D].l.toNat):=by
  rw[Bool.eq_iff_iff,beq_iff_eq,decide_eq_true_iff];omega
 have q:(B[D].r==(k:Int))=decide (k=B[D].r.toNat):=by
  rw[Bool.eq_iff_iff,beq_iff_eq,decide_eq_true_iff];omega
 rw[h,q];simp only[decide_eq_true_eq];omega
theorem zlj (h:D<B.length) (q:zac B[D].kind=false) (k:Nat):zav (B.take D) (k:Int)=zav (B.take (D+1)) (k:Int):=by
 rw[zlg h,u1,if_neg (by rw[q];decide),Nat.add_zero]
theorem zlk {ex:List Ex} (q:D<E.length) (z:0<=E[D].expr) (k:Nat):zaM (fun k=>zav ex (k:Int)+zaP (E.take D) (k:Int)) E[D].expr.toNat k=zav ex (k:Int)+zaP (E.take (D+1)) (k:Int):=by
 rw[zrI q];unfold zaM;have w:(E[D].expr==(k:Int))=decide (k=E[D].expr.toNat):=by
  rw[Bool.eq_iff_iff,beq_iff_eq,decide_eq_true_iff];omega
 rw[w];simp only[decide_eq_true_eq];omega
def AheadTo (ex:List Ex) (n:Nat):Prop:=∀(i:Nat) (x:Ex),i<n->ex[i]? =some x->zac x.kind=true->0<=x.l/\x.l<(i:Int)/\0<=x.r/\x.r<(i:Int)
theorem AheadTo.all (h:AheadTo B B.length):zb8 B:=fun i x q=>h i x (List.getElem?_eq_some_iff.1 q).1 q
theorem AheadTo.next (h:AheadTo B D) (F:D<B.length) (z:zac B[D].kind=true->0<=B[D].l/\B[D].l<(D:Int)/\0<=B[D].r/\B[D].r<(D:Int)):AheadTo B (D+1):=by
 intro j x A q w;by_cases e:j=D
 ·subst e;obtain⟨_,rfl⟩:=List.getElem?_eq_some_iff.1 q;exact z w
 ·exact h j x (by omega) q w
theorem AheadTo.not (q:D<B.length) (w:zac B[D].kind=true) (z: ¬(0<=B[D].l/\B[D].l<(D:Int)/\0<=B[D].r/\B[D].r<(D:Int))): ¬zb8 B:=fun h=>z (h D _ (List.getElem?_eq_getElem q) w)
end Go.Proofs.YtgcbmogmniahjaaGreat
namespace Go.Proofs.YtgcbmogmniahjaaGreat
open Go.RowKit Go.PlainAid Go.Proofs.Tryz
theorem zfs (a b c:Int) (w:World):
  Calls prog 25 #[.int .i64 a,.int .i64 b,.int .i64 c] w fun e q=>e= .returned (.bool (inB a b c))/\q=w:=by
 by_cases h:b<=a
 ·by_cases z:a<=c
  ·go_enter func25,ntmps25;go_wp2;go_ret;exact⟨zi (zjq h z).symm,rfl⟩
  ·go_enter func25,ntmps25;go_wp2;go_ret;exact⟨zi (zhw (by omega)).symm,rfl⟩
 ·go_enter func25,ntmps25;go_wp2;go_ret;exact⟨zi (zhw (by omega)).symm,rfl⟩
end Go.Proofs.YtgcbmogmniahjaaGreat
