/- Facts and walks that the theorem stands on. -/
import Derived.Laws.StructEq
import Derived.Test.YtgcbmogmniahjaaGreatA22
namespace Go.Proofs.YtgcbmogmniahjaaGreat
open Go.Proofs.Tryz
set_option maxRecDepth 100000
set_option maxHeartbeats 12800000
open Go.RowKit Go.PlainAid Go.Sort
theorem zkD (x y:Im) (w:World):Sem.run prog (binOp .neq 95 (.agg #[.string x.spec,.string x.first,.string x.loc]) (.agg #[.string y.spec,.string y.first,.string y.loc])) w= .ok (.bool (!zdm x y)) w:=by
 have I:=underlying9;have K:=Tryz.isAgg9;have J:=Tryz.sizeOf9;have M:=underlying3;have L:=Tryz.isAgg3;have N:=Tryz.sizeOf3;have z:prog.underlying 95=some (.struct (prog.fieldsOf 95)):=by kernel_rfl
 have h:prog.stoodInHeld 95=false:=by kernel_rfl
 rw[run_neq_struct,show (10000:Nat)=9999+1 from rfl,run_equalIn_agg w 9999 95 _ _ z h];simp only[Program.fieldsOf,underlying95];go_simp;by_cases H:x.spec.toList=y.spec.toList<;>by_cases A:x.first.toList=y.first.toList<;>by_cases q:x.loc.toList=y.loc.toList<;>simp[zdm,H,A,q]
theorem zkE (h:BinOp) (a b:Operand) (x y:Im) (w:World):Sem.run prog (eqGuard h 95 a b (.agg #[.string x.spec,.string x.first,.string x.loc]) (.agg #[.string y.spec,.string y.first,.string y.loc])) w= .ok () w:=run_eqGuard_agg w h 95 a b _ _ (by kernel_rfl)
theorem zkF (x y:Ep) (w:World):Sem.run prog (binOp .neq 97 (.agg #[.int .i64 x.kind,.string x.name,.string x.loc,.string x.spec]) (.agg #[.int .i64 y.kind,.string y.name,.string y.loc,.string y.spec])) w= .ok (.bool (!zdn x y)) w:=by
 have J:=underlying9;have L:=Tryz.isAgg9;have K:=Tryz.sizeOf9;have N:=underlying3;have M:=Tryz.isAgg3;have O:=Tryz.sizeOf3;have z:prog.underlying 97=some (.struct (prog.fieldsOf 97)):=by kernel_rfl
 have h:prog.stoodInHeld 97=false:=by kernel_rfl
 rw[run_neq_struct,show (10000:Nat)=9999+1 from rfl,run_equalIn_agg w 9999 97 _ _ z h];simp only[Program.fieldsOf,underlying97];go_simp;by_cases H:x.kind=y.kind<;>by_cases A:x.name.toList=y.name.toList<;>by_cases q:x.loc.toList=y.loc.toList<;>by_cases I:x.spec.toList=y.spec.toList<;>simp[zdn,H,A,q,I]
theorem zkG (h:BinOp) (a b:Operand) (x y:Ep) (w:World):Sem.run prog (eqGuard h 97 a b (.agg #[.int .i64 x.kind,.string x.name,.string x.loc,.string x.spec]) (.agg #[.int .i64 y.kind,.string y.name,.string y.loc,.string y.spec])) w= .ok () w:=run_eqGuard_agg w h 97 a b _ _ (by kernel_rfl)
theorem zkH (x y:Sm) (w:World):Sem.run prog (binOp .neq 102 (.agg #[.int .i64 x.kind,.string x.name,.int .i64 x.expr]) (.agg #[.int .i64 y.kind,.string y.name,.int .i64 y.expr])) w= .ok (.bool (!zdo x y)) w:=by
 have I:=underlying9;have K:=Tryz.isAgg9;have J:=Tryz.sizeOf9;have M:=underlying3;have L:=Tryz.isAgg3;have N:=Tryz.sizeOf3;have z:prog.underlying 102=some (.struct (prog.fieldsOf 102)):=by kernel_rfl
 have h:prog.stoodInHeld 102=false:=by kernel_rfl
 rw[run_neq_struct,show (10000:Nat)=9999+1 from rfl,run_equalIn_agg w 9999 102 _ _ z h];simp only[Program.fieldsOf,underlying102];go_simp;by_cases H:x.kind=y.kind<;>by_cases A:x.name.toList=y.name.toList<;>by_cases q:x.expr=y.expr<;>simp[zdo,H,A,q]
theorem zkI (h:BinOp) (a b:Operand) (x y:Sm) (w:World):Sem.run prog (eqGuard h 102 a b (.agg #[.int .i64 x.kind,.string x.name,.int .i64 x.expr]) (.agg #[.int .i64 y.kind,.string y.name,.int .i64 y.expr])) w= .ok () w:=run_eqGuard_agg w h 102 a b _ _ (by kernel_rfl)
theorem zkJ (x y:Ex) (w:World):Sem.run prog (binOp .neq 100 (.agg #[.int .i64 x.kind,.int .i64 x.num,.string x.name,.string x.field,.int .i64 x.l,.int .i64 x.r]) (.agg #[.int .i64 y.kind,.int .i64 y.num,.string y.name,.string y.field,.int .i64 y.l,.int .i64 y.r])) w= .ok (.bool (!zdp x y)) w:=by
 have L:=underlying9;have N:=Tryz.isAgg9;have M:=Tryz.sizeOf9;have U:=underlying3;have O:=Tryz.isAgg3;have V:=Tryz.sizeOf3;have z:prog.underlying 100=some (.struct (prog.fieldsOf 100)):=by kernel_rfl
 have h:prog.stoodInHeld 100=false:=by kernel_rfl
 rw[run_neq_struct,show (10000:Nat)=9999+1 from rfl,run_equalIn_agg w 9999 100 _ _ z h];simp only[Program.fieldsOf,underlying100];go_simp;by_cases J:x.kind=y.kind<;>by_cases H:x.num=y.num<;>by_cases q:x.name.toList=y.name.toList<;>by_cases K:x.field.toList=y.field.toList<;>by_cases A:x.l=y.l<;>by_cases I:x.r=y.r<;>simp[zdp,J,H,q,K,A,I]
theorem zkK (h:BinOp) (a b:Operand) (x y:Ex) (w:World):Sem.run prog (eqGuard h 100 a b (.agg #[.int .i64 x.kind,.int .i64 x.num,.string x.name,.string x.field,.int .i64 x.l,.int .i64 x.r]) (.agg #[.int .i64 y.kind,.int .i64 y.num,.string y.name,.string y.field,.int .i64 y.l,.int .i64 y.r])) w= .ok () w:=run_eqGuard_agg w h 100 a b _ _ (by kernel_rfl)
theorem zkL (b1 b2:Nat) (S1 S2:Sv) (A K:Md) (w:World) (h1:OwnMd w b1 S1 A) (h2:OwnMd w b2 S2 K) (hf:zdK A):
  Calls prog 137 #[zl S1 A,zl S2 K] w fun e w'=>SameOut (A=K) e/\Below w.heap.size w w':=by
 have H1:=zc h1;have H2:=zc h2;have HF:=zc hf;clear h1 h2 hf;unfold zl;go_enter func137,ntmps137;go_upto_region 1 with fail;refine zx (R:=TwoM w b1 b2 S1 S2 A K) (zhG w b1 b2 S1 S2 A K H1.o H2.o) ?_;clear H1 H2;intro w0 h;have T0:=zc h;clear h;obtain⟨Z,M,O,X,N,V⟩:=zj T0.o.1;obtain⟨U,L,H,I,Y,J⟩:=zj T0.o.2.1;go_wp2_with fail;refine (zoO b1 b2 S1.rq S2.rq A.rq K.rq w0 (by rw[<-zeN];exact T0.o.2.2.1.rq) (by rw[<-zeN];exact T0.o.2.2.2.1.rq) HF.o.1).mono ?_;rintro e w1 ⟨⟨r,rfl,z⟩,q⟩;have T1:=zc (T0.o.later q);have R0:=zc z;clear q z Z M O X N V U L H I Y J;obtain⟨Z,M,O,X,N,V⟩:=zj T1.o.1;obtain⟨U,L,H,I,Y,J⟩:=zj T1.o.2.1;cases r with
 |false=>
  go_wp2;go_ret;exact⟨⟨false,rfl,⟨fun k=>(by cases k),fun k=>(by have:=R0.o.2 (by rw[k]);cases this)⟩⟩,T1.o.2.2.2.2⟩
 |true=>
  go_wp2_with fail;refine (zoS zkD zkE b1 b2 S1.im S2.im A.im K.im w1 T1.o.2.2.1.im T1.o.2.2.2.1.im HF.o.2.1).mono ?_;rintro e w2 ⟨⟨r,rfl,z⟩,q⟩;have T2:=zc (T1.o.later q);have R1:=zc z;clear q z Z M O X N V U L H I Y J;obtain⟨Z,M,O,X,N,V⟩:=zj T2.o.1;obtain⟨U,L,H,I,Y,J⟩:=zj T2.o.2.1;cases r with
  |false=>
   go_wp2;go_ret;exact⟨⟨false,rfl,⟨fun k=>(by cases k),fun k=>(by have:=R1.o.2 (by rw[k]);cases this)⟩⟩,T2.o.2.2.2.2⟩
  |true=>
   go_wp2_with fail;refine (zoW zkF zkG b1 b2 S1.ep S2.ep A.ep K.ep w2 T2.o.2.2.1.ep T2.o.2.2.2.1.ep HF.o.2.2.1).mono ?_;rintro e w3 ⟨⟨r,rfl,z⟩,q⟩;have T3:=zc (T2.o.later q);have R2:=zc z;clear q z Z M O X N V U L H I Y J;obtain⟨Z,M,O,X,N,V⟩:=zj T3.o.1;obtain⟨U,L,H,I,Y,J⟩:=zj T3.o.2.1;cases r with
   |false=>
    go_wp2;go_ret;exact⟨⟨false,rfl,⟨fun k=>(by cases k),fun k=>(by have:=R2.o.2 (by rw[k]);cases this)⟩⟩,T3.o.2.2.2.2⟩
   |true=>
    go_wp2_with fail;refine (zpa zkH zkI b1 b2 S1.st S2.st A.st K.st w3 T3.o.2.2.1.st T3.o.2.2.2.1.st HF.o.2.2.2.1).mono ?_;rintro e w4 ⟨⟨r,rfl,z⟩,q⟩;have T4:=zc (T3.o.later q);have R3:=zc z;clear q z Z M O X N V U L H I Y J;obtain⟨Z,M,O,X,N,V⟩:=zj T4.o.1;obtain⟨U,L,H,I,Y,J⟩:=zj T4.o.2.1;cases r with
    |false=>
     go_wp2;go_ret;exact⟨⟨false,rfl,⟨fun k=>(by cases k),fun k=>(by have:=R3.o.2 (by rw[k]);cases this)⟩⟩,T4.o.2.2.2.2⟩
    |true=>
     go_wp2_with fail;refine (zpe zkJ zkK b1 b2 S1.ex S2.ex A.ex K.ex w4 T4.o.2.2.1.ex T4.o.2.2.2.1.ex HF.o.2.2.2.2).mono ?_;rintro e w5 ⟨⟨r,rfl,z⟩,q⟩;have T5:=zc (T4.o.later q);have R4:=zc z;clear q z Z M O X N V U L H I Y J;obtain⟨Z,M,O,X,N,V⟩:=zj T5.o.1;obtain⟨U,L,H,I,Y,J⟩:=zj T5.o.2.1;cases r with
     |false=>
      go_wp2;go_ret;exact⟨⟨false,rfl,⟨fun k=>(by cases k),fun k=>(by have:=R4.o.2 (by rw[k]);cases this)⟩⟩,T5.o.2.2.2.2⟩
     |true=>
      go_wp2;go_ret;exact⟨⟨true,rfl,⟨fun _=>zjP (R0.o.1 (by simp)) (R1.o.1 (by simp)) (R2.o.1 (by simp)) (R3.o.1 (by simp)) (R4.o.1 (by simp)),fun _=>rfl⟩⟩,T5.o.2.2.2.2⟩
theorem Tryz.infoByte:(prog.info? 5).map (fun i=>(i.zero,i.size,i.bytes))=some (some (.int .u8 0),1,1):=by kernel_rfl
theorem zkM (m:Int) (w:World) (J:0<=m) (K:m<=18446744073709551615):
  Calls prog 254 #[.int .u64 m] w fun e w'=>e= .returned (.int .i64 (dcn m))/\w'=w:=by
 have A:=zd3 m J K;have L:dcn m<=20:=A.2.1;have I:1<=dcn m:=A.1;clear A;go_enter func254,ntmps254;go_wp2;go_loop [0,3] (fun a c=>∃k:Nat,k+1<=dcn m/\a= .int .u64 (m/10^k)/\c= .int .i64 ((k:Int)+1)) (fun a _=>(intOf a).toNat)
 case atStart=>exact⟨0,I,by simp,rfl⟩
 case round=>
  obtain⟨k,M,rfl,rfl⟩:=hrel;have N:=zeC m k J;have z:=zn0 m J K k;by_cases q:10<=m/10^k
  ·have H:=z.1 q;clear z;go_wp2;go_round
   case rel=>exact⟨k+1,by omega,by rw[zeB],by go_num⟩
   case measure=>simp[intOf];omega
  ·have H: ¬(k+1<dcn m):=fun h=>q (z.2 h);clear z;go_wp2;go_ret;exact⟨zbC (by omega),rfl⟩
theorem zqV (n:Int) (w:World) (U:0<=n) (h1:n<=9223372036854775807):
  Calls prog 241 #[.int .i64 n] w fun e w'=>e= .returned (.string (strOfNums (dgk n (dcn n))))/\Below w.heap.size w w':=by
 obtain⟨Z,hi,K,M,N⟩:=info_parts Tryz.infoByte;have J:=zd3 n U (by omega);have aa:dcn n<=20:=J.2.1;have ab:1<=dcn n:=J.1;clear J;go_enter func241,ntmps241;go_wp2_with (first|(go_at_call 254;refine (zkM _ _ (by omega) (by omega)).mono ?_;rintro e w' ⟨rfl,rfl⟩)|(at_make;refine wpList_make_full _ rfl _ _ 147 rfl w'.heap.size 5 Z (.int .u8 0) 1 underlying147 hi K M _ _ _ _ (dcn n) rfl rfl (by omega) (by omega) ?b2 ?b3 ?b4 ?_))
 case b2=>rw[N];omega
 case b3=>unfold maxLen;omega
 case b4=>exact Nat.le_refl _
 intro w1 q z;have H:=(Below.refl w'.heap.size w').grown z (Nat.le_refl _) (by intro k V;cases V);rw[toList_madeCells_one] at q;clear z;go_wp2;go_loopw [3,7,21] (fun r _ i wr=>∃k:Nat,k<=dcn n/\i= .int .i64 k/\r= .int .u64 (n/10^k)/\zcL wr w'.heap.size 5 (.slice (some ⟨w'.heap.size,0,none⟩) (dcn n) (dcn n)) (dcn n) (zcM (dgk n (dcn n)) k)/\Below w'.heap.size w' wr) (fun _ _ i _=>dcn n-(intOf i).toNat)
 case atStart=>exact⟨0,by omega,rfl,by simp,by unfold zcL;rw[zje,zcD,List.map_replicate];exact q,H⟩
 case round=>
  obtain⟨k,V,rfl,rfl,h,A⟩:=hrel;clear q H;have hb:=zeC n k U;by_cases I:k<dcn n
  ·obtain⟨v,hv⟩:=zhp h (dcn n-1-k) (by omega);have hf:=zhq h (dcn n-1-k);have X:=zho h (dcn n-1-k) (48+n/10^k%10);have O:=zjf (dgk n (dcn n)) k (48+n/10^k%10) (by rw[zcD];exact I) (by rw[zcD];exact zjo n _ k I);rw[zcD] at O;rw[O] at X;clear O h;go_wp2;go_roundw
   case rel=>exact⟨k+1,by omega,by go_num,by rw[zeB],X,A.setCell (Nat.le_refl _) _⟩
   case measure=>simp[intOf];omega
  ·have L:=zn1 (dgk n (dcn n));rw[zcD] at L;rw[show k=dcn n from by omega,L] at h;clear L;have Y:=zjc (P:=prog) (src:=147) (dst:=9) underlying147 underlying5 underlying9 h;go_wp2;go_ret;exact⟨rfl,A⟩
theorem zqW (m:Int) (q:0<m) (h:m<=9223372036854775808):IntKind.u64.wrap (-IntKind.u64.wrap (-m))=m:=by
 rw[IntKind.wrap_u64,IntKind.wrap_u64];omega
theorem zqX (m:Int) (w:World) (Z:0<m) (h1:m<=9223372036854775808):
  Calls prog 241 #[.int .i64 (-m)] w fun e w'=>e= .returned (.string (strOfNums (45::dgk m (dcn m))))/\Below w.heap.size w w':=by
 obtain⟨i0,hi,M,O,U⟩:=info_parts Tryz.infoByte;have K:=zd3 m (by omega) (by omega);have ab:dcn m<=20:=K.2.1;have ac:1<=dcn m:=K.1;clear K;have hu:=zqW m Z h1;go_enter func241,ntmps241;go_wp2_with (first|(go_at_call 254;refine (zkM _ _ (by omega) (by omega)).mono ?_;rintro e w' ⟨rfl,rfl⟩)|(at_make;refine wpList_make_full _ rfl _ _ 147 rfl w'.heap.size 5 i0 (.int .u8 0) 1 underlying147 hi M O _ _ _ _ (dcn m+1) rfl rfl (by omega) (by omega) ?b2 ?b3 ?b4 ?_))
 case b2=>rw[U];omega
 case b3=>unfold maxLen;omega
 case b4=>exact Nat.le_refl _
 intro w1 q z;have I:=(Below.refl w'.heap.size w').grown z (Nat.le_refl _) (by intro k Y;cases Y);rw[toList_madeCells_one] at q;clear z;have H:(45::dgk m (dcn m)).length=dcn m+1:=by rw[List.length_cons,zcD]
 have V:Hid ((45::dgk m (dcn m)).length=dcn m+1):=H;clear H;go_wp2;go_loopw [3,7,21] (fun r _ i wr=>∃k:Nat,k<=dcn m/\i= .int .i64 k/\r= .int .u64 (m/10^k)/\zcL wr w'.heap.size 5 (.slice (some ⟨w'.heap.size,0,none⟩) (dcn m+1) (dcn m+1)) (dcn m+1) (zcM (45::dgk m (dcn m)) k)/\Below w'.heap.size w' wr) (fun _ _ i _=>dcn m-(intOf i).toNat)
 case atStart=>exact⟨0,by omega,rfl,by simp,by unfold zcL;rw[zje,V.o,List.map_replicate];exact q,I⟩
 case round=>
  obtain⟨k,Y,rfl,rfl,h,A⟩:=hrel;clear q I hu;have hb:=zeC m k (by omega);by_cases L:k<dcn m
  ·obtain⟨v,hv⟩:=zhp h (dcn m-k) (by omega);have hf:=zhq h (dcn m-k);have J:=zho h (dcn m-k) (48+m/10^k%10);have X:=zjf (45::dgk m (dcn m)) k (48+m/10^k%10) (by rw[V.o];omega) (zn3 [45] m (dcn m) k L);rw[V.o,show dcn m+1-1-k=dcn m-k from by omega] at X;rw[X] at J;clear X h;go_wp2;go_roundw
   case rel=>exact⟨k+1,by omega,by go_num,by rw[zeB],J,A.setCell (Nat.le_refl _) _⟩
   case measure=>simp[intOf];omega
  ·have N:=zn2 45 (dgk m (dcn m));rw[zcD] at N;rw[show k=dcn m from by omega] at h;obtain⟨v,hv⟩:=zhp h 0 (by omega);have hf:=zhq h 0;have J:=zho h 0 45;rw[N] at J;clear N h;have aa:=zjc (P:=prog) (src:=147) (dst:=9) underlying147 underlying5 underlying9 J;go_wp2;go_ret;exact⟨rfl,A.setCell (Nat.le_refl _) _⟩
theorem zqY (n:Int) (w:World) (q: -9223372036854775808<=n/\n<=9223372036854775807):
  Calls prog 241 #[.int .i64 n] w fun e w'=>e= .returned (.string (strOfNums (zbW n)))/\Below w.heap.size w w':=by
 by_cases h:0<=n
 ·rw[zht h];exact zqV n w h q.2
 ·obtain⟨m,rfl⟩: ∃m,n= -m:=⟨-n,by omega⟩;rw[zhs (by omega),Int.neg_neg];exact zqX m w (by omega) (by omega)
theorem neg_tmod (q:Int) (h:0<=q):(-q).tmod 10= -(q%10):=by rw[Int.neg_tmod,Int.tmod_eq_emod_of_nonneg h]
theorem neg_tdiv (q:Int) (h:0<=q):(-q).tdiv 10= -(q/10):=by rw[Int.neg_tdiv,Int.tdiv_eq_ediv_of_nonneg h]
theorem zqZ (n:Int) (w:World) (Y:0<n) (h1:n<=9223372036854775807):
  Calls prog 161 #[.int .i64 n] w fun e w'=>e= .returned (.string (strOfNums (dgk n (dcn n))))/\Below w.heap.size w w':=by
 have H:=zd3 n (by omega) (by omega);have V:dcn n<=20:=H.2.1;have X:1<=dcn n:=H.1;have M:(n==0)=false:=by simp;omega
 have L: ¬n<0:=by omega
 clear H;go_enter func161,ntmps161;go_wp2;go_loopw [0,3,5] (fun a o _ wr=>∃k:Nat,k<=dcn n/\a= .int .i64 (n/10^k)/\o= .string (strOfNums (dgk n k))/\Below w.heap.size w wr) (fun a _ _ _=>(intOf a).toNat)
 case atStart=>exact⟨0,by omega,by simp,rfl,Below.refl _ _⟩
 case round=>
  obtain⟨k,hk,rfl,rfl,q⟩:=hrel;have Z:=zeC n k (by omega);have A:=zjn n (by omega) (by omega) k;have O:(strOfNums (dgk n k)).size<=20:=by rw[strOfNums_size,zcD];omega
  by_cases z:n/10^k=0
  ·have I: ¬(k<dcn n):=fun h=>A.2 h z;have J:(n/10^k !=0)=false:=by simpa using z
   clear A z;go_wp2;go_ret;exact⟨za7 (by rw[show dcn n=k from by omega]),q⟩
  ·have I:=A.1 z;have J:(n/10^k !=0)=true:=by simpa using z
   have U:0<n/10^k:=by omega
   clear A z;have N:=fun (w:World) (x:Int)=>zjd (P:=prog) (src:=147) (dst:=9) underlying147 underlying5 underlying9 w x;have K:=fun x=>strOfNums_size [x];go_wp2;go_roundw
   case rel=>exact⟨k+1,by omega,by rw[zeB],by rw[zfX];rfl,q.alloc q.size _⟩
   case measure=>simp[intOf];omega
theorem zra (m:Int) (w:World) (Z:0<m) (h1:m<=9223372036854775808):
  Calls prog 161 #[.int .i64 (-m)] w fun e w'=>e= .returned (.string (strOfNums (45::dgk m (dcn m))))/\Below w.heap.size w w':=by
 have A:=zd3 m (by omega) (by omega);have X:dcn m<=20:=A.2.1;have Y:1<=dcn m:=A.1;have N:(-m==0)=false:=by simp;omega
 clear A;go_enter func161,ntmps161;go_wp2;go_loopw [0,3,5] (fun a o _ wr=>∃k:Nat,k<=dcn m/\a= .int .i64 (-(m/10^k))/\o= .string (strOfNums (dgk m k))/\Below w.heap.size w wr) (fun a _ _ _=>(-(intOf a)).toNat)
 case atStart=>exact⟨0,by omega,by simp,rfl,Below.refl _ _⟩
 case round=>
  obtain⟨k,hk,rfl,rfl,q⟩:=hrel;have K:=zeC m k (by omega);have H:=zjn m (by omega) (by omega) k;have V:(strOfNums (dgk m k)).size<=20:=by rw[strOfNums_size,zcD];omega
  by_cases z:m/10^k=0
  ·have I: ¬(k<dcn m):=fun h=>H.2 h z;have J:(-(m/10^k) !=0)=false:=by simpa using z
   have L:(strOfNums [45]).size=1:=strOfNums_size [45];clear H z;go_wp2;go_ret;exact⟨za7 (by rw[show dcn m=k from by omega];exact zfX 45 _),q⟩
  ·have I:=H.1 z;have J:(-(m/10^k) !=0)=true:=by simpa using z
   have U:0<m/10^k:=by omega
   clear H z;have e1:=neg_tmod (m/10^k) K.1;have e2:=neg_tdiv (m/10^k) K.1;have O:=fun (w:World) (x:Int)=>zjd (P:=prog) (src:=147) (dst:=9) underlying147 underlying5 underlying9 w x;have M:=fun x=>strOfNums_size [x];by_cases A:0<m/10^k%10
   ·go_wp2;go_roundw
    case rel=>exact⟨k+1,by omega,by rw[zeB],by rw[zfX];rfl,q.alloc q.size _⟩
    case measure=>simp[intOf];omega
   ·go_wp2;go_roundw
    case rel=>exact⟨k+1,by omega,by rw[zeB],by rw[zfX,show 48+ -(m/10^k%10)=48+m/10^k%10 from by omega];rfl,q.alloc q.size _⟩
    case measure=>simp[intOf];omega
theorem zrb (n:Int) (w:World) (z: -9223372036854775808<=n/\n<=9223372036854775807):
  Calls prog 161 #[.int .i64 n] w fun e w'=>e= .returned (.string (strOfNums (zbW n)))/\Below w.heap.size w w':=by
 by_cases h:0<n
 ·rw[zht (by omega)];exact zqZ n w h z.2
 ·by_cases A:n=0
  ·subst A;have q:Hid (zbW 0=[48]):=by show zbW 0=[48];decide
   go_enter func161,ntmps161;go_wp2;go_ret;exact⟨za7 (by rw[q.o];rfl),Below.refl _ _⟩
  ·obtain⟨m,rfl⟩: ∃m,n= -m:=⟨-n,by omega⟩;rw[zhs (by omega),Int.neg_neg];exact zra m w (by omega) (by omega)
theorem zkN (k:Int) (w:World):Calls prog 123 #[.int .i64 k] w fun e w'=>e= .returned (.bool (zaa k))/\w'=w:=by
 cases q:(k==6) with
 |true=>
  have h:Hid (zaa k=true):=by show _=_;rw[zaa,q];rfl
  go_enter func123,ntmps123;go_wp2;go_ret;exact⟨zi h.o.symm,rfl⟩
 |false=>
  cases z:(k==7) with
  |true=>
   have h:Hid (zaa k=true):=by show _=_;rw[zaa,q,z];rfl
   go_enter func123,ntmps123;go_wp2;go_ret;exact⟨zi h.o.symm,rfl⟩
  |false=>
   have h:Hid (zaa k=(k==8)):=by show _=_;rw[zaa,q,z];simp
   go_enter func123,ntmps123;go_wp2;go_ret;exact⟨zi h.o.symm,rfl⟩
theorem zid (base:Nat) (S:Sv) (m:Md) (i:Nat) (w:World) (h:OwnMd w base S m) (H:i<m.ex.length):
  Calls prog 163 #[zl S m,.int .i64 i] w fun e w'=>e= .returned (.bool (zQ (m.ex.getD i zh).kind))/\Below w.heap.size w w':=by
 obtain⟨g,hg,hlt,c0,-,-,-,-,-⟩:=h.expr H;have A:(i:Int)<(m.ex.length:Int):=by omega
 unfold zl;rw[hg];generalize (m.ex.getD i zh).kind=k at c0 ⊢;clear h hg;cases z:(k==6) with
 |true=>
  have q:Hid (zQ k=true):=by show _=_;rw[zQ,z];rfl
  go_enter func163,ntmps163;go_wp2;go_ret;exact⟨zi q.o.symm,(Below.refl _ _).alloc (Nat.le_refl _) _⟩
 |false=>
  have q:Hid (zQ k=(k==7)):=by show _=_;rw[zQ,z];simp
  go_enter func163,ntmps163;go_wp2;go_ret;exact⟨zi q.o.symm,(Below.refl _ _).alloc (Nat.le_refl _) _⟩
def zeT (base:Nat) (S:Sv) (m:Md) (n:Nat):Prop:=∀(i:Nat) (w:World),i<n->i<m.ex.length->OwnMd w base S m->wt m.ex i<=1099511627776->
 Calls prog 125 #[zl S m,.int .i64 i] w fun e w'=>e= .returned (.string (prX m.ex i))/\Below w.heap.size w w'
theorem zgE (base:Nat) (S:Sv) (m:Md) (n i:Nat) (b:Bool) (w:World) (J:zeT base S m n) (L:i<n) (O:i<m.ex.length) (h:OwnMd w base S m) (A:wt m.ex i<=1099511627776):
  Calls prog 162 #[zl S m,.int .i64 i,.bool b] w fun e w'=>e= .returned (.string (zJ b (prX m.ex i)))/\Below w.heap.size w w':=by
 have N:=zc J;have K:=zc h;have U:=zc A;unfold wt at A;clear J h;unfold zl;cases b with
 |true=>
  have z:Hid (zJ true (prX m.ex i)=zp++prX m.ex i++za8):=rfl;go_enter func162,ntmps162;go_wp2_with fail;refine (N.o i _ L O (K.o.alloc _) U.o).mono ?_;rintro e H ⟨rfl,q⟩;have I:Hid (Below w.heap.size w H):=((Below.refl _ _).alloc (Nat.le_refl _) _).trans (q.mono (by rw[zg];omega));clear q;generalize M:prX m.ex i=t at A z ⊢;have V:=zc M;clear M;go_wp2;go_ret;exact⟨za7 (by rw[V.o];exact z.o.symm),I.o⟩
 |false=>
  have z:Hid (zJ false (prX m.ex i)=prX m.ex i):=rfl;go_enter func162,ntmps162;go_wp2_with fail;refine (N.o i _ L O (K.o.alloc _) U.o).mono ?_;rintro e H ⟨rfl,q⟩;have I:Hid (Below w.heap.size w H):=((Below.refl _ _).alloc (Nat.le_refl _) _).trans (q.mono (by rw[zg];omega));clear q;go_wp2;go_ret;exact⟨za7 z.o.symm,I.o⟩
theorem zrc (g:Nat) (S:Sv) (m:Md) (i:Nat) (k h l r:Int) (J M:BA) (w:World) (q:S.ex.a=some ⟨g,0,none⟩) (V:i<m.ex.length) (I:g<w.heap.size) (U:w.cell? ⟨g,i*6,none⟩=some (.int .i64 k)) (X:w.cell? ⟨g,i*6+1,none⟩=some (.int .i64 h)) (O:w.cell? ⟨g,i*6+2,none⟩=some (.string J)) (c3:w.cell? ⟨g,i*6+3,none⟩=some (.string M)) (c4:w.cell? ⟨g,i*6+4,none⟩=some (.int .i64 l)) (c5:w.cell? ⟨g,i*6+5,none⟩=some (.int .i64 r)) (N:(k==1)=true) (z: -9223372036854775808<=h/\h<=9223372036854775807):
  Calls prog 125 #[zl S m,.int .i64 i] w fun e w'=>e= .returned (.string (strOfNums (zbW h)))/\Below w.heap.size w w':=by
 have L:(i:Int)<(m.ex.length:Int):=by omega
 unfold zl;rw[q];clear q;go_enter func125,ntmps125;go_wp2_with fail;refine (zrb h _ z).mono ?_;rintro e H ⟨rfl,A⟩;have K:Hid (Below w.heap.size w H):=(zbe w _ _).trans (A.mono (by rw[zg,zg];omega));clear A;go_wp2;go_ret;exact⟨rfl,K.o⟩
theorem zrd (g:Nat) (S:Sv) (m:Md) (i:Nat) (k A l r:Int) (q I:BA) (w:World) (h:S.ex.a=some ⟨g,0,none⟩) (N:i<m.ex.length) (z:g<w.heap.size) (M:w.cell? ⟨g,i*6,none⟩=some (.int .i64 k)) (O:w.cell? ⟨g,i*6+1,none⟩=some (.int .i64 A)) (K:w.cell? ⟨g,i*6+2,none⟩=some (.string q)) (c3:w.cell? ⟨g,i*6+3,none⟩=some (.string I)) (c4:w.cell? ⟨g,i*6+4,none⟩=some (.int .i64 l)) (c5:w.cell? ⟨g,i*6+5,none⟩=some (.int .i64 r)) (J:(k==1)=false) (L:(k==2)=true):
  Calls prog 125 #[zl S m,.int .i64 i] w fun e w'=>e= .returned (.string (q))/\Below w.heap.size w w':=by
 have H:(i:Int)<(m.ex.length:Int):=by omega
 unfold zl;rw[h];clear h;go_enter func125,ntmps125;go_wp2;go_ret;exact⟨rfl,((Below.refl _ _).alloc (Nat.le_refl _) _).alloc (by show _<=(w.heap.push _).size;simp) _⟩
theorem zre (g:Nat) (S:Sv) (m:Md) (i:Nat) (k J l r:Int) (z I:BA) (w:World) (h:S.ex.a=some ⟨g,0,none⟩) (Y:i<m.ex.length) (H:g<w.heap.size) (X:w.cell? ⟨g,i*6,none⟩=some (.int .i64 k)) (V:w.cell? ⟨g,i*6+1,none⟩=some (.int .i64 J)) (N:w.cell? ⟨g,i*6+2,none⟩=some (.string z)) (c3:w.cell? ⟨g,i*6+3,none⟩=some (.string I)) (c4:w.cell? ⟨g,i*6+4,none⟩=some (.int .i64 l)) (c5:w.cell? ⟨g,i*6+5,none⟩=some (.int .i64 r)) (M:(k==1)=false) (O:(k==2)=false) (U:(k==3)=true) (q:(z++cParens).size<=1099511627776):
  Calls prog 125 #[zl S m,.int .i64 i] w fun e w'=>e= .returned (.string (z++cParens))/\Below w.heap.size w w':=by
 have K:(i:Int)<(m.ex.length:Int):=by omega
 unfold zl;rw[h];clear h;simp only[ByteArray.size_append] at q;have A:cParens.size=2:=rfl;have L:z.size<=1099511627776:=by omega
 clear q A;go_enter func125,ntmps125;go_wp2;go_ret;exact⟨rfl,((Below.refl _ _).alloc (Nat.le_refl _) _).alloc (by show _<=(w.heap.push _).size;simp) _⟩
theorem zrf (g:Nat) (S:Sv) (m:Md) (i:Nat) (k J l r:Int) (z A:BA) (w:World) (q:S.ex.a=some ⟨g,0,none⟩) (X:i<m.ex.length) (I:g<w.heap.size) (c0:w.cell? ⟨g,i*6,none⟩=some (.int .i64 k)) (U:w.cell? ⟨g,i*6+1,none⟩=some (.int .i64 J)) (V:w.cell? ⟨g,i*6+2,none⟩=some (.string z)) (c3:w.cell? ⟨g,i*6+3,none⟩=some (.string A)) (c4:w.cell? ⟨g,i*6+4,none⟩=some (.int .i64 l)) (c5:w.cell? ⟨g,i*6+5,none⟩=some (.int .i64 r)) (N:(k==1)=false) (Y:(k==2)=false) (O:(k==3)=false) (Z:(k==4)=true) (h:(z++cPoint++A).size<=1099511627776):
  Calls prog 125 #[zl S m,.int .i64 i] w fun e w'=>e= .returned (.string (z++cPoint++A))/\Below w.heap.size w w':=by
 have K:(i:Int)<(m.ex.length:Int):=by omega
 unfold zl;rw[q];clear q;simp only[ByteArray.size_append] at h;have H:cPoint.size=1:=rfl;have L:z.size<=1099511627776:=by omega
 have M:A.size<=1099511627776:=by omega
 clear h H;go_enter func125,ntmps125;go_wp2;go_ret;exact⟨rfl,((Below.refl _ _).alloc (Nat.le_refl _) _).alloc (by show _<=(w.heap.push _).size;simp) _⟩
theorem zrg (g:Nat) (S:Sv) (m:Md) (i:Nat) (k K l r:Int) (z A:BA) (w:World) (q:S.ex.a=some ⟨g,0,none⟩) (Z:i<m.ex.length) (J:g<w.heap.size) (c0:w.cell? ⟨g,i*6,none⟩=some (.int .i64 k)) (X:w.cell? ⟨g,i*6+1,none⟩=some (.int .i64 K)) (Y:w.cell? ⟨g,i*6+2,none⟩=some (.string z)) (c3:w.cell? ⟨g,i*6+3,none⟩=some (.string A)) (c4:w.cell? ⟨g,i*6+4,none⟩=some (.int .i64 l)) (c5:w.cell? ⟨g,i*6+5,none⟩=some (.int .i64 r)) (O:(k==1)=false) (k2:(k==2)=false) (U:(k==3)=false) (k4:(k==4)=false) (V:(k==5)=true) (h:(z++cPoint++A++cParens).size<=1099511627776):
  Calls prog 125 #[zl S m,.int .i64 i] w fun e w'=>e= .returned (.string (z++cPoint++A++cParens))/\Below w.heap.size w w':=by
 have L:(i:Int)<(m.ex.length:Int):=by omega
 unfold zl;rw[q];clear q;simp only[ByteArray.size_append] at h;have I:cParens.size=2:=rfl;have H:cPoint.size=1:=rfl;have M:z.size<=1099511627776:=by omega
 have N:A.size<=1099511627776:=by omega
 clear h I H;go_enter func125,ntmps125;go_wp2;go_ret;exact⟨rfl,((Below.refl _ _).alloc (Nat.le_refl _) _).alloc (by show _<=(w.heap.push _).size;simp) _⟩
theorem zrh (g:Nat) (S:Sv) (m:Md) (i:Nat) (k A l r:Int) (z I:BA) (w:World) (h:S.ex.a=some ⟨g,0,none⟩) (X:i<m.ex.length) (q:g<w.heap.size) (c0:w.cell? ⟨g,i*6,none⟩=some (.int .i64 k)) (O:w.cell? ⟨g,i*6+1,none⟩=some (.int .i64 A)) (U:w.cell? ⟨g,i*6+2,none⟩=some (.string z)) (c3:w.cell? ⟨g,i*6+3,none⟩=some (.string I)) (c4:w.cell? ⟨g,i*6+4,none⟩=some (.int .i64 l)) (c5:w.cell? ⟨g,i*6+5,none⟩=some (.int .i64 r)) (J:(k==1)=false) (Y:(k==2)=false) (M:(k==3)=false) (Z:(k==4)=false) (N:(k==5)=false) (V:(k==6)=false) (L:(k==7)=false) (K:(k==8)=false):
  Calls prog 125 #[zl S m,.int .i64 i] w fun e w'=>e= .returned (.string (sNone))/\Below w.heap.size w w':=by
 have H:(i:Int)<(m.ex.length:Int):=by omega
 unfold zl;rw[h];clear h;go_enter func125,ntmps125;go_wp2;go_ret;exact⟨rfl,((Below.refl _ _).alloc (Nat.le_refl _) _).alloc (by show _<=(w.heap.push _).size;simp) _⟩
theorem zri (base g:Nat) (S:Sv) (m:Md) (i z q:Nat) (k H:Int) (A I:BA) (w:World) (M:S.ex.a=some ⟨g,0,none⟩) (h:OwnMd w base S m) (hi:i<m.ex.length) (ad:g<w.heap.size) (c0:w.cell? ⟨g,i*6,none⟩=some (.int .i64 k)) (c1:w.cell? ⟨g,i*6+1,none⟩=some (.int .i64 H)) (c2:w.cell? ⟨g,i*6+2,none⟩=some (.string A)) (c3:w.cell? ⟨g,i*6+3,none⟩=some (.string I)) (c4:w.cell? ⟨g,i*6+4,none⟩=some (.int .i64 (z:Int))) (c5:w.cell? ⟨g,i*6+5,none⟩=some (.int .i64 (q:Int))) (k1:(k==1)=false) (k2:(k==2)=false) (k3:(k==3)=false) (k4:(k==4)=false) (k5:(k==5)=false) (k6:(k==6)=true) (Z:(prX m.ex z++tPlus++zJ (zQ (m.ex.getD q zh).kind) (prX m.ex q)).size<=1099511627776) (he:zeT base S m i) (hl:z<i) (hr:q<i) (af:wt m.ex z<=1099511627776) (ai:wt m.ex q<=1099511627776):
  Calls prog 125 #[zl S m,.int .i64 i] w fun e w'=>e= .returned (.string (prX m.ex z++tPlus++zJ (zQ (m.ex.getD q zh).kind) (prX m.ex q)))/\Below w.heap.size w w':=by
 have am:(i:Int)<(m.ex.length:Int):=by omega
 have HA:Hid (OwnMd ((w.alloc (.cells #[.slice S.rq.a m.rq.length S.rq.cap,.slice S.im.a m.im.length S.im.cap,.slice S.ep.a m.ep.length S.ep.cap,.slice S.st.a m.st.length S.st.cap,.slice (some ⟨g,0,none⟩) m.ex.length S.ex.cap] 54)).alloc (.cells #[.int .i64 k,.int .i64 H,.string A,.string I,.int .i64 (z:Int),.int .i64 (q:Int)] 100)) base S m):=(h.alloc _).alloc _;have HE:=zc he;have L:Hid (zl S m= .agg #[.slice S.rq.a m.rq.length S.rq.cap,.slice S.im.a m.im.length S.im.cap,.slice S.ep.a m.ep.length S.ep.cap,.slice S.st.a m.st.length S.st.cap,.slice (some ⟨g,0,none⟩) m.ex.length S.ex.cap]):=by show _=_;rw[zl,M]
 have an:(z:Int)<(m.ex.length:Int):=by omega
 have ao:(q:Int)<(m.ex.length:Int):=by omega
 obtain⟨g2,hg2,-,d0,-,-,-,-,-⟩:=h.expr (i:=q) (by omega);have eg:g2=g:=by have:=hg2.symm.trans M;simpa using this
 rw[eg] at d0;obtain⟨kr,U⟩: ∃kr,(m.ex.getD q zh).kind=kr:=⟨_,rfl⟩;rw[U] at d0;have O:=zc U;obtain⟨tl,V⟩: ∃tl,prX m.ex z=tl:=⟨_,rfl⟩;obtain⟨tr,ab⟩: ∃tr,zJ (zQ (m.ex.getD q zh).kind) (prX m.ex q)=tr:=⟨_,rfl⟩;rw[V,ab] at Z;have ac:=zc V;have aa:=zc ab;have cL: ∀d J,Calls prog 125 #[.agg #[.slice S.rq.a m.rq.length S.rq.cap,.slice S.im.a m.im.length S.im.cap,.slice S.ep.a m.ep.length S.ep.cap,.slice S.st.a m.st.length S.st.cap,.slice (some ⟨g,0,none⟩) m.ex.length S.ex.cap],.int .i64 (z:Int)] (grow (redrawn ((w.alloc (.cells #[.slice S.rq.a m.rq.length S.rq.cap,.slice S.im.a m.im.length S.im.cap,.slice S.ep.a m.ep.length S.ep.cap,.slice S.st.a m.st.length S.st.cap,.slice (some ⟨g,0,none⟩) m.ex.length S.ex.cap] 54)).alloc (.cells #[.int .i64 k,.int .i64 H,.string A,.string I,.int .i64 (z:Int),.int .i64 (q:Int)] 100)) d) J) fun e K=>e= .returned (.string tl)/\∃p:Regrown,K=grow (redrawn ((w.alloc (.cells #[.slice S.rq.a m.rq.length S.rq.cap,.slice S.im.a m.im.length S.im.cap,.slice S.ep.a m.ep.length S.ep.cap,.slice S.st.a m.st.length S.st.cap,.slice (some ⟨g,0,none⟩) m.ex.length S.ex.cap] 54)).alloc (.cells #[.int .i64 k,.int .i64 H,.string A,.string I,.int .i64 (z:Int),.int .i64 (q:Int)] 100)) p.d) p.os:=fun d J=>Calls.regrown_of (by rw[<-L.o,<-ac.o];exact HE.o z _ (by omega) (by omega) (HA.o.later (below_regrown _ d J)) af);have cS: ∀d J,Calls prog 163 #[.agg #[.slice S.rq.a m.rq.length S.rq.cap,.slice S.im.a m.im.length S.im.cap,.slice S.ep.a m.ep.length S.ep.cap,.slice S.st.a m.st.length S.st.cap,.slice (some ⟨g,0,none⟩) m.ex.length S.ex.cap],.int .i64 (q:Int)] (grow (redrawn ((w.alloc (.cells #[.slice S.rq.a m.rq.length S.rq.cap,.slice S.im.a m.im.length S.im.cap,.slice S.ep.a m.ep.length S.ep.cap,.slice S.st.a m.st.length S.st.cap,.slice (some ⟨g,0,none⟩) m.ex.length S.ex.cap] 54)).alloc (.cells #[.int .i64 k,.int .i64 H,.string A,.string I,.int .i64 (z:Int),.int .i64 (q:Int)] 100)) d) J) fun e K=>e= .returned (.bool (zQ kr))/\∃p:Regrown,K=grow (redrawn ((w.alloc (.cells #[.slice S.rq.a m.rq.length S.rq.cap,.slice S.im.a m.im.length S.im.cap,.slice S.ep.a m.ep.length S.ep.cap,.slice S.st.a m.st.length S.st.cap,.slice (some ⟨g,0,none⟩) m.ex.length S.ex.cap] 54)).alloc (.cells #[.int .i64 k,.int .i64 H,.string A,.string I,.int .i64 (z:Int),.int .i64 (q:Int)] 100)) p.d) p.os:=fun d J=>Calls.regrown_of (by rw[<-L.o,<-O.o];exact zid base S m q _ (HA.o.later (below_regrown _ d J)) (by omega));have cR: ∀d J,Calls prog 162 #[.agg #[.slice S.rq.a m.rq.length S.rq.cap,.slice S.im.a m.im.length S.im.cap,.slice S.ep.a m.ep.length S.ep.cap,.slice S.st.a m.st.length S.st.cap,.slice (some ⟨g,0,none⟩) m.ex.length S.ex.cap],.int .i64 (q:Int),.bool (zQ kr)] (grow (redrawn ((w.alloc (.cells #[.slice S.rq.a m.rq.length S.rq.cap,.slice S.im.a m.im.length S.im.cap,.slice S.ep.a m.ep.length S.ep.cap,.slice S.st.a m.st.length S.st.cap,.slice (some ⟨g,0,none⟩) m.ex.length S.ex.cap] 54)).alloc (.cells #[.int .i64 k,.int .i64 H,.string A,.string I,.int .i64 (z:Int),.int .i64 (q:Int)] 100)) d) J) fun e K=>e= .returned (.string tr)/\∃p:Regrown,K=grow (redrawn ((w.alloc (.cells #[.slice S.rq.a m.rq.length S.rq.cap,.slice S.im.a m.im.length S.im.cap,.slice S.ep.a m.ep.length S.ep.cap,.slice S.st.a m.st.length S.st.cap,.slice (some ⟨g,0,none⟩) m.ex.length S.ex.cap] 54)).alloc (.cells #[.int .i64 k,.int .i64 H,.string A,.string I,.int .i64 (z:Int),.int .i64 (q:Int)] 100)) p.d) p.os:=fun d J=>Calls.regrown_of (by rw[<-L.o,<-aa.o,O.o];exact zgE base S m i q _ _ HE.o (by omega) (by omega) (HA.o.later (below_regrown _ d J)) ai);have X:Hid (Six ((w.alloc (.cells #[.slice S.rq.a m.rq.length S.rq.cap,.slice S.im.a m.im.length S.im.cap,.slice S.ep.a m.ep.length S.ep.cap,.slice S.st.a m.st.length S.st.cap,.slice (some ⟨g,0,none⟩) m.ex.length S.ex.cap] 54)).alloc (.cells #[.int .i64 k,.int .i64 H,.string A,.string I,.int .i64 (z:Int),.int .i64 (q:Int)] 100)) (w.heap.size+1) (.int .i64 k) (.int .i64 H) (.string A) (.string I) (.int .i64 (z:Int)) (.int .i64 (q:Int))):=zw (new2 w _ _);have Y:=zc (zj (zcE (o':=.cells #[.int .i64 k,.int .i64 H,.string A,.string I,.int .i64 (z:Int),.int .i64 (q:Int)] 100) (heap_alloc_new w (.cells #[.slice S.rq.a m.rq.length S.rq.cap,.slice S.im.a m.im.length S.im.cap,.slice S.ep.a m.ep.length S.ep.cap,.slice S.st.a m.st.length S.st.cap,.slice (some ⟨g,0,none⟩) m.ex.length S.ex.cap] 54))));have D0:Hid (((w.alloc (.cells #[.slice S.rq.a m.rq.length S.rq.cap,.slice S.im.a m.im.length S.im.cap,.slice S.ep.a m.ep.length S.ep.cap,.slice S.st.a m.st.length S.st.cap,.slice (some ⟨g,0,none⟩) m.ex.length S.ex.cap] 54)).alloc (.cells #[.int .i64 k,.int .i64 H,.string A,.string I,.int .i64 (z:Int),.int .i64 (q:Int)] 100)).cell? ⟨g,q*6,none⟩=some (.int .i64 kr)):=by show _=_;rw[World.cell?_alloc_past _ _ _ (by rw[zg];omega),World.cell?_alloc_past _ _ _ ad];exact d0
 simp only[ByteArray.size_append] at Z;have ag:tPlus.size=3:=rfl;have ak:tl.size<=1099511627776:=by omega
 have al:tr.size<=1099511627776:=by omega
 have HV:Hid ((prX m.ex z++tPlus++zJ (zQ (m.ex.getD q zh).kind) (prX m.ex q))=tl++tPlus++tr):=by show _=_;rw[ac.o,aa.o]
 unfold zl;rw[M];clear M h HA HE L ac aa V ab U O hg2 he Z ag d0 eg;go_enter func125,ntmps125;go_wp2_with fail;have x0:=cell_regrown X.o.c0;have x4:=cell_regrown X.o.c4;have x5:=cell_regrown X.o.c5;have y0:=cell_regrown Y.o.1;have y1:=cell_regrown Y.o.2.1;have y2:=cell_regrown Y.o.2.2.1;have y3:=cell_regrown Y.o.2.2.2.1;have y4:=cell_regrown Y.o.2.2.2.2.1;have e0:=cell_regrown D0.o;refine wp_region_quiet_below (by kernel_rfl) (by kernel_rfl) ?_
 repeat (go_big_quiet_step (first|with_reducible exact cL _ _|with_reducible exact cS _ _|with_reducible exact cR _ _))
 refine wpQuiet_nil ?_;intro w1 ae;obtain⟨⟨dq,aj⟩,N⟩:=ae;have ah:Hid (Below w.heap.size w w1):=by show Below _ _ _;rw[N];exact (zbe w _ _).trans ((below_regrown _ _ _).mono (by rw[zg,zg];omega))
 clear N;go_wp2;go_ret;exact⟨za7 HV.o.symm,ah.o⟩
theorem zrj (base g:Nat) (S:Sv) (m:Md) (i z q:Nat) (k H:Int) (A I:BA) (w:World) (M:S.ex.a=some ⟨g,0,none⟩) (h:OwnMd w base S m) (hi:i<m.ex.length) (ad:g<w.heap.size) (c0:w.cell? ⟨g,i*6,none⟩=some (.int .i64 k)) (c1:w.cell? ⟨g,i*6+1,none⟩=some (.int .i64 H)) (c2:w.cell? ⟨g,i*6+2,none⟩=some (.string A)) (c3:w.cell? ⟨g,i*6+3,none⟩=some (.string I)) (c4:w.cell? ⟨g,i*6+4,none⟩=some (.int .i64 (z:Int))) (c5:w.cell? ⟨g,i*6+5,none⟩=some (.int .i64 (q:Int))) (k1:(k==1)=false) (k2:(k==2)=false) (k3:(k==3)=false) (k4:(k==4)=false) (k5:(k==5)=false) (k6:(k==6)=false) (k7:(k==7)=true) (Z:(prX m.ex z++tMinus++zJ (zQ (m.ex.getD q zh).kind) (prX m.ex q)).size<=1099511627776) (he:zeT base S m i) (hl:z<i) (hr:q<i) (af:wt m.ex z<=1099511627776) (ai:wt m.ex q<=1099511627776):
  Calls prog 125 #[zl S m,.int .i64 i] w fun e w'=>e= .returned (.string (prX m.ex z++tMinus++zJ (zQ (m.ex.getD q zh).kind) (prX m.ex q)))/\Below w.heap.size w w':=by
 have am:(i:Int)<(m.ex.length:Int):=by omega
 have HA:Hid (OwnMd ((w.alloc (.cells #[.slice S.rq.a m.rq.length S.rq.cap,.slice S.im.a m.im.length S.im.cap,.slice S.ep.a m.ep.length S.ep.cap,.slice S.st.a m.st.length S.st.cap,.slice (some ⟨g,0,none⟩) m.ex.length S.ex.cap] 54)).alloc (.cells #[.int .i64 k,.int .i64 H,.string A,.string I,.int .i64 (z:Int),.int .i64 (q:Int)] 100)) base S m):=(h.alloc _).alloc _;have HE:=zc he;have L:Hid (zl S m= .agg #[.slice S.rq.a m.rq.length S.rq.cap,.slice S.im.a m.im.length S.im.cap,.slice S.ep.a m.ep.length S.ep.cap,.slice S.st.a m.st.length S.st.cap,.slice (some ⟨g,0,none⟩) m.ex.length S.ex.cap]):=by show _=_;rw[zl,M]
 have an:(z:Int)<(m.ex.length:Int):=by omega
 have ao:(q:Int)<(m.ex.length:Int):=by omega
 obtain⟨g2,hg2,-,d0,-,-,-,-,-⟩:=h.expr (i:=q) (by omega);have eg:g2=g:=by have:=hg2.symm.trans M;simpa using this
 rw[eg] at d0;obtain⟨kr,U⟩: ∃kr,(m.ex.getD q zh).kind=kr:=⟨_,rfl⟩;rw[U] at d0;have O:=zc U;obtain⟨tl,V⟩: ∃tl,prX m.ex z=tl:=⟨_,rfl⟩;obtain⟨tr,ab⟩: ∃tr,zJ (zQ (m.ex.getD q zh).kind) (prX m.ex q)=tr:=⟨_,rfl⟩;rw[V,ab] at Z;have ac:=zc V;have aa:=zc ab;have cL: ∀d J,Calls prog 125 #[.agg #[.slice S.rq.a m.rq.length S.rq.cap,.slice S.im.a m.im.length S.im.cap,.slice S.ep.a m.ep.length S.ep.cap,.slice S.st.a m.st.length S.st.cap,.slice (some ⟨g,0,none⟩) m.ex.length S.ex.cap],.int .i64 (z:Int)] (grow (redrawn ((w.alloc (.cells #[.slice S.rq.a m.rq.length S.rq.cap,.slice S.im.a m.im.length S.im.cap,.slice S.ep.a m.ep.length S.ep.cap,.slice S.st.a m.st.length S.st.cap,.slice (some ⟨g,0,none⟩) m.ex.length S.ex.cap] 54)).alloc (.cells #[.int .i64 k,.int .i64 H,.string A,.string I,.int .i64 (z:Int),.int .i64 (q:Int)] 100)) d) J) fun e K=>e= .returned (.string tl)/\∃p:Regrown,K=grow (redrawn ((w.alloc (.cells #[.slice S.rq.a m.rq.length S.rq.cap,.slice S.im.a m.im.length S.im.cap,.slice S.ep.a m.ep.length S.ep.cap,.slice S.st.a m.st.length S.st.cap,.slice (some ⟨g,0,none⟩) m.ex.length S.ex.cap] 54)).alloc (.cells #[.int .i64 k,.int .i64 H,.string A,.string I,.int .i64 (z:Int),.int .i64 (q:Int)] 100)) p.d) p.os:=fun d J=>Calls.regrown_of (by rw[<-L.o,<-ac.o];exact HE.o z _ (by omega) (by omega) (HA.o.later (below_regrown _ d J)) af);have cS: ∀d J,Calls prog 163 #[.agg #[.slice S.rq.a m.rq.length S.rq.cap,.slice S.im.a m.im.length S.im.cap,.slice S.ep.a m.ep.length S.ep.cap,.slice S.st.a m.st.length S.st.cap,.slice (some ⟨g,0,none⟩) m.ex.length S.ex.cap],.int .i64 (q:Int)] (grow (redrawn ((w.alloc (.cells #[.slice S.rq.a m.rq.length S.rq.cap,.slice S.im.a m.im.length S.im.cap,.slice S.ep.a m.ep.length S.ep.cap,.slice S.st.a m.st.length S.st.cap,.slice (some ⟨g,0,none⟩) m.ex.length S.ex.cap] 54)).alloc (.cells #[.int .i64 k,.int .i64 H,.string A,.string I,.int .i64 (z:Int),.int .i64 (q:Int)] 100)) d) J) fun e K=>e= .returned (.bool (zQ kr))/\∃p:Regrown,K=grow (redrawn ((w.alloc (.cells #[.slice S.rq.a m.rq.length S.rq.cap,.slice S.im.a m.im.length S.im.cap,.slice S.ep.a m.ep.length S.ep.cap,.slice S.st.a m.st.length S.st.cap,.slice (some ⟨g,0,none⟩) m.ex.length S.ex.cap] 54)).alloc (.cells #[.int .i64 k,.int .i64 H,.string A,.string I,.int .i64 (z:Int),.int .i64 (q:Int)] 100)) p.d) p.os:=fun d J=>Calls.regrown_of (by rw[<-L.o,<-O.o];exact zid base S m q _ (HA.o.later (below_regrown _ d J)) (by omega));have cR: ∀d J,Calls prog 162 #[.agg #[.slice S.rq.a m.rq.length S.rq.cap,.slice S.im.a m.im.length S.im.cap,.slice S.ep.a m.ep.length S.ep.cap,.slice S.st.a m.st.length S.st.cap,.slice (some ⟨g,0,none⟩) m.ex.length S.ex.cap],.int .i64 (q:Int),.bool (zQ kr)] (grow (redrawn ((w.alloc (.cells #[.slice S.rq.a m.rq.length S.rq.cap,.slice S.im.a m.im.length S.im.cap,.slice S.ep.a m.ep.length S.ep.cap,.slice S.st.a m.st.length S.st.cap,.slice (some ⟨g,0,none⟩) m.ex.length S.ex.cap] 54)).alloc (.cells #[.int .i64 k,.int .i64 H,.string A,.string I,.int .i64 (z:Int),.int .i64 (q:Int)] 100)) d) J) fun e K=>e= .returned (.string tr)/\∃p:Regrown,K=grow (redrawn ((w.alloc (.cells #[.slice S.rq.a m.rq.length S.rq.cap,.slice S.im.a m.im.length S.im.cap,.slice S.ep.a m.ep.length S.ep.cap,.slice S.st.a m.st.length S.st.cap,.slice (some ⟨g,0,none⟩) m.ex.length S.ex.cap] 54)).alloc (.cells #[.int .i64 k,.int .i64 H,.string A,.string I,.int .i64 (z:Int),.int .i64 (q:Int)] 100)) p.d) p.os:=fun d J=>Calls.regrown_of (by rw[<-L.o,<-aa.o,O.o];exact zgE base S m i q _ _ HE.o (by omega) (by omega) (HA.o.later (below_regrown _ d J)) ai);have X:Hid (Six ((w.alloc (.cells #[.slice S.rq.a m.rq.length S.rq.cap,.slice S.im.a m.im.length S.im.cap,.slice S.ep.a m.ep.length S.ep.cap,.slice S.st.a m.st.length S.st.cap,.slice (some ⟨g,0,none⟩) m.ex.length S.ex.cap] 54)).alloc (.cells #[.int .i64 k,.int .i64 H,.string A,.string I,.int .i64 (z:Int),.int .i64 (q:Int)] 100)) (w.heap.size+1) (.int .i64 k) (.int .i64 H) (.string A) (.string I) (.int .i64 (z:Int)) (.int .i64 (q:Int))):=zw (new2 w _ _);have Y:=zc (zj (zcE (o':=.cells #[.int .i64 k,.int .i64 H,.string A,.string I,.int .i64 (z:Int),.int .i64 (q:Int)] 100) (heap_alloc_new w (.cells #[.slice S.rq.a m.rq.length S.rq.cap,.slice S.im.a m.im.length S.im.cap,.slice S.ep.a m.ep.length S.ep.cap,.slice S.st.a m.st.length S.st.cap,.slice (some ⟨g,0,none⟩) m.ex.length S.ex.cap] 54))));have D0:Hid (((w.alloc (.cells #[.slice S.rq.a m.rq.length S.rq.cap,.slice S.im.a m.im.length S.im.cap,.slice S.ep.a m.ep.length S.ep.cap,.slice S.st.a m.st.length S.st.cap,.slice (some ⟨g,0,none⟩) m.ex.length S.ex.cap] 54)).alloc (.cells #[.int .i64 k,.int .i64 H,.string A,.string I,.int .i64 (z:Int),.int .i64 (q:Int)] 100)).cell? ⟨g,q*6,none⟩=some (.int .i64 kr)):=by show _=_;rw[World.cell?_alloc_past _ _ _ (by rw[zg];omega),World.cell?_alloc_past _ _ _ ad];exact d0
 simp only[ByteArray.size_append] at Z;have ag:tMinus.size=3:=rfl;have ak:tl.size<=1099511627776:=by omega
 have al:tr.size<=1099511627776:=by omega
 have HV:Hid ((prX m.ex z++tMinus++zJ (zQ (m.ex.getD q zh).kind) (prX m.ex q))=tl++tMinus++tr):=by show _=_;rw[ac.o,aa.o]
 unfold zl;rw[M];clear M h HA HE L ac aa V ab U O hg2 he Z ag d0 eg;go_enter func125,ntmps125;go_wp2_with fail;have x0:=cell_regrown X.o.c0;have x4:=cell_regrown X.o.c4;have x5:=cell_regrown X.o.c5;have y0:=cell_regrown Y.o.1;have y1:=cell_regrown Y.o.2.1;have y2:=cell_regrown Y.o.2.2.1;have y3:=cell_regrown Y.o.2.2.2.1;have y4:=cell_regrown Y.o.2.2.2.2.1;have e0:=cell_regrown D0.o;refine wp_region_quiet_below (by kernel_rfl) (by kernel_rfl) ?_
 repeat (go_big_quiet_step (first|with_reducible exact cL _ _|with_reducible exact cS _ _|with_reducible exact cR _ _))
 refine wpQuiet_nil ?_;intro w1 ae;obtain⟨⟨dq,aj⟩,N⟩:=ae;have ah:Hid (Below w.heap.size w w1):=by show Below _ _ _;rw[N];exact (zbe w _ _).trans ((below_regrown _ _ _).mono (by rw[zg,zg];omega))
 clear N;go_wp2;go_ret;exact⟨za7 HV.o.symm,ah.o⟩
theorem zrk (base g:Nat) (S:Sv) (m:Md) (i z q:Nat) (k J:Int) (H K:BA) (w:World) (M:S.ex.a=some ⟨g,0,none⟩) (h:OwnMd w base S m) (hi:i<m.ex.length) (ae:g<w.heap.size) (c0:w.cell? ⟨g,i*6,none⟩=some (.int .i64 k)) (c1:w.cell? ⟨g,i*6+1,none⟩=some (.int .i64 J)) (c2:w.cell? ⟨g,i*6+2,none⟩=some (.string H)) (c3:w.cell? ⟨g,i*6+3,none⟩=some (.string K)) (c4:w.cell? ⟨g,i*6+4,none⟩=some (.int .i64 (z:Int))) (c5:w.cell? ⟨g,i*6+5,none⟩=some (.int .i64 (q:Int))) (k1:(k==1)=false) (k2:(k==2)=false) (k3:(k==3)=false) (k4:(k==4)=false) (k5:(k==5)=false) (k6:(k==6)=false) (k7:(k==7)=false) (k8:(k==8)=true) (Z:(zJ (zQ (m.ex.getD z zh).kind) (prX m.ex z)++tStar++zJ (zaa (m.ex.getD q zh).kind) (prX m.ex q)).size<=1099511627776) (he:zeT base S m i) (hl:z<i) (hr:q<i) (ag:wt m.ex z<=1099511627776) (aj:wt m.ex q<=1099511627776):
  Calls prog 125 #[zl S m,.int .i64 i] w fun e w'=>e= .returned (.string (zJ (zQ (m.ex.getD z zh).kind) (prX m.ex z)++tStar++zJ (zaa (m.ex.getD q zh).kind) (prX m.ex q)))/\Below w.heap.size w w':=by
 have an:(i:Int)<(m.ex.length:Int):=by omega
 have HA:Hid (OwnMd ((w.alloc (.cells #[.slice S.rq.a m.rq.length S.rq.cap,.slice S.im.a m.im.length S.im.cap,.slice S.ep.a m.ep.length S.ep.cap,.slice S.st.a m.st.length S.st.cap,.slice (some ⟨g,0,none⟩) m.ex.length S.ex.cap] 54)).alloc (.cells #[.int .i64 k,.int .i64 J,.string H,.string K,.int .i64 (z:Int),.int .i64 (q:Int)] 100)) base S m):=(h.alloc _).alloc _;have HE:=zc he;have L:Hid (zl S m= .agg #[.slice S.rq.a m.rq.length S.rq.cap,.slice S.im.a m.im.length S.im.cap,.slice S.ep.a m.ep.length S.ep.cap,.slice S.st.a m.st.length S.st.cap,.slice (some ⟨g,0,none⟩) m.ex.length S.ex.cap]):=by show _=_;rw[zl,M]
 have ao:(z:Int)<(m.ex.length:Int):=by omega
 have ap:(q:Int)<(m.ex.length:Int):=by omega
 obtain⟨g2,hg2,-,d0,-,-,-,-,-⟩:=h.expr (i:=q) (by omega);have eg:g2=g:=by have:=hg2.symm.trans M;simpa using this
 rw[eg] at d0;obtain⟨kr,U⟩: ∃kr,(m.ex.getD q zh).kind=kr:=⟨_,rfl⟩;rw[U] at d0;have ad:=zc U;obtain⟨tl,V⟩: ∃tl,zJ (zQ (m.ex.getD z zh).kind) (prX m.ex z)=tl:=⟨_,rfl⟩;obtain⟨tr,ab⟩: ∃tr,zJ (zaa (m.ex.getD q zh).kind) (prX m.ex q)=tr:=⟨_,rfl⟩;rw[V,ab] at Z;have ac:=zc V;have aa:=zc ab;obtain⟨kl,O⟩: ∃kl,(m.ex.getD z zh).kind=kl:=⟨_,rfl⟩;have cK: ∀d I,Calls prog 163 #[.agg #[.slice S.rq.a m.rq.length S.rq.cap,.slice S.im.a m.im.length S.im.cap,.slice S.ep.a m.ep.length S.ep.cap,.slice S.st.a m.st.length S.st.cap,.slice (some ⟨g,0,none⟩) m.ex.length S.ex.cap],.int .i64 (z:Int)] (grow (redrawn ((w.alloc (.cells #[.slice S.rq.a m.rq.length S.rq.cap,.slice S.im.a m.im.length S.im.cap,.slice S.ep.a m.ep.length S.ep.cap,.slice S.st.a m.st.length S.st.cap,.slice (some ⟨g,0,none⟩) m.ex.length S.ex.cap] 54)).alloc (.cells #[.int .i64 k,.int .i64 J,.string H,.string K,.int .i64 (z:Int),.int .i64 (q:Int)] 100)) d) I) fun e A=>e= .returned (.bool (zQ kl))/\∃p:Regrown,A=grow (redrawn ((w.alloc (.cells #[.slice S.rq.a m.rq.length S.rq.cap,.slice S.im.a m.im.length S.im.cap,.slice S.ep.a m.ep.length S.ep.cap,.slice S.st.a m.st.length S.st.cap,.slice (some ⟨g,0,none⟩) m.ex.length S.ex.cap] 54)).alloc (.cells #[.int .i64 k,.int .i64 J,.string H,.string K,.int .i64 (z:Int),.int .i64 (q:Int)] 100)) p.d) p.os:=fun d I=>Calls.regrown_of (by rw[<-L.o,<-O];exact zid base S m z _ (HA.o.later (below_regrown _ d I)) (by omega));have cL: ∀d I,Calls prog 162 #[.agg #[.slice S.rq.a m.rq.length S.rq.cap,.slice S.im.a m.im.length S.im.cap,.slice S.ep.a m.ep.length S.ep.cap,.slice S.st.a m.st.length S.st.cap,.slice (some ⟨g,0,none⟩) m.ex.length S.ex.cap],.int .i64 (z:Int),.bool (zQ kl)] (grow (redrawn ((w.alloc (.cells #[.slice S.rq.a m.rq.length S.rq.cap,.slice S.im.a m.im.length S.im.cap,.slice S.ep.a m.ep.length S.ep.cap,.slice S.st.a m.st.length S.st.cap,.slice (some ⟨g,0,none⟩) m.ex.length S.ex.cap] 54)).alloc (.cells #[.int .i64 k,.int .i64 J,.string H,.string K,.int .i64 (z:Int),.int .i64 (q:Int)] 100)) d) I) fun e A=>e= .returned (.string tl)/\∃p:Regrown,A=grow (redrawn ((w.alloc (.cells #[.slice S.rq.a m.rq.length S.rq.cap,.slice S.im.a m.im.length S.im.cap,.slice S.ep.a m.ep.length S.ep.cap,.slice S.st.a m.st.length S.st.cap,.slice (some ⟨g,0,none⟩) m.ex.length S.ex.cap] 54)).alloc (.cells #[.int .i64 k,.int .i64 J,.string H,.string K,.int .i64 (z:Int),.int .i64 (q:Int)] 100)) p.d) p.os:=fun d I=>Calls.regrown_of (by rw[<-L.o,<-ac.o,O];exact zgE base S m i z _ _ HE.o (by omega) (by omega) (HA.o.later (below_regrown _ d I)) ag);have cS: ∀d I,Calls prog 123 #[.int .i64 kr] (grow (redrawn ((w.alloc (.cells #[.slice S.rq.a m.rq.length S.rq.cap,.slice S.im.a m.im.length S.im.cap,.slice S.ep.a m.ep.length S.ep.cap,.slice S.st.a m.st.length S.st.cap,.slice (some ⟨g,0,none⟩) m.ex.length S.ex.cap] 54)).alloc (.cells #[.int .i64 k,.int .i64 J,.string H,.string K,.int .i64 (z:Int),.int .i64 (q:Int)] 100)) d) I) fun e A=>e= .returned (.bool (zaa kr))/\∃p:Regrown,A=grow (redrawn ((w.alloc (.cells #[.slice S.rq.a m.rq.length S.rq.cap,.slice S.im.a m.im.length S.im.cap,.slice S.ep.a m.ep.length S.ep.cap,.slice S.st.a m.st.length S.st.cap,.slice (some ⟨g,0,none⟩) m.ex.length S.ex.cap] 54)).alloc (.cells #[.int .i64 k,.int .i64 J,.string H,.string K,.int .i64 (z:Int),.int .i64 (q:Int)] 100)) p.d) p.os:=fun d I=>Calls.regrown_of ((zkN kr _).mono (by rintro e w' ⟨rfl,rfl⟩;exact⟨rfl,Below.refl _ _⟩));have cR: ∀d I,Calls prog 162 #[.agg #[.slice S.rq.a m.rq.length S.rq.cap,.slice S.im.a m.im.length S.im.cap,.slice S.ep.a m.ep.length S.ep.cap,.slice S.st.a m.st.length S.st.cap,.slice (some ⟨g,0,none⟩) m.ex.length S.ex.cap],.int .i64 (q:Int),.bool (zaa kr)] (grow (redrawn ((w.alloc (.cells #[.slice S.rq.a m.rq.length S.rq.cap,.slice S.im.a m.im.length S.im.cap,.slice S.ep.a m.ep.length S.ep.cap,.slice S.st.a m.st.length S.st.cap,.slice (some ⟨g,0,none⟩) m.ex.length S.ex.cap] 54)).alloc (.cells #[.int .i64 k,.int .i64 J,.string H,.string K,.int .i64 (z:Int),.int .i64 (q:Int)] 100)) d) I) fun e A=>e= .returned (.string tr)/\∃p:Regrown,A=grow (redrawn ((w.alloc (.cells #[.slice S.rq.a m.rq.length S.rq.cap,.slice S.im.a m.im.length S.im.cap,.slice S.ep.a m.ep.length S.ep.cap,.slice S.st.a m.st.length S.st.cap,.slice (some ⟨g,0,none⟩) m.ex.length S.ex.cap] 54)).alloc (.cells #[.int .i64 k,.int .i64 J,.string H,.string K,.int .i64 (z:Int),.int .i64 (q:Int)] 100)) p.d) p.os:=fun d I=>Calls.regrown_of (by rw[<-L.o,<-aa.o,ad.o];exact zgE base S m i q _ _ HE.o (by omega) (by omega) (HA.o.later (below_regrown _ d I)) aj);have X:Hid (Six ((w.alloc (.cells #[.slice S.rq.a m.rq.length S.rq.cap,.slice S.im.a m.im.length S.im.cap,.slice S.ep.a m.ep.length S.ep.cap,.slice S.st.a m.st.length S.st.cap,.slice (some ⟨g,0,none⟩) m.ex.length S.ex.cap] 54)).alloc (.cells #[.int .i64 k,.int .i64 J,.string H,.string K,.int .i64 (z:Int),.int .i64 (q:Int)] 100)) (w.heap.size+1) (.int .i64 k) (.int .i64 J) (.string H) (.string K) (.int .i64 (z:Int)) (.int .i64 (q:Int))):=zw (new2 w _ _);have Y:=zc (zj (zcE (o':=.cells #[.int .i64 k,.int .i64 J,.string H,.string K,.int .i64 (z:Int),.int .i64 (q:Int)] 100) (heap_alloc_new w (.cells #[.slice S.rq.a m.rq.length S.rq.cap,.slice S.im.a m.im.length S.im.cap,.slice S.ep.a m.ep.length S.ep.cap,.slice S.st.a m.st.length S.st.cap,.slice (some ⟨g,0,none⟩) m.ex.length S.ex.cap] 54))));have D0:Hid (((w.alloc (.cells #[.slice S.rq.a m.rq.length S.rq.cap,.slice S.im.a m.im.length S.im.cap,.slice S.ep.a m.ep.length S.ep.cap,.slice S.st.a m.st.length S.st.cap,.slice (some ⟨g,0,none⟩) m.ex.length S.ex.cap] 54)).alloc (.cells #[.int .i64 k,.int .i64 J,.string H,.string K,.int .i64 (z:Int),.int .i64 (q:Int)] 100)).cell? ⟨g,q*6,none⟩=some (.int .i64 kr)):=by show _=_;rw[World.cell?_alloc_past _ _ _ (by rw[zg];omega),World.cell?_alloc_past _ _ _ ae];exact d0
 simp only[ByteArray.size_append] at Z;have ah:tStar.size=3:=rfl;have al:tl.size<=1099511627776:=by omega
 have am:tr.size<=1099511627776:=by omega
 have HV:Hid ((zJ (zQ (m.ex.getD z zh).kind) (prX m.ex z)++tStar++zJ (zaa (m.ex.getD q zh).kind) (prX m.ex q))=tl++tStar++tr):=by show _=_;rw[ac.o,aa.o]
 unfold zl;rw[M];clear M h HA HE L ac aa V ab U ad hg2 he Z ah d0 eg O;go_enter func125,ntmps125;go_wp2_with fail;have x0:=cell_regrown X.o.c0;have x4:=cell_regrown X.o.c4;have x5:=cell_regrown X.o.c5;have y0:=cell_regrown Y.o.1;have y1:=cell_regrown Y.o.2.1;have y2:=cell_regrown Y.o.2.2.1;have y3:=cell_regrown Y.o.2.2.2.1;have y4:=cell_regrown Y.o.2.2.2.2.1;have e0:=cell_regrown D0.o;refine wp_region_quiet_below (by kernel_rfl) (by kernel_rfl) ?_
 repeat (go_big_quiet_step (first|with_reducible exact cL _ _|with_reducible exact cS _ _|with_reducible exact cR _ _|with_reducible exact cK _ _))
 refine wpQuiet_nil ?_;intro w1 af;obtain⟨⟨dq,ak⟩,N⟩:=af;have ai:Hid (Below w.heap.size w w1):=by show Below _ _ _;rw[N];exact (zbe w _ _).trans ((below_regrown _ _ _).mono (by rw[zg,zg];omega))
 clear N;go_wp2;go_ret;exact⟨za7 HV.o.symm,ai.o⟩
theorem zgF (b:Bool) (t:BA):t.size<=(zJ b t).size:=by
 unfold zJ
 split
 ·rw[ByteArray.size_append,ByteArray.size_append];omega
 ·exact Nat.le_refl _
theorem zrl (base:Nat) (S:Sv) (m:Md) (hn:zaW m.ex) (ha:zb4 m.ex) (n:Nat):zeT base S m n:=by
 induction n with
 |zero=>intro i w H;omega
 |succ n ih=>
  intro i w ac H h q;by_cases aa:i<n
  ·exact ih i w aa H h q
  ·have he:zeT base S m i:=by
    have:i=n:=by omega
    rw[this];exact ih
   obtain⟨g,A,z,X,M,O,U,N,V⟩:=h.expr H;have ab:=hn (m.ex.getD i zh) (by rw[zed H];exact List.getElem_mem H);have Z:=zgd ha (i:=i);unfold wt at q;rw[zhu ha] at q ⊢;generalize m.ex.getD i zh=x at*;by_cases I:(x.kind==1)=true
   ·rw[if_pos I];exact zrc g S m i _ _ _ _ _ _ w A H z X M O U N V I ab
   rw[if_neg I] at q ⊢;by_cases K:(x.kind==2)=true
   ·rw[if_pos K];exact zrd g S m i _ _ _ _ _ _ w A H z X M O U N V (by simpa using I) K
   rw[if_neg K] at q ⊢;by_cases L:(x.kind==3)=true
   ·rw[if_pos L] at q ⊢;exact zre g S m i _ _ _ _ _ _ w A H z X M O U N V (by simpa using I) (by simpa using K) L q
   rw[if_neg L] at q ⊢;by_cases Y:(x.kind==4)=true
   ·rw[if_pos Y] at q ⊢;exact zrf g S m i _ _ _ _ _ _ w A H z X M O U N V (by simpa using I) (by simpa using K) (by simpa using L) Y q
   rw[if_neg Y] at q ⊢;by_cases k5:(x.kind==5)=true
   ·rw[if_pos k5] at q ⊢;exact zrg g S m i _ _ _ _ _ _ w A H z X M O U N V (by simpa using I) (by simpa using K) (by simpa using L) (by simpa using Y) k5 q
   rw[if_neg k5] at q ⊢;by_cases k6:(x.kind==6)=true
   ·rw[if_pos k6] at q ⊢;obtain⟨h1,h2,h3,h4⟩:=Z (zbH (.inl k6));have J:=q;rw[ByteArray.size_append,ByteArray.size_append] at J;have s2:=zgF (zQ (m.ex.getD x.r.toNat zh).kind) (prX m.ex x.r.toNat);exact zri base g S m i x.l.toNat x.r.toNat _ _ _ _ w A h H z X M O U (by rw[N,Int.toNat_of_nonneg h1]) (by rw[V,Int.toNat_of_nonneg h3]) (by simpa using I) (by simpa using K) (by simpa using L) (by simpa using Y) (by simpa using k5) k6 q he (by omega) (by omega) (by unfold wt;omega) (by unfold wt;omega)
   rw[if_neg k6] at q ⊢;by_cases k7:(x.kind==7)=true
   ·rw[if_pos k7] at q ⊢;obtain⟨h1,h2,h3,h4⟩:=Z (zbH (.inr (.inl k7)));have J:=q;rw[ByteArray.size_append,ByteArray.size_append] at J;have s2:=zgF (zQ (m.ex.getD x.r.toNat zh).kind) (prX m.ex x.r.toNat);exact zrj base g S m i x.l.toNat x.r.toNat _ _ _ _ w A h H z X M O U (by rw[N,Int.toNat_of_nonneg h1]) (by rw[V,Int.toNat_of_nonneg h3]) (by simpa using I) (by simpa using K) (by simpa using L) (by simpa using Y) (by simpa using k5) (by simpa using k6) k7 q he (by omega) (by omega) (by unfold wt;omega) (by unfold wt;omega)
   rw[if_neg k7] at q ⊢;by_cases k8:(x.kind==8)=true
   ·rw[if_pos k8] at q ⊢;obtain⟨h1,h2,h3,h4⟩:=Z (zbH (.inr (.inr k8)));have J:=q;rw[ByteArray.size_append,ByteArray.size_append] at J;have s1:=zgF (zQ (m.ex.getD x.l.toNat zh).kind) (prX m.ex x.l.toNat);have s2:=zgF (zaa (m.ex.getD x.r.toNat zh).kind) (prX m.ex x.r.toNat);exact zrk base g S m i x.l.toNat x.r.toNat _ _ _ _ w A h H z X M O U (by rw[N,Int.toNat_of_nonneg h1]) (by rw[V,Int.toNat_of_nonneg h3]) (by simpa using I) (by simpa using K) (by simpa using L) (by simpa using Y) (by simpa using k5) (by simpa using k6) (by simpa using k7) k8 q he (by omega) (by omega) (by unfold wt;omega) (by unfold wt;omega)
   rw[if_neg k8] at q ⊢;exact zrh g S m i _ _ _ _ _ _ w A H z X M O U N V (by simpa using I) (by simpa using K) (by simpa using L) (by simpa using Y) (by simpa using k5) (by simpa using k6) (by simpa using k7) (by simpa using k8)
theorem zew (base:Nat) (S:Sv) (m:Md) (i:Nat) (w:World) (H:zaW m.ex) (z:zb4 m.ex) (A:i<m.ex.length) (h:OwnMd w base S m) (q:wt m.ex i<=1099511627776):
  Calls prog 125 #[zl S m,.int .i64 i] w fun e w'=>e= .returned (.string (prX m.ex i))/\Below w.heap.size w w':=zrl base S m H z (i+1) i w (Nat.lt_succ_self i) A h q
theorem zie (a b:BA) (w:World) (z:a.size<=1099511627776) (A:b.size<=1099511627776):Calls prog 124 #[.string a,.string b] w fun e w'=>e= .returned (.string (asT a b))/\w'=w:=by
 cases h:(a.toList==b.toList) with
 |true=>
  have q:Hid (asT a b=a):=by show _=_;rw[asT,h];rfl
  go_enter func124,ntmps124;go_wp2;go_ret;exact⟨za7 q.o.symm,rfl⟩
 |false=>
  have q:Hid (asT a b=a++({data:=#[32,97,115,32]}:BA)++b):=by show _=_;rw[asT,h];rfl
  go_enter func124,ntmps124;go_wp2;go_ret;exact⟨za7 q.o.symm,rfl⟩
theorem zgG (s:BA) (w:World) (q:s.size<=1099511627776):Calls prog 84 #[.string s] w fun e w'=>e= .returned (.string (za1 s))/\w'=w:=by
 have h:Hid (za1 s=({data:=#[34]}:BA)++s++({data:=#[34]}:BA)):=rfl;go_enter func84,ntmps84;go_wp2;go_ret;exact⟨za7 h.o.symm,rfl⟩
theorem zif (s:BA):(za1 s).size=s.size+2:=by
 rw[za1,ByteArray.size_append,ByteArray.size_append];show 1+s.size+1=_;omega
theorem zkO (a b:BA):(asT a b).size<=a.size+b.size+4:=by
 unfold asT
 split
 ·omega
 ·rw[ByteArray.size_append,ByteArray.size_append];show a.size+4+b.size<=_;omega
theorem zrm (x:Im) (w:World) (h1:x.spec.size<=4294967296) (h2:x.first.size<=4294967296) (h3:x.loc.size<=4294967296):Calls prog 85 #[imV x] w fun e w'=>e= .returned (.string (zad x))/\Below w.heap.size w w':=by
 obtain⟨qt,A⟩: ∃t,za1 x.spec=t:=⟨_,rfl⟩;obtain⟨at',hat⟩: ∃t,asT x.first x.loc=t:=⟨_,rfl⟩;have Z:=zif x.spec;have ha:=zkO x.first x.loc;rw[A] at Z;rw[hat] at ha;have ab:qt.size<=8589934592:=by omega
 have aa:at'.size<=17179869184:=by omega
 have O:=zc A;have AT:=zc hat;have N: ∀d K,Calls prog 84 #[.string x.spec] (grow (redrawn (w.alloc (.cells #[.string x.spec,.string x.first,.string x.loc] 95)) d) K) fun e H=>e= .returned (.string qt)/\∃p:Regrown,H=grow (redrawn (w.alloc (.cells #[.string x.spec,.string x.first,.string x.loc] 95)) p.d) p.os:=fun d K=>Calls.regrown_of (by rw[<-A];exact (zgG x.spec _ (by omega)).mono (by rintro e w' ⟨rfl,rfl⟩;exact⟨rfl,Below.refl _ _⟩));have M: ∀d K,Calls prog 124 #[.string x.first,.string x.loc] (grow (redrawn (w.alloc (.cells #[.string x.spec,.string x.first,.string x.loc] 95)) d) K) fun e H=>e= .returned (.string at')/\∃p:Regrown,H=grow (redrawn (w.alloc (.cells #[.string x.spec,.string x.first,.string x.loc] 95)) p.d) p.os:=fun d K=>Calls.regrown_of (by rw[<-hat];exact (zie x.first x.loc _ (by omega) (by omega)).mono (by rintro e w' ⟨rfl,rfl⟩;exact⟨rfl,Below.refl _ _⟩));have X:=zc (zo (heap_alloc_new w (.cells #[.string x.spec,.string x.first,.string x.loc] 95)));clear A hat Z ha;unfold imV;cases U:(x.first.toList==[42]) with
 |true=>
  have L:Hid (zad x=({data:=#[105,109,112,111,114,116,32,42,32,97,115,32]}:BA)++x.loc++({data:=#[32,102,114,111,109,32]}:BA)++za1 x.spec++({data:=#[59,10]}:BA)):=by show _=_;rw[zad,U];rfl
  go_enter func85,ntmps85;go_wp2_with fail;have y0:=cell_regrown X.o.1;have Y:=cell_regrown X.o.2.1;have y2:=cell_regrown X.o.2.2.1;refine wp_region_quiet_below (by kernel_rfl) (by kernel_rfl) ?_
  repeat (go_big_quiet_step (first|with_reducible exact N _ _|with_reducible exact M _ _))
  refine wpQuiet_nil ?_;intro I q;obtain⟨⟨V,J⟩,h⟩:=q;have z:Hid (Below w.heap.size w I):=by show Below _ _ _;rw[h];exact ((Below.refl _ _).alloc (Nat.le_refl _) _).trans ((below_regrown _ _ _).mono (by rw[zg];omega))
  clear h;go_wp2;go_ret;exact⟨za7 (by rw[L.o,O.o]),z.o⟩
 |false=>
  cases e2:(x.first.toList==[100,101,102,97,117,108,116]) with
  |true=>
   have L:Hid (zad x=({data:=#[105,109,112,111,114,116,32]}:BA)++x.loc++({data:=#[32,102,114,111,109,32]}:BA)++za1 x.spec++({data:=#[59,10]}:BA)):=by show _=_;rw[zad,U,e2];rfl
   go_enter func85,ntmps85;go_wp2_with fail;have y0:=cell_regrown X.o.1;have Y:=cell_regrown X.o.2.1;have y2:=cell_regrown X.o.2.2.1;refine wp_region_quiet_below (by kernel_rfl) (by kernel_rfl) ?_
   repeat (go_big_quiet_step (first|with_reducible exact N _ _|with_reducible exact M _ _))
   refine wpQuiet_nil ?_;intro I q;obtain⟨⟨V,J⟩,h⟩:=q;have z:Hid (Below w.heap.size w I):=by show Below _ _ _;rw[h];exact ((Below.refl _ _).alloc (Nat.le_refl _) _).trans ((below_regrown _ _ _).mono (by rw[zg];omega))
   clear h;go_wp2;go_ret;exact⟨za7 (by rw[L.o,O.o]),z.o⟩
  |false=>
   have L:Hid (zad x=({data:=#[105,109,112,111,114,116,32,123,32]}:BA)++asT x.first x.loc++({data:=#[32,125,32,102,114,111,109,32]}:BA)++za1 x.spec++({data:=#[59,10]}:BA)):=by show _=_;rw[zad,U,e2];rfl
   go_enter func85,ntmps85;go_wp2_with fail;have y0:=cell_regrown X.o.1;have Y:=cell_regrown X.o.2.1;have y2:=cell_regrown X.o.2.2.1;refine wp_region_quiet_below (by kernel_rfl) (by kernel_rfl) ?_
   repeat (go_big_quiet_step (first|with_reducible exact N _ _|with_reducible exact M _ _))
   refine wpQuiet_nil ?_;intro I q;obtain⟨⟨V,J⟩,h⟩:=q;have z:Hid (Below w.heap.size w I):=by show Below _ _ _;rw[h];exact ((Below.refl _ _).alloc (Nat.le_refl _) _).trans ((below_regrown _ _ _).mono (by rw[zg];omega))
   clear h;go_wp2;go_ret;exact⟨za7 (by rw[L.o,O.o,AT.o]),z.o⟩
theorem zrn (x:Ep) (w:World) (h1:x.spec.size<=4294967296) (h2:x.name.size<=4294967296) (h3:x.loc.size<=4294967296):Calls prog 86 #[epV x] w fun e w'=>e= .returned (.string (zbu x))/\Below w.heap.size w w':=by
 obtain⟨M,h⟩: ∃t,za1 x.spec=t:=⟨_,rfl⟩;obtain⟨at',hat⟩: ∃t,asT x.loc x.name=t:=⟨_,rfl⟩;have V:=zif x.spec;have ha:=zkO x.loc x.name;rw[h] at V;rw[hat] at ha;have ac:M.size<=8589934592:=by omega
 have ab:at'.size<=17179869184:=by omega
 have Z:=zc h;have AT:=zc hat;have cQ: ∀d H,Calls prog 84 #[.string x.spec] (grow (redrawn (w.alloc (.cells #[.int .i64 x.kind,.string x.name,.string x.loc,.string x.spec] 97)) d) H) fun e z=>e= .returned (.string M)/\∃p:Regrown,z=grow (redrawn (w.alloc (.cells #[.int .i64 x.kind,.string x.name,.string x.loc,.string x.spec] 97)) p.d) p.os:=fun d H=>Calls.regrown_of (by rw[<-h];exact (zgG x.spec _ (by omega)).mono (by rintro e w' ⟨rfl,rfl⟩;exact⟨rfl,Below.refl _ _⟩));have cA: ∀d H,Calls prog 124 #[.string x.loc,.string x.name] (grow (redrawn (w.alloc (.cells #[.int .i64 x.kind,.string x.name,.string x.loc,.string x.spec] 97)) d) H) fun e z=>e= .returned (.string at')/\∃p:Regrown,z=grow (redrawn (w.alloc (.cells #[.int .i64 x.kind,.string x.name,.string x.loc,.string x.spec] 97)) p.d) p.os:=fun d H=>Calls.regrown_of (by rw[<-hat];exact (zie x.loc x.name _ (by omega) (by omega)).mono (by rintro e w' ⟨rfl,rfl⟩;exact⟨rfl,Below.refl _ _⟩));have U: ∀w:World,Calls prog 84 #[.string x.spec] w fun e w'=>e= .returned (.string M)/\w'=w:=fun w=>by rw[<-h];exact zgG x.spec w (by omega)
 have L: ∀w:World,Calls prog 124 #[.string x.loc,.string x.name] w fun e w'=>e= .returned (.string at')/\w'=w:=fun w=>by rw[<-hat];exact zie x.loc x.name w (by omega) (by omega)
 have X:=zc (zbJ (heap_alloc_new w (.cells #[.int .i64 x.kind,.string x.name,.string x.loc,.string x.spec] 97)));clear h hat V ha;unfold epV;cases O:(x.kind==3) with
 |true=>
  have J:Hid (zbu x=({data:=#[101,120,112,111,114,116,32,42,32,102,114,111,109,32]}:BA)++za1 x.spec++({data:=#[59,10]}:BA)):=by show _=_;rw[zbu,O];rfl
  go_enter func86,ntmps86;go_wp2_with fail;refine (U _).mono ?_;rintro e A ⟨rfl,I⟩;rw[I];clear I A;go_wp2;go_ret;exact⟨za7 (by rw[J.o,Z.o]),(Below.refl _ _).alloc (Nat.le_refl _) _⟩
 |false=>
  cases Y:(x.kind==2) with
  |true=>
   have J:Hid (zbu x=({data:=#[101,120,112,111,114,116,32,123,32]}:BA)++asT x.loc x.name++({data:=#[32,125,32,102,114,111,109,32]}:BA)++za1 x.spec++({data:=#[59,10]}:BA)):=by show _=_;rw[zbu,O,Y];rfl
   go_enter func86,ntmps86;go_wp2_with fail;have y0:=cell_regrown X.o.1;have y1:=cell_regrown X.o.2.1;have y2:=cell_regrown X.o.2.2.1;have y3:=cell_regrown X.o.2.2.2.1;refine wp_region_quiet_below (by kernel_rfl) (by kernel_rfl) ?_
   repeat (go_big_quiet_step (first|with_reducible exact cQ _ _|with_reducible exact cA _ _))
   refine wpQuiet_nil ?_;intro A K;obtain⟨⟨dq,aa⟩,q⟩:=K;have N:Hid (Below w.heap.size w A):=by show Below _ _ _;rw[q];exact ((Below.refl _ _).alloc (Nat.le_refl _) _).trans ((below_regrown _ _ _).mono (by rw[zg];omega))
   clear q;go_wp2;go_ret;exact⟨za7 (by rw[J.o,Z.o,AT.o]),N.o⟩
  |false=>
   have J:Hid (zbu x=({data:=#[101,120,112,111,114,116,32,123,32]}:BA)++asT x.loc x.name++({data:=#[32,125,59,10]}:BA)):=by show _=_;rw[zbu,O,Y];rfl
   go_enter func86,ntmps86;go_wp2_with fail;refine (L _).mono ?_;rintro e A ⟨rfl,I⟩;rw[I];clear I A;go_wp2;go_ret;exact⟨za7 (by rw[J.o,AT.o]),(Below.refl _ _).alloc (Nat.le_refl _) _⟩
theorem zro (base:Nat) (S:Sv) (m:Md) (k:Int) (n:BA) (i:Nat) (w:World) (h:OwnMd w base S m) (N:i<m.ex.length) (O:zaW m.ex) (X:zb4 m.ex) (I:wt m.ex i<=1099511627776) (_:n.size<=4294967296) (J:(k==1)=true) (M:(n.toList==[42,100,101,102,97,117,108,116])=true):
  Calls prog 87 #[zl S m,.agg #[.int .i64 k,.string n,.int .i64 (i:Int)]] w fun e w'=>e= .returned (.string (za6 k n (prX m.ex i)))/\Below w.heap.size w w':=by
 have V:=zc h;have Y:Hid (za6 k n (prX m.ex i)=({data:=#[101,120,112,111,114,116,32,100,101,102,97,117,108,116,32]}:BA)++prX m.ex i++({data:=#[59,10]}:BA)):=by show _=_;rw[za6,J,M];rfl
 have q:=I;unfold wt at q;have U:=zc (And.intro (zcE (o':=.cells #[.int .i64 k,.string n,.int .i64 (i:Int)] 102) (heap_alloc_new w (.cells #[.slice S.rq.a m.rq.length S.rq.cap,.slice S.im.a m.im.length S.im.cap,.slice S.ep.a m.ep.length S.ep.cap,.slice S.st.a m.st.length S.st.cap,.slice S.ex.a m.ex.length S.ex.cap] 54))) (new2 w (.cells #[.slice S.rq.a m.rq.length S.rq.cap,.slice S.im.a m.im.length S.im.cap,.slice S.ep.a m.ep.length S.ep.cap,.slice S.st.a m.st.length S.st.cap,.slice S.ex.a m.ex.length S.ex.cap] 54) (.cells #[.int .i64 k,.string n,.int .i64 (i:Int)] 102)));clear h;unfold zl;go_enter func87,ntmps87;go_wp2_with fail;refine (zew base S m i _ O X N ((V.o.alloc _).alloc _) I).mono ?_;rintro e K ⟨rfl,A⟩;have L:Hid (Below w.heap.size w K):=(zbe w _ _).trans (A.mono (by rw[zg,zg];omega));have H:=zc ((A.block _ (by rw[zg,zg];omega)).trans U.o.2);obtain⟨c0,c1,c2,cf⟩:=zo H.o;clear A;obtain⟨t,z⟩: ∃t,prX m.ex i=t:=⟨_,rfl⟩;rw[z] at q ⊢;have Z:=zc z;clear z;go_wp2;go_ret;exact⟨za7 (by rw[Y.o,Z.o]),L.o⟩
theorem zrp (base:Nat) (S:Sv) (m:Md) (k:Int) (n:BA) (i:Nat) (w:World) (h:OwnMd w base S m) (N:i<m.ex.length) (O:zaW m.ex) (X:zb4 m.ex) (I:wt m.ex i<=1099511627776) (hs:n.size<=4294967296) (J:(k==1)=true) (M:(n.toList==[42,100,101,102,97,117,108,116])=false):
  Calls prog 87 #[zl S m,.agg #[.int .i64 k,.string n,.int .i64 (i:Int)]] w fun e w'=>e= .returned (.string (za6 k n (prX m.ex i)))/\Below w.heap.size w w':=by
 have V:=zc h;have Y:Hid (za6 k n (prX m.ex i)=({data:=#[108,101,116,32]}:BA)++n++({data:=#[32,61,32]}:BA)++prX m.ex i++({data:=#[59,10]}:BA)):=by show _=_;rw[za6,J,M];rfl
 have q:=I;unfold wt at q;have U:=zc (And.intro (zcE (o':=.cells #[.int .i64 k,.string n,.int .i64 (i:Int)] 102) (heap_alloc_new w (.cells #[.slice S.rq.a m.rq.length S.rq.cap,.slice S.im.a m.im.length S.im.cap,.slice S.ep.a m.ep.length S.ep.cap,.slice S.st.a m.st.length S.st.cap,.slice S.ex.a m.ex.length S.ex.cap] 54))) (new2 w (.cells #[.slice S.rq.a m.rq.length S.rq.cap,.slice S.im.a m.im.length S.im.cap,.slice S.ep.a m.ep.length S.ep.cap,.slice S.st.a m.st.length S.st.cap,.slice S.ex.a m.ex.length S.ex.cap] 54) (.cells #[.int .i64 k,.string n,.int .i64 (i:Int)] 102)));clear h;unfold zl;go_enter func87,ntmps87;go_wp2_with fail;refine (zew base S m i _ O X N ((V.o.alloc _).alloc _) I).mono ?_;rintro e K ⟨rfl,A⟩;have L:Hid (Below w.heap.size w K):=(zbe w _ _).trans (A.mono (by rw[zg,zg];omega));have H:=zc ((A.block _ (by rw[zg,zg];omega)).trans U.o.2);obtain⟨c0,c1,c2,cf⟩:=zo H.o;clear A;obtain⟨t,z⟩: ∃t,prX m.ex i=t:=⟨_,rfl⟩;rw[z] at q ⊢;have Z:=zc z;clear z;go_wp2;go_ret;exact⟨za7 (by rw[Y.o,Z.o]),L.o⟩
theorem zrq (base:Nat) (S:Sv) (m:Md) (k:Int) (n:BA) (i:Nat) (w:World) (h:OwnMd w base S m) (M:i<m.ex.length) (N:zaW m.ex) (X:zb4 m.ex) (I:wt m.ex i<=1099511627776) (hs:n.size<=4294967296) (J:(k==1)=false) (O:(k==2)=true):
  Calls prog 87 #[zl S m,.agg #[.int .i64 k,.string n,.int .i64 (i:Int)]] w fun e w'=>e= .returned (.string (za6 k n (prX m.ex i)))/\Below w.heap.size w w':=by
 have V:=zc h;have Y:Hid (za6 k n (prX m.ex i)=({data:=#[102,117,110,99,116,105,111,110,32]}:BA)++n++({data:=#[40,41,32,123,32,114,101,116,117,114,110,32]}:BA)++prX m.ex i++({data:=#[59,32,125,10]}:BA)):=by show _=_;rw[za6,J,O];rfl
 have q:=I;unfold wt at q;have U:=zc (And.intro (zcE (o':=.cells #[.int .i64 k,.string n,.int .i64 (i:Int)] 102) (heap_alloc_new w (.cells #[.slice S.rq.a m.rq.length S.rq.cap,.slice S.im.a m.im.length S.im.cap,.slice S.ep.a m.ep.length S.ep.cap,.slice S.st.a m.st.length S.st.cap,.slice S.ex.a m.ex.length S.ex.cap] 54))) (new2 w (.cells #[.slice S.rq.a m.rq.length S.rq.cap,.slice S.im.a m.im.length S.im.cap,.slice S.ep.a m.ep.length S.ep.cap,.slice S.st.a m.st.length S.st.cap,.slice S.ex.a m.ex.length S.ex.cap] 54) (.cells #[.int .i64 k,.string n,.int .i64 (i:Int)] 102)));clear h;unfold zl;go_enter func87,ntmps87;go_wp2_with fail;refine (zew base S m i _ N X M ((V.o.alloc _).alloc _) I).mono ?_;rintro e K ⟨rfl,A⟩;have L:Hid (Below w.heap.size w K):=(zbe w _ _).trans (A.mono (by rw[zg,zg];omega));have H:=zc ((A.block _ (by rw[zg,zg];omega)).trans U.o.2);obtain⟨c0,c1,c2,cf⟩:=zo H.o;clear A;obtain⟨t,z⟩: ∃t,prX m.ex i=t:=⟨_,rfl⟩;rw[z] at q ⊢;have Z:=zc z;clear z;go_wp2;go_ret;exact⟨za7 (by rw[Y.o,Z.o]),L.o⟩
theorem zrr (base:Nat) (S:Sv) (m:Md) (k:Int) (n:BA) (i:Nat) (w:World) (h:OwnMd w base S m) (N:i<m.ex.length) (O:zaW m.ex) (Y:zb4 m.ex) (I:wt m.ex i<=1099511627776) (hs:n.size<=4294967296) (J:(k==1)=false) (U:(k==2)=false) (L:(k==3)=true):
  Calls prog 87 #[zl S m,.agg #[.int .i64 k,.string n,.int .i64 (i:Int)]] w fun e w'=>e= .returned (.string (za6 k n (prX m.ex i)))/\Below w.heap.size w w':=by
 have X:=zc h;have Z:Hid (za6 k n (prX m.ex i)=n++({data:=#[32,61,32]}:BA)++prX m.ex i++({data:=#[59,10]}:BA)):=by show _=_;rw[za6,J,U,L];rfl
 have q:=I;unfold wt at q;have V:=zc (And.intro (zcE (o':=.cells #[.int .i64 k,.string n,.int .i64 (i:Int)] 102) (heap_alloc_new w (.cells #[.slice S.rq.a m.rq.length S.rq.cap,.slice S.im.a m.im.length S.im.cap,.slice S.ep.a m.ep.length S.ep.cap,.slice S.st.a m.st.length S.st.cap,.slice S.ex.a m.ex.length S.ex.cap] 54))) (new2 w (.cells #[.slice S.rq.a m.rq.length S.rq.cap,.slice S.im.a m.im.length S.im.cap,.slice S.ep.a m.ep.length S.ep.cap,.slice S.st.a m.st.length S.st.cap,.slice S.ex.a m.ex.length S.ex.cap] 54) (.cells #[.int .i64 k,.string n,.int .i64 (i:Int)] 102)));clear h;unfold zl;go_enter func87,ntmps87;go_wp2_with fail;refine (zew base S m i _ O Y N ((X.o.alloc _).alloc _) I).mono ?_;rintro e K ⟨rfl,A⟩;have M:Hid (Below w.heap.size w K):=(zbe w _ _).trans (A.mono (by rw[zg,zg];omega));have H:=zc ((A.block _ (by rw[zg,zg];omega)).trans V.o.2);obtain⟨c0,c1,c2,cf⟩:=zo H.o;clear A;obtain⟨t,z⟩: ∃t,prX m.ex i=t:=⟨_,rfl⟩;rw[z] at q ⊢;have HT:=zc z;clear z;go_wp2;go_ret;exact⟨za7 (by rw[Z.o,HT.o]),M.o⟩
theorem zrs (base:Nat) (S:Sv) (m:Md) (k:Int) (n:BA) (i:Nat) (w:World) (h:OwnMd w base S m) (N:i<m.ex.length) (O:zaW m.ex) (Y:zb4 m.ex) (I:wt m.ex i<=1099511627776) (_:n.size<=4294967296) (J:(k==1)=false) (U:(k==2)=false) (L:(k==3)=false) (k4:(k==4)=true):
  Calls prog 87 #[zl S m,.agg #[.int .i64 k,.string n,.int .i64 (i:Int)]] w fun e w'=>e= .returned (.string (za6 k n (prX m.ex i)))/\Below w.heap.size w w':=by
 have X:=zc h;have Z:Hid (za6 k n (prX m.ex i)=({data:=#[112,114,105,110,116,40]}:BA)++prX m.ex i++({data:=#[41,59,10]}:BA)):=by show _=_;rw[za6,J,U,L,k4];rfl
 have q:=I;unfold wt at q;have V:=zc (And.intro (zcE (o':=.cells #[.int .i64 k,.string n,.int .i64 (i:Int)] 102) (heap_alloc_new w (.cells #[.slice S.rq.a m.rq.length S.rq.cap,.slice S.im.a m.im.length S.im.cap,.slice S.ep.a m.ep.length S.ep.cap,.slice S.st.a m.st.length S.st.cap,.slice S.ex.a m.ex.length S.ex.cap] 54))) (new2 w (.cells #[.slice S.rq.a m.rq.length S.rq.cap,.slice S.im.a m.im.length S.im.cap,.slice S.ep.a m.ep.length S.ep.cap,.slice S.st.a m.st.length S.st.cap,.slice S.ex.a m.ex.length S.ex.cap] 54) (.cells #[.int .i64 k,.string n,.int .i64 (i:Int)] 102)));clear h;unfold zl;go_enter func87,ntmps87;go_wp2_with fail;refine (zew base S m i _ O Y N ((X.o.alloc _).alloc _) I).mono ?_;rintro e K ⟨rfl,A⟩;have M:Hid (Below w.heap.size w K):=(zbe w _ _).trans (A.mono (by rw[zg,zg];omega));have H:=zc ((A.block _ (by rw[zg,zg];omega)).trans V.o.2);obtain⟨c0,c1,c2,cf⟩:=zo H.o;clear A;obtain⟨t,z⟩: ∃t,prX m.ex i=t:=⟨_,rfl⟩;rw[z] at q ⊢;have HT:=zc z;clear z;go_wp2;go_ret;exact⟨za7 (by rw[Z.o,HT.o]),M.o⟩
theorem zrt (base:Nat) (S:Sv) (m:Md) (k:Int) (n:BA) (i:Nat) (w:World) (h:OwnMd w base S m) (U:i<m.ex.length) (V:zaW m.ex) (Z:zb4 m.ex) (I:wt m.ex i<=1099511627776) (_:n.size<=4294967296) (J:(k==1)=false) (X:(k==2)=false) (M:(k==3)=false) (k4:(k==4)=false) (O:(k==5)=true):
  Calls prog 87 #[zl S m,.agg #[.int .i64 k,.string n,.int .i64 (i:Int)]] w fun e w'=>e= .returned (.string (za6 k n (prX m.ex i)))/\Below w.heap.size w w':=by
 have Y:=zc h;have HV:Hid (za6 k n (prX m.ex i)=({data:=#[116,104,114,111,119,32]}:BA)++prX m.ex i++({data:=#[59,10]}:BA)):=by show _=_;rw[za6,J,X,M,k4,O];rfl
 have q:=I;unfold wt at q;have HX:=zc (And.intro (zcE (o':=.cells #[.int .i64 k,.string n,.int .i64 (i:Int)] 102) (heap_alloc_new w (.cells #[.slice S.rq.a m.rq.length S.rq.cap,.slice S.im.a m.im.length S.im.cap,.slice S.ep.a m.ep.length S.ep.cap,.slice S.st.a m.st.length S.st.cap,.slice S.ex.a m.ex.length S.ex.cap] 54))) (new2 w (.cells #[.slice S.rq.a m.rq.length S.rq.cap,.slice S.im.a m.im.length S.im.cap,.slice S.ep.a m.ep.length S.ep.cap,.slice S.st.a m.st.length S.st.cap,.slice S.ex.a m.ex.length S.ex.cap] 54) (.cells #[.int .i64 k,.string n,.int .i64 (i:Int)] 102)));clear h;unfold zl;go_enter func87,ntmps87;go_wp2_with fail;refine (zew base S m i _ V Z U ((Y.o.alloc _).alloc _) I).mono ?_;rintro e K ⟨rfl,A⟩;have N:Hid (Below w.heap.size w K):=(zbe w _ _).trans (A.mono (by rw[zg,zg];omega));have H:=zc ((A.block _ (by rw[zg,zg];omega)).trans HX.o.2);obtain⟨c0,c1,c2,cf⟩:=zo H.o;clear A;obtain⟨t,z⟩: ∃t,prX m.ex i=t:=⟨_,rfl⟩;rw[z] at q ⊢;have L:=zc z;clear z;go_wp2;go_ret;exact⟨za7 (by rw[HV.o,L.o]),N.o⟩
theorem zru (base:Nat) (S:Sv) (m:Md) (k:Int) (n:BA) (i:Nat) (w:World) (h:OwnMd w base S m) (U:i<m.ex.length) (V:zaW m.ex) (Z:zb4 m.ex) (I:wt m.ex i<=1099511627776) (_:n.size<=4294967296) (J:(k==1)=false) (X:(k==2)=false) (M:(k==3)=false) (k4:(k==4)=false) (O:(k==5)=false):
  Calls prog 87 #[zl S m,.agg #[.int .i64 k,.string n,.int .i64 (i:Int)]] w fun e w'=>e= .returned (.string (za6 k n (prX m.ex i)))/\Below w.heap.size w w':=by
 have Y:=zc h;have HV:Hid (za6 k n (prX m.ex i)=({data:=#[102,97,105,108,32]}:BA)++prX m.ex i++({data:=#[59,10]}:BA)):=by show _=_;rw[za6,J,X,M,k4,O];rfl
 have q:=I;unfold wt at q;have HX:=zc (And.intro (zcE (o':=.cells #[.int .i64 k,.string n,.int .i64 (i:Int)] 102) (heap_alloc_new w (.cells #[.slice S.rq.a m.rq.length S.rq.cap,.slice S.im.a m.im.length S.im.cap,.slice S.ep.a m.ep.length S.ep.cap,.slice S.st.a m.st.length S.st.cap,.slice S.ex.a m.ex.length S.ex.cap] 54))) (new2 w (.cells #[.slice S.rq.a m.rq.length S.rq.cap,.slice S.im.a m.im.length S.im.cap,.slice S.ep.a m.ep.length S.ep.cap,.slice S.st.a m.st.length S.st.cap,.slice S.ex.a m.ex.length S.ex.cap] 54) (.cells #[.int .i64 k,.string n,.int .i64 (i:Int)] 102)));clear h;unfold zl;go_enter func87,ntmps87;go_wp2_with fail;refine (zew base S m i _ V Z U ((Y.o.alloc _).alloc _) I).mono ?_;rintro e K ⟨rfl,A⟩;have N:Hid (Below w.heap.size w K):=(zbe w _ _).trans (A.mono (by rw[zg,zg];omega));have H:=zc ((A.block _ (by rw[zg,zg];omega)).trans HX.o.2);obtain⟨c0,c1,c2,cf⟩:=zo H.o;clear A;obtain⟨t,z⟩: ∃t,prX m.ex i=t:=⟨_,rfl⟩;rw[z] at q ⊢;have L:=zc z;clear z;go_wp2;go_ret;exact⟨za7 (by rw[HV.o,L.o]),N.o⟩
theorem zrv (base:Nat) (S:Sv) (m:Md) (k:Int) (n:BA) (i:Nat) (w:World) (h:OwnMd w base S m) (I:i<m.ex.length) (J:zaW m.ex) (A:zb4 m.ex) (z:wt m.ex i<=1099511627776) (H:n.size<=4294967296):
  Calls prog 87 #[zl S m,.agg #[.int .i64 k,.string n,.int .i64 (i:Int)]] w fun e w'=>e= .returned (.string (za6 k n (prX m.ex i)))/\Below w.heap.size w w':=by
 cases q:(k==1) with
 |true=>
  cases N:(n.toList==[42,100,101,102,97,117,108,116]) with
  |true=>exact zro base S m k n i w h I J A z H q N
  |false=>exact zrp base S m k n i w h I J A z H q N
 |false=>
  cases K:(k==2) with
  |true=>exact zrq base S m k n i w h I J A z H q K
  |false=>
   cases L:(k==3) with
   |true=>exact zrr base S m k n i w h I J A z H q K L
   |false=>
    cases M:(k==4) with
    |true=>exact zrs base S m k n i w h I J A z H q K L M
    |false=>
     cases O:(k==5) with
     |true=>exact zrt base S m k n i w h I J A z H q K L M O
     |false=>exact zru base S m k n i w h I J A z H q K L M O
theorem zkP (a b:List Ex) (k:Int):zat (a++b) k=zat a k+zat b k:=by simp[zat]
theorem zkQ (a b:List Sm) (k:Int):zaO (a++b) k=zaO a k+zaO b k:=by simp[zaO]
theorem zkR {ex:List Ex} {i:Nat} (h:i<ex.length) (k:Int):zat (ex.take (i+1)) k=zat (ex.take i) k+u1 ex[i] k:=by
 rw[List.take_succ_eq_append_getElem h,zkP];simp[zat,u1]
theorem zrw {h:List Sm} {i:Nat} (q:i<h.length) (k:Int):zaO (h.take (i+1)) k=zaO (h.take i) k+if h[i].expr==k then 1 else 0:=by
 rw[List.take_succ_eq_append_getElem q,zkQ];simp[zaO]
theorem zgH (ex:List Ex) (k:Int):zat ex k<=2*ex.length:=by
 induction ex with
 |nil=>simp[zat]
 |cons x l h=>
  rw[show x::l=[x]++l from rfl,zkP];have:zat [x] k<=2:=by
   simp only[zat,List.map_cons,List.map_nil,List.sum_cons,List.sum_nil]
   split
   ·split<;>split<;>omega
   ·omega
  simp only[List.length_append,List.length_cons,List.length_nil];omega
theorem zkS (h:List Sm) (k:Int):zaO h k<=h.length:=by
 induction h with
 |nil=>simp[zaO]
 |cons x l q=>
  rw[show x::l=[x]++l from rfl,zkQ];have:zaO [x] k<=1:=by
   simp only[zaO,List.map_cons,List.map_nil,List.sum_cons,List.sum_nil]
   split<;>omega
  simp only[List.length_append,List.length_cons,List.length_nil];omega
def zas (n:Nat) (f:Nat->Nat):List Value:=(List.range n).map fun k=>.int .i64 (f k:Int)
theorem zig (n:Nat) (f:Nat->Nat):(zas n f).length=n:=by simp[zas]
theorem zgI {n:Nat} (f:Nat->Nat) {k:Nat} (h:k<n):(zas n f)[k]? =some (.int .i64 (f k:Int)):=by
 unfold zas;rw[List.getElem?_map,List.getElem?_range h];rfl
theorem zrx {n l:Nat} (f g:Nat->Nat) (v:Nat) (w:g l=v) (h: ∀k,k≠l->g k=f k):(zas n f).set l (.int .i64 (v:Int))=zas n g:=by
 apply List.ext_getElem?;intro k;by_cases q:k<n
 ·by_cases e:k=l
  ·subst e;rw[List.getElem?_set_self (by rw[zig];exact q),zgI g q,w]
  ·rw[List.getElem?_set_ne (fun x=>e x.symm),zgI f q,zgI g q,h k e]
 ·rw[List.getElem?_eq_none (by rw[List.length_set,zig];omega),List.getElem?_eq_none (by rw[zig];omega)]
theorem zex {n:Nat} {f g:Nat->Nat} (h: ∀k,k<n->f k=g k):zas n f=zas n g:=by
 unfold zas;refine List.map_congr_left fun k q=>?_;rw[h k (List.mem_range.1 q)]
def zaL (f:Nat->Nat) (l:Nat):Nat->Nat:=fun k=>f k+if k=l then 1 else 0
theorem zry (f:Nat->Nat) (l:Nat):zaL f l l=f l+1:=by simp[zaL]
theorem zrz (f:Nat->Nat) {l k:Nat} (h:k≠l):zaL f l k=f k:=by simp[zaL,h]
theorem zkT {ex:List Ex} {i:Nat} (z:i<ex.length) (w:zaa ex[i].kind=true) (H:0<=ex[i].l) (A:0<=ex[i].r) (k:Nat):zaL (zaL (fun k=>zat (ex.take i) (k:Int)) ex[i].l.toNat) ex[i].r.toNat k=zat (ex.take (i+1)) (k:Int):=by
 rw[zkR z,u1,if_pos w];unfold zaL;have h:(ex[i].l==(k:Int))=decide (k=ex[i].l.toNat):=by
  rw[Bool.eq_iff_iff,beq_iff_eq,decide_eq_true_iff];omega
 have q:(ex[i].r==(k:Int))=decide (k=ex[i].r.toNat):=by
  rw[Bool.eq_iff_iff,beq_iff_eq,decide_eq_true_iff];omega
 rw[h,q];simp only[decide_eq_true_eq];omega
theorem zkU {ex:List Ex} {i:Nat} (h:i<ex.length) (q:zaa ex[i].kind=false) (k:Nat):zat (ex.take i) (k:Int)=zat (ex.take (i+1)) (k:Int):=by
 rw[zkR h,u1,if_neg (by rw[q];decide),Nat.add_zero]
theorem zkV {h:List Sm} {ex:List Ex} {i:Nat} (q:i<h.length) (z:0<=h[i].expr) (k:Nat):zaL (fun k=>zat ex (k:Int)+zaO (h.take i) (k:Int)) h[i].expr.toNat k=zat ex (k:Int)+zaO (h.take (i+1)) (k:Int):=by
 rw[zrw q];unfold zaL;have w:(h[i].expr==(k:Int))=decide (k=h[i].expr.toNat):=by
  rw[Bool.eq_iff_iff,beq_iff_eq,decide_eq_true_iff];omega
 rw[w];simp only[decide_eq_true_eq];omega
def AheadTo (ex:List Ex) (n:Nat):Prop:=∀(i:Nat) (x:Ex),i<n->ex[i]? =some x->zaa x.kind=true->0<=x.l/\x.l<(i:Int)/\0<=x.r/\x.r<(i:Int)
theorem AheadTo.all {ex:List Ex} (h:AheadTo ex ex.length):zb4 ex:=fun i x q=>h i x (List.getElem?_eq_some_iff.1 q).1 q
theorem AheadTo.next {ex:List Ex} {i:Nat} (h:AheadTo ex i) (H:i<ex.length) (z:zaa ex[i].kind=true->0<=ex[i].l/\ex[i].l<(i:Int)/\0<=ex[i].r/\ex[i].r<(i:Int)):AheadTo ex (i+1):=by
 intro j x A q w;by_cases e:j=i
 ·subst e;obtain⟨_,rfl⟩:=List.getElem?_eq_some_iff.1 q;exact z w
 ·exact h j x (by omega) q w
theorem AheadTo.not {ex:List Ex} {i:Nat} (q:i<ex.length) (w:zaa ex[i].kind=true) (z: ¬(0<=ex[i].l/\ex[i].l<(i:Int)/\0<=ex[i].r/\ex[i].r<(i:Int))): ¬zb4 ex:=fun h=>z (h i _ (List.getElem?_eq_getElem q) w)
end Go.Proofs.YtgcbmogmniahjaaGreat
namespace Go.Proofs.YtgcbmogmniahjaaGreat
open Go.RowKit Go.PlainAid Go.Proofs.Tryz
theorem zfi (a b c:Int) (w:World):
  Calls prog 25 #[.int .i64 a,.int .i64 b,.int .i64 c] w fun e w'=>e= .returned (.bool (inB a b c))/\w'=w:=by
 by_cases h:b<=a
 ·by_cases q:a<=c
  ·go_enter func25,ntmps25;go_wp2;go_ret;exact⟨zi (zja h q).symm,rfl⟩
  ·go_enter func25,ntmps25;go_wp2;go_ret;exact⟨zi (zhn (by omega)).symm,rfl⟩
 ·go_enter func25,ntmps25;go_wp2;go_ret;exact⟨zi (zhn (by omega)).symm,rfl⟩
end Go.Proofs.YtgcbmogmniahjaaGreat
