/-
  What impl's isSameMod answers: the walk.
  What impl.Dec and spec.Dec answer,at every number: the walks.
  What l5Two,l5Sum,l5Side and l5Expr of the specification answer: the walks.
  What l5Expr of the specification answers of a product: the walk.
  What l5Expr of the specification answers,whole. No walk is zs.
  What l5As,l5Quote,l5Imp,l5Exp and l5Stmt of the specification answer: the walks.
  How often expressions are used,counted in a row of numbers. No program is spoken of.
-/
import Derived.Laws.StructEq
import Derived.Test.YtcidlffeeninbaaGreatClLawLinkToSameSpec
namespace Go.Proofs.YtcidlffeeninbaaGreat
set_option maxRecDepth 100000
set_option maxHeartbeats 12800000
open Go.RowKit Go.PlainAid Go.Sort
theorem zkk (x y:Im) (w:World):Sem.run Tryz.prog (binOp .neq 80 (.agg #[.string x.spec,.string x.first,.string x.loc]) (.agg #[.string y.spec,.string y.first,.string y.loc])) w= .ok (.bool (!zdh x y)) w:=by
 have J:=Tryz.underlying9
 have H:=Tryz.isAgg9
 have E:=Tryz.sizeOf9
 have I:=Tryz.underlying3
 have K:=Tryz.isAgg3
 have L:=Tryz.sizeOf3
 have h:Tryz.prog.underlying 80=some (.struct (Tryz.prog.fieldsOf 80)):=by kernel_rfl
 have q:Tryz.prog.stoodInHeld 80=false:=by kernel_rfl
 rw[run_neq_struct,show (10000:Nat)=9999+1 from rfl,run_equalIn_agg w 9999 80 _ _ h q]
 simp only[Program.fieldsOf,Tryz.underlying80]
 go_simp
 by_cases D:x.spec.toList=y.spec.toList<;>by_cases z:x.first.toList=y.first.toList<;>by_cases A:x.loc.toList=y.loc.toList<;>simp[zdh,D,z,A]
theorem zkl (h:BinOp) (a b:Operand) (x y:Im) (w:World):Sem.run Tryz.prog (eqGuard h 80 a b (.agg #[.string x.spec,.string x.first,.string x.loc]) (.agg #[.string y.spec,.string y.first,.string y.loc])) w= .ok () w:=run_eqGuard_agg w h 80 a b _ _ (by kernel_rfl)
theorem zkm (x y:Ep) (w:World):Sem.run Tryz.prog (binOp .neq 82 (.agg #[.int .i64 x.kind,.string x.name,.string x.loc,.string x.spec]) (.agg #[.int .i64 y.kind,.string y.name,.string y.loc,.string y.spec])) w= .ok (.bool (!zdi x y)) w:=by
 have K:=Tryz.underlying9
 have I:=Tryz.isAgg9
 have H:=Tryz.sizeOf9
 have J:=Tryz.underlying3
 have L:=Tryz.isAgg3
 have M:=Tryz.sizeOf3
 have h:Tryz.prog.underlying 82=some (.struct (Tryz.prog.fieldsOf 82)):=by kernel_rfl
 have q:Tryz.prog.stoodInHeld 82=false:=by kernel_rfl
 rw[run_neq_struct,show (10000:Nat)=9999+1 from rfl,run_equalIn_agg w 9999 82 _ _ h q]
 simp only[Program.fieldsOf,Tryz.underlying82]
 go_simp
 by_cases E:x.kind=y.kind<;>by_cases A:x.name.toList=y.name.toList<;>by_cases D:x.loc.toList=y.loc.toList<;>by_cases z:x.spec.toList=y.spec.toList<;>simp[zdi,E,A,D,z]
theorem zkn (h:BinOp) (a b:Operand) (x y:Ep) (w:World):Sem.run Tryz.prog (eqGuard h 82 a b (.agg #[.int .i64 x.kind,.string x.name,.string x.loc,.string x.spec]) (.agg #[.int .i64 y.kind,.string y.name,.string y.loc,.string y.spec])) w= .ok () w:=run_eqGuard_agg w h 82 a b _ _ (by kernel_rfl)
theorem zko (x y:Sm) (w:World):Sem.run Tryz.prog (binOp .neq 87 (.agg #[.int .i64 x.kind,.string x.name,.int .i64 x.expr]) (.agg #[.int .i64 y.kind,.string y.name,.int .i64 y.expr])) w= .ok (.bool (!zdj x y)) w:=by
 have J:=Tryz.underlying9
 have H:=Tryz.isAgg9
 have E:=Tryz.sizeOf9
 have I:=Tryz.underlying3
 have K:=Tryz.isAgg3
 have L:=Tryz.sizeOf3
 have h:Tryz.prog.underlying 87=some (.struct (Tryz.prog.fieldsOf 87)):=by kernel_rfl
 have q:Tryz.prog.stoodInHeld 87=false:=by kernel_rfl
 rw[run_neq_struct,show (10000:Nat)=9999+1 from rfl,run_equalIn_agg w 9999 87 _ _ h q]
 simp only[Program.fieldsOf,Tryz.underlying87]
 go_simp
 by_cases D:x.kind=y.kind<;>by_cases z:x.name.toList=y.name.toList<;>by_cases A:x.expr=y.expr<;>simp[zdj,D,z,A]
theorem zkp (h:BinOp) (a b:Operand) (x y:Sm) (w:World):Sem.run Tryz.prog (eqGuard h 87 a b (.agg #[.int .i64 x.kind,.string x.name,.int .i64 x.expr]) (.agg #[.int .i64 y.kind,.string y.name,.int .i64 y.expr])) w= .ok () w:=run_eqGuard_agg w h 87 a b _ _ (by kernel_rfl)
theorem zkq (x y:Ex) (w:World):Sem.run Tryz.prog (binOp .neq 85 (.agg #[.int .i64 x.kind,.int .i64 x.num,.string x.name,.string x.field,.int .i64 x.l,.int .i64 x.r]) (.agg #[.int .i64 y.kind,.int .i64 y.num,.string y.name,.string y.field,.int .i64 y.l,.int .i64 y.r])) w= .ok (.bool (!zdk x y)) w:=by
 have M:=Tryz.underlying9
 have K:=Tryz.isAgg9
 have J:=Tryz.sizeOf9
 have L:=Tryz.underlying3
 have N:=Tryz.isAgg3
 have O:=Tryz.sizeOf3
 have h:Tryz.prog.underlying 85=some (.struct (Tryz.prog.fieldsOf 85)):=by kernel_rfl
 have q:Tryz.prog.stoodInHeld 85=false:=by kernel_rfl
 rw[run_neq_struct,show (10000:Nat)=9999+1 from rfl,run_equalIn_agg w 9999 85 _ _ h q]
 simp only[Program.fieldsOf,Tryz.underlying85]
 go_simp
 by_cases I:x.kind=y.kind<;>by_cases A:x.num=y.num<;>by_cases D:x.name.toList=y.name.toList<;>by_cases z:x.field.toList=y.field.toList<;>by_cases E:x.l=y.l<;>by_cases H:x.r=y.r<;>simp[zdk,I,A,D,z,E,H]
theorem zkr (h:BinOp) (a b:Operand) (x y:Ex) (w:World):Sem.run Tryz.prog (eqGuard h 85 a b (.agg #[.int .i64 x.kind,.int .i64 x.num,.string x.name,.string x.field,.int .i64 x.l,.int .i64 x.r]) (.agg #[.int .i64 y.kind,.int .i64 y.num,.string y.name,.string y.field,.int .i64 y.l,.int .i64 y.r])) w= .ok () w:=run_eqGuard_agg w h 85 a b _ _ (by kernel_rfl)
theorem zqj (b1 b2:Nat) (Y Z:Sv) (A L:Md) (w:World) (h1:OwnMd w b1 Y A) (h2:OwnMd w b2 Z L) (hf:zdB A):
  Calls Tryz.prog 70 #[zn Y A,zn Z L] w fun e w'=>SameOut (A=L) e∧Below w.heap.size w w':=by
 have H1:=zc h1
 have H2:=zc h2
 have HF:=zc hf
 clear h1 h2 hf
 unfold zn
 go_enter Tryz.func70,Tryz.ntmps70
 go_upto_region 1 with fail
 refine zx (R:=TwoM w b1 b2 Y Z A L) (zhu w b1 b2 Y Z A L H1.out H2.out) ?_
 clear H1 H2
 intro w0 h
 have T0:=zc h
 clear h
 obtain⟨X,V,E,K,H,D⟩:=zk T0.out.1
 obtain⟨M,U,J,I,N,O⟩:=zk T0.out.2.1
 go_wp2_with fail
 refine (zoc b1 b2 Y.rq Z.rq A.rq L.rq w0 (by rw[←zeH];exact T0.out.2.2.1.rq) (by rw[←zeH];exact T0.out.2.2.2.1.rq) HF.out.1).mono ?_
 rintro e w1 ⟨⟨r,rfl,z⟩,q⟩
 have T1:=zc (T0.out.later q)
 have R0:=zc z
 clear q z X V E K H D M U J I N O
 obtain⟨X,V,E,K,H,D⟩:=zk T1.out.1
 obtain⟨M,U,J,I,N,O⟩:=zk T1.out.2.1
 cases r with
 |false=>
  go_wp2
  go_ret
  exact⟨⟨false,rfl,⟨fun k=>(by cases k),fun k=>(by have:=R0.out.2 (by rw[k]);cases this)⟩⟩,T1.out.2.2.2.2⟩
 |true=>
  go_wp2_with fail
  refine (zog zkk zkl b1 b2 Y.im Z.im A.im L.im w1 T1.out.2.2.1.im T1.out.2.2.2.1.im HF.out.2.1).mono ?_
  rintro e w2 ⟨⟨r,rfl,z⟩,q⟩
  have T2:=zc (T1.out.later q)
  have R1:=zc z
  clear q z X V E K H D M U J I N O
  obtain⟨X,V,E,K,H,D⟩:=zk T2.out.1
  obtain⟨M,U,J,I,N,O⟩:=zk T2.out.2.1
  cases r with
  |false=>
   go_wp2
   go_ret
   exact⟨⟨false,rfl,⟨fun k=>(by cases k),fun k=>(by have:=R1.out.2 (by rw[k]);cases this)⟩⟩,T2.out.2.2.2.2⟩
  |true=>
   go_wp2_with fail
   refine (zok zkm zkn b1 b2 Y.ep Z.ep A.ep L.ep w2 T2.out.2.2.1.ep T2.out.2.2.2.1.ep HF.out.2.2.1).mono ?_
   rintro e w3 ⟨⟨r,rfl,z⟩,q⟩
   have T3:=zc (T2.out.later q)
   have R2:=zc z
   clear q z X V E K H D M U J I N O
   obtain⟨X,V,E,K,H,D⟩:=zk T3.out.1
   obtain⟨M,U,J,I,N,O⟩:=zk T3.out.2.1
   cases r with
   |false=>
    go_wp2
    go_ret
    exact⟨⟨false,rfl,⟨fun k=>(by cases k),fun k=>(by have:=R2.out.2 (by rw[k]);cases this)⟩⟩,T3.out.2.2.2.2⟩
   |true=>
    go_wp2_with fail
    refine (zoo zko zkp b1 b2 Y.st Z.st A.st L.st w3 T3.out.2.2.1.st T3.out.2.2.2.1.st HF.out.2.2.2.1).mono ?_
    rintro e w4 ⟨⟨r,rfl,z⟩,q⟩
    have T4:=zc (T3.out.later q)
    have R3:=zc z
    clear q z X V E K H D M U J I N O
    obtain⟨X,V,E,K,H,D⟩:=zk T4.out.1
    obtain⟨M,U,J,I,N,O⟩:=zk T4.out.2.1
    cases r with
    |false=>
     go_wp2
     go_ret
     exact⟨⟨false,rfl,⟨fun k=>(by cases k),fun k=>(by have:=R3.out.2 (by rw[k]);cases this)⟩⟩,T4.out.2.2.2.2⟩
    |true=>
     go_wp2_with fail
     refine (zos zkq zkr b1 b2 Y.ex Z.ex A.ex L.ex w4 T4.out.2.2.1.ex T4.out.2.2.2.1.ex HF.out.2.2.2.2).mono ?_
     rintro e w5 ⟨⟨r,rfl,z⟩,q⟩
     have T5:=zc (T4.out.later q)
     have R4:=zc z
     clear q z X V E K H D M U J I N O
     obtain⟨X,V,E,K,H,D⟩:=zk T5.out.1
     obtain⟨M,U,J,I,N,O⟩:=zk T5.out.2.1
     cases r with
     |false=>
      go_wp2
      go_ret
      exact⟨⟨false,rfl,⟨fun k=>(by cases k),fun k=>(by have:=R4.out.2 (by rw[k]);cases this)⟩⟩,T5.out.2.2.2.2⟩
     |true=>
      go_wp2
      go_ret
      exact⟨⟨true,rfl,⟨fun _=>zjs (R0.out.1 (by simp)) (R1.out.1 (by simp)) (R2.out.1 (by simp)) (R3.out.1 (by simp)) (R4.out.1 (by simp)),fun _=>rfl⟩⟩,T5.out.2.2.2.2⟩
theorem Tryz.infoByte:(Tryz.prog.info? 5).map (fun i=>(i.zero,i.size,i.bytes))=some (some (.int .u8 0),1,1):=by kernel_rfl
theorem zks (m:Int) (w:World) (E:0≤m) (I:m≤18446744073709551615):
  Calls Tryz.prog 221 #[.int .u64 m] w fun e J=>e= .returned (.int .i64 (dcn m))∧J=w:=by
 have A:=zdw m E I
 have K:dcn m≤20:=A.2.1
 have D:1≤dcn m:=A.1
 clear A
 go_enter Tryz.func221,Tryz.ntmps221
 go_wp2
 go_loop [0,3] (fun a c=>∃k:Nat,k+1≤dcn m∧a= .int .u64 (m/10^k)∧c= .int .i64 ((k:Int)+1)) (fun a _=>(intOf a).toNat)
 case atStart=>exact⟨0,D,by simp,rfl⟩
 case round=>
  obtain⟨k,M,rfl,rfl⟩:=hrel
  have L:=ze5 m k E
  have z:=zmE m E I k
  by_cases q:10≤m/10^k
  ·have H:=z.1 q
   clear z
   go_wp2
   go_round
   case rel=>exact⟨k+1,by omega,by rw[ze4],by go_num⟩
   case measure=>simp[intOf];omega
  ·have H: ¬(k+1<dcn m):=fun h=>q (z.2 h)
   clear z
   go_wp2
   go_ret
   exact⟨zb7 (by omega),rfl⟩
theorem zqk (n:Int) (w:World) (O:0≤n) (h1:n≤9223372036854775807):
  Calls Tryz.prog 208 #[.int .i64 n] w fun e D=>e= .returned (.string (strOfNums (dgk n (dcn n))))∧Below w.heap.size w D:=by
 obtain⟨Z,hi,M,L,K⟩:=info_parts Tryz.infoByte
 have J:=zdw n O (by omega)
 have aa:dcn n≤20:=J.2.1
 have Y:1≤dcn n:=J.1
 clear J
 go_enter Tryz.func208,Tryz.ntmps208
 go_wp2_with (first|(go_at_call 221;refine (zks _ _ (by omega) (by omega)).mono ?_;rintro e D ⟨rfl,rfl⟩)|(at_make;refine wpList_make_full _ rfl _ _ 152 rfl D.heap.size 5 Z (.int .u8 0) 1 Tryz.underlying152 hi M L _ _ _ _ (dcn n) rfl rfl (by omega) (by omega) ?b2 ?b3 ?b4 ?_))
 case b2=>rw[K];omega
 case b3=>unfold maxLen;omega
 case b4=>exact Nat.le_refl _
 intro w1 z q
 have E:=(Below.refl D.heap.size D).grown q (Nat.le_refl _) (by intro k V;cases V)
 rw[toList_madeCells_one] at z
 clear q
 go_wp2
 go_loopw [3,7,21] (fun r _ i wr=>∃k:Nat,k≤dcn n∧i= .int .i64 k∧r= .int .u64 (n/10^k)∧zcH wr D.heap.size 5 (.slice (some ⟨D.heap.size,0,none⟩) (dcn n) (dcn n)) (dcn n) (zcI (dgk n (dcn n)) k)∧Below D.heap.size D wr) (fun _ _ i _=>dcn n-(intOf i).toNat)
 case atStart=>exact⟨0,by omega,rfl,by simp,by unfold zcH;rw[zi7,zc9,List.map_replicate];exact z,E⟩
 case round=>
  obtain⟨k,V,rfl,rfl,h,A⟩:=hrel
  clear z E
  have hb:=ze5 n k O
  by_cases H:k<dcn n
  ·obtain⟨v,hv⟩:=zgT h (dcn n-1-k) (by omega)
   have hf:=zgU h (dcn n-1-k)
   have U:=zgS h (dcn n-1-k) (48+n/10^k%10)
   have I:=zi8 (dgk n (dcn n)) k (48+n/10^k%10) (by rw[zc9];exact H) (by rw[zc9];exact ziH n _ k H)
   rw[zc9] at I
   rw[I] at U
   clear I h
   go_wp2
   go_roundw
   case rel=>exact⟨k+1,by omega,by go_num,by rw[ze4],U,A.setCell (Nat.le_refl _) _⟩
   case measure=>simp[intOf];omega
  ·have N:=zmF (dgk n (dcn n))
   rw[zc9] at N
   rw[show k=dcn n from by omega,N] at h
   clear N
   have X:=zi5 (P:=Tryz.prog) (src:=152) (dst:=9) Tryz.underlying152 Tryz.underlying5 Tryz.underlying9 h
   go_wp2
   go_ret
   exact⟨rfl,A⟩
theorem zql (m:Int) (q:0<m) (h:m≤9223372036854775808):IntKind.u64.wrap (-IntKind.u64.wrap (-m))=m:=by
 rw[IntKind.wrap_u64,IntKind.wrap_u64];omega
theorem zqm (m:Int) (w:World) (h0:0<m) (h1:m≤9223372036854775808):
  Calls Tryz.prog 208 #[.int .i64 (-m)] w fun e D=>e= .returned (.string (strOfNums (45::dgk m (dcn m))))∧Below w.heap.size w D:=by
 obtain⟨i0,hi,U,O,M⟩:=info_parts Tryz.infoByte
 have L:=zdw m (by omega) (by omega)
 have aa:dcn m≤20:=L.2.1
 have Z:1≤dcn m:=L.1
 clear L
 have hu:=zql m h0 h1
 go_enter Tryz.func208,Tryz.ntmps208
 go_wp2_with (first|(go_at_call 221;refine (zks _ _ (by omega) (by omega)).mono ?_;rintro e D ⟨rfl,rfl⟩)|(at_make;refine wpList_make_full _ rfl _ _ 152 rfl D.heap.size 5 i0 (.int .u8 0) 1 Tryz.underlying152 hi U O _ _ _ _ (dcn m+1) rfl rfl (by omega) (by omega) ?b2 ?b3 ?b4 ?_))
 case b2=>rw[M];omega
 case b3=>unfold maxLen;omega
 case b4=>exact Nat.le_refl _
 intro w1 z q
 have E:=(Below.refl D.heap.size D).grown q (Nat.le_refl _) (by intro k X;cases X)
 rw[toList_madeCells_one] at z
 clear q
 have H:(45::dgk m (dcn m)).length=dcn m+1:=by rw[List.length_cons,zc9]
 have N:Hid ((45::dgk m (dcn m)).length=dcn m+1):=H
 clear H
 go_wp2
 go_loopw [3,7,21] (fun r _ i wr=>∃k:Nat,k≤dcn m∧i= .int .i64 k∧r= .int .u64 (m/10^k)∧zcH wr D.heap.size 5 (.slice (some ⟨D.heap.size,0,none⟩) (dcn m+1) (dcn m+1)) (dcn m+1) (zcI (45::dgk m (dcn m)) k)∧Below D.heap.size D wr) (fun _ _ i _=>dcn m-(intOf i).toNat)
 case atStart=>exact⟨0,by omega,rfl,by simp,by unfold zcH;rw[zi7,N.out,List.map_replicate];exact z,E⟩
 case round=>
  obtain⟨k,X,rfl,rfl,h,A⟩:=hrel
  clear z E hu
  have hb:=ze5 m k (by omega)
  by_cases K:k<dcn m
  ·obtain⟨v,hv⟩:=zgT h (dcn m-k) (by omega)
   have hf:=zgU h (dcn m-k)
   have I:=zgS h (dcn m-k) (48+m/10^k%10)
   have J:=zi8 (45::dgk m (dcn m)) k (48+m/10^k%10) (by rw[N.out];omega) (zmH [45] m (dcn m) k K)
   rw[N.out,show dcn m+1-1-k=dcn m-k from by omega] at J
   rw[J] at I
   clear J h
   go_wp2
   go_roundw
   case rel=>exact⟨k+1,by omega,by go_num,by rw[ze4],I,A.setCell (Nat.le_refl _) _⟩
   case measure=>simp[intOf];omega
  ·have V:=zmG 45 (dgk m (dcn m))
   rw[zc9] at V
   rw[show k=dcn m from by omega] at h
   obtain⟨v,hv⟩:=zgT h 0 (by omega)
   have hf:=zgU h 0
   have I:=zgS h 0 45
   rw[V] at I
   clear V h
   have Y:=zi5 (P:=Tryz.prog) (src:=152) (dst:=9) Tryz.underlying152 Tryz.underlying5 Tryz.underlying9 I
   go_wp2
   go_ret
   exact⟨rfl,A.setCell (Nat.le_refl _) _⟩
theorem zqn (n:Int) (w:World) (z: -9223372036854775808≤n∧n≤9223372036854775807):
  Calls Tryz.prog 208 #[.int .i64 n] w fun e q=>e= .returned (.string (strOfNums (zbP n)))∧Below w.heap.size w q:=by
 by_cases h:0≤n
 ·rw[zgX h]
  exact zqk n w h z.2
 ·obtain⟨m,rfl⟩: ∃m,n= -m:=⟨-n,by omega⟩
  rw[zgW (by omega),Int.neg_neg]
  exact zqm m w (by omega) (by omega)
theorem neg_tmod (q:Int) (h:0≤q):(-q).tmod 10= -(q%10):=by rw[Int.neg_tmod,Int.tmod_eq_emod_of_nonneg h]
theorem neg_tdiv (q:Int) (h:0≤q):(-q).tdiv 10= -(q/10):=by rw[Int.neg_tdiv,Int.tdiv_eq_ediv_of_nonneg h]
theorem zqo (n:Int) (w:World) (Y:0<n) (Z:n≤9223372036854775807):
  Calls Tryz.prog 140 #[.int .i64 n] w fun e K=>e= .returned (.string (strOfNums (dgk n (dcn n))))∧Below w.heap.size w K:=by
 have E:=zdw n (by omega) (by omega)
 have V:dcn n≤20:=E.2.1
 have M:1≤dcn n:=E.1
 have U:(n==0)=false:=by simp;omega
 have J: ¬n<0:=by omega
 clear E
 go_enter Tryz.func140,Tryz.ntmps140
 go_wp2
 go_loopw [0,3,5] (fun a o _ wr=>∃k:Nat,k≤dcn n∧a= .int .i64 (n/10^k)∧o= .string (strOfNums (dgk n k))∧Below w.heap.size w wr) (fun a _ _ _=>(intOf a).toNat)
 case atStart=>exact⟨0,by omega,by simp,rfl,Below.refl _ _⟩
 case round=>
  obtain⟨k,hk,rfl,rfl,q⟩:=hrel
  have X:=ze5 n k (by omega)
  have A:=ziG n (by omega) (by omega) k
  have N:(strOfNums (dgk n k)).size≤20:=by rw[strOfNums_size,zc9];omega
  by_cases z:n/10^k=0
  ·have H: ¬(k<dcn n):=fun h=>A.2 h z
   have D:(n/10^k !=0)=false:=by simpa using z
   clear A z
   go_wp2
   go_ret
   exact⟨za6 (by rw[show dcn n=k from by omega]),q⟩
  ·have H:=A.1 z
   have D:(n/10^k !=0)=true:=by simpa using z
   have O:0<n/10^k:=by omega
   clear A z
   have L:=fun (w:World) (x:Int)=>zi6 (P:=Tryz.prog) (src:=152) (dst:=9) Tryz.underlying152 Tryz.underlying5 Tryz.underlying9 w x
   have I:=fun x=>strOfNums_size [x]
   go_wp2
   go_roundw
   case rel=>exact⟨k+1,by omega,by rw[ze4],by rw[zfL];rfl,q.alloc q.size _⟩
   case measure=>simp[intOf];omega
theorem zqp (m:Int) (w:World) (Y:0<m) (h1:m≤9223372036854775808):
  Calls Tryz.prog 140 #[.int .i64 (-m)] w fun e L=>e= .returned (.string (strOfNums (45::dgk m (dcn m))))∧Below w.heap.size w L:=by
 have A:=zdw m (by omega) (by omega)
 have X:dcn m≤20:=A.2.1
 have N:1≤dcn m:=A.1
 have V:(-m==0)=false:=by simp;omega
 clear A
 go_enter Tryz.func140,Tryz.ntmps140
 go_wp2
 go_loopw [0,3,5] (fun a o _ wr=>∃k:Nat,k≤dcn m∧a= .int .i64 (-(m/10^k))∧o= .string (strOfNums (dgk m k))∧Below w.heap.size w wr) (fun a _ _ _=>(-(intOf a)).toNat)
 case atStart=>exact⟨0,by omega,by simp,rfl,Below.refl _ _⟩
 case round=>
  obtain⟨k,hk,rfl,rfl,q⟩:=hrel
  have I:=ze5 m k (by omega)
  have D:=ziG m (by omega) (by omega) k
  have O:(strOfNums (dgk m k)).size≤20:=by rw[strOfNums_size,zc9];omega
  by_cases z:m/10^k=0
  ·have H: ¬(k<dcn m):=fun h=>D.2 h z
   have E:(-(m/10^k) !=0)=false:=by simpa using z
   have K:(strOfNums [45]).size=1:=strOfNums_size [45]
   clear D z
   go_wp2
   go_ret
   exact⟨za6 (by rw[show dcn m=k from by omega];exact zfL 45 _),q⟩
  ·have H:=D.1 z
   have E:(-(m/10^k) !=0)=true:=by simpa using z
   have U:0<m/10^k:=by omega
   clear D z
   have e1:=neg_tmod (m/10^k) I.1
   have Z:=neg_tdiv (m/10^k) I.1
   have M:=fun (w:World) (x:Int)=>zi6 (P:=Tryz.prog) (src:=152) (dst:=9) Tryz.underlying152 Tryz.underlying5 Tryz.underlying9 w x
   have J:=fun x=>strOfNums_size [x]
   by_cases A:0<m/10^k%10
   ·go_wp2
    go_roundw
    case rel=>exact⟨k+1,by omega,by rw[ze4],by rw[zfL];rfl,q.alloc q.size _⟩
    case measure=>simp[intOf];omega
   ·go_wp2
    go_roundw
    case rel=>exact⟨k+1,by omega,by rw[ze4],by rw[zfL,show 48+ -(m/10^k%10)=48+m/10^k%10 from by omega];rfl,q.alloc q.size _⟩
    case measure=>simp[intOf];omega
theorem zqq (n:Int) (w:World) (A: -9223372036854775808≤n∧n≤9223372036854775807):
  Calls Tryz.prog 140 #[.int .i64 n] w fun e q=>e= .returned (.string (strOfNums (zbP n)))∧Below w.heap.size w q:=by
 by_cases h:0<n
 ·rw[zgX (by omega)]
  exact zqo n w h A.2
 ·by_cases D:n=0
  ·subst D
   have z:Hid (zbP 0=[48]):=by show zbP 0=[48];decide
   go_enter Tryz.func140,Tryz.ntmps140
   go_wp2
   go_ret
   exact⟨za6 (by rw[z.out];rfl),Below.refl _ _⟩
  ·obtain⟨m,rfl⟩: ∃m,n= -m:=⟨-n,by omega⟩
   rw[zgW (by omega),Int.neg_neg]
   exact zqp m w (by omega) (by omega)
theorem zkt (k:Int) (w:World):Calls Tryz.prog 96 #[.int .i64 k] w fun e A=>e= .returned (.bool (zZ k))∧A=w:=by
 cases q:(k==6) with
 |true=>
  have h:Hid (zZ k=true):=by show _=_;rw[zZ,q];rfl
  go_enter Tryz.func96,Tryz.ntmps96
  go_wp2
  go_ret
  exact⟨zh h.out.symm,rfl⟩
 |false=>
  cases z:(k==7) with
  |true=>
   have h:Hid (zZ k=true):=by show _=_;rw[zZ,q,z];rfl
   go_enter Tryz.func96,Tryz.ntmps96
   go_wp2
   go_ret
   exact⟨zh h.out.symm,rfl⟩
  |false=>
   have h:Hid (zZ k=(k==8)):=by show _=_;rw[zZ,q,z];simp
   go_enter Tryz.func96,Tryz.ntmps96
   go_wp2
   go_ret
   exact⟨zh h.out.symm,rfl⟩
theorem zhG (q:Nat) (S:Sv) (m:Md) (i:Nat) (w:World) (h:OwnMd w q S m) (H:i<m.ex.length):
  Calls Tryz.prog 142 #[zn S m,.int .i64 i] w fun e D=>e= .returned (.bool (zP (m.ex.getD i zi).kind))∧Below w.heap.size w D:=by
 obtain⟨g,hg,hlt,c0,-,-,-,-,-⟩:=h.expr H
 have E:(i:Int)<(m.ex.length:Int):=by omega
 unfold zn
 rw[hg]
 generalize (m.ex.getD i zi).kind=k at c0 ⊢
 clear h hg
 cases A:(k==6) with
 |true=>
  have z:Hid (zP k=true):=by show _=_;rw[zP,A];rfl
  go_enter Tryz.func142,Tryz.ntmps142
  go_wp2
  go_ret
  exact⟨zh z.out.symm,(Below.refl _ _).alloc (Nat.le_refl _) _⟩
 |false=>
  have z:Hid (zP k=(k==7)):=by show _=_;rw[zP,A];simp
  go_enter Tryz.func142,Tryz.ntmps142
  go_wp2
  go_ret
  exact⟨zh z.out.symm,(Below.refl _ _).alloc (Nat.le_refl _) _⟩
def zeN (base:Nat) (S:Sv) (m:Md) (n:Nat):Prop:=∀(i:Nat) (w:World),i<n→i<m.ex.length→OwnMd w base S m→wt m.ex i≤1099511627776→
 Calls Tryz.prog 98 #[zn S m,.int .i64 i] w fun e w'=>e= .returned (.string (prX m.ex i))∧Below w.heap.size w w'
theorem zgz (q:Nat) (S:Sv) (m:Md) (n i:Nat) (b:Bool) (w:World) (N:zeN q S m n) (J:i<n) (K:i<m.ex.length) (h:OwnMd w q S m) (E:wt m.ex i≤1099511627776):
  Calls Tryz.prog 141 #[zn S m,.int .i64 i,.bool b] w fun e U=>e= .returned (.string (zH b (prX m.ex i)))∧Below w.heap.size w U:=by
 have M:=zc N
 have O:=zc h
 have L:=zc E
 unfold wt at E
 clear N h
 unfold zn
 cases b with
 |true=>
  have A:Hid (zH true (prX m.ex i)=zo++prX m.ex i++za7):=rfl
  go_enter Tryz.func141,Tryz.ntmps141
  go_wp2_with fail
  refine (M.out i _ J K (O.out.alloc _) L.out).mono ?_
  rintro e D ⟨rfl,z⟩
  have H:Hid (Below w.heap.size w D):=((Below.refl _ _).alloc (Nat.le_refl _) _).trans (z.mono (by rw[zg];omega))
  clear z
  generalize I:prX m.ex i=t at E A ⊢
  have V:=zc I
  clear I
  go_wp2
  go_ret
  exact⟨za6 (by rw[V.out];exact A.out.symm),H.out⟩
 |false=>
  have A:Hid (zH false (prX m.ex i)=prX m.ex i):=rfl
  go_enter Tryz.func141,Tryz.ntmps141
  go_wp2_with fail
  refine (M.out i _ J K (O.out.alloc _) L.out).mono ?_
  rintro e D ⟨rfl,z⟩
  have H:Hid (Below w.heap.size w D):=((Below.refl _ _).alloc (Nat.le_refl _) _).trans (z.mono (by rw[zg];omega))
  clear z
  go_wp2
  go_ret
  exact⟨za6 A.out.symm,H.out⟩
theorem zqr (g:Nat) (S:Sv) (m:Md) (i:Nat) (k q l r:Int) (L H:ByteArray) (w:World) (h:S.ex.a=some ⟨g,0,none⟩) (V:i<m.ex.length) (K:g<w.heap.size) (N:w.cell? ⟨g,i*6,none⟩=some (.int .i64 k)) (U:w.cell? ⟨g,i*6+1,none⟩=some (.int .i64 q)) (M:w.cell? ⟨g,i*6+2,none⟩=some (.string L)) (c3:w.cell? ⟨g,i*6+3,none⟩=some (.string H)) (c4:w.cell? ⟨g,i*6+4,none⟩=some (.int .i64 l)) (c5:w.cell? ⟨g,i*6+5,none⟩=some (.int .i64 r)) (O:(k==1)=true) (z: -9223372036854775808≤q∧q≤9223372036854775807):
  Calls Tryz.prog 98 #[zn S m,.int .i64 i] w fun e E=>e= .returned (.string (strOfNums (zbP q)))∧Below w.heap.size w E:=by
 have J:(i:Int)<(m.ex.length:Int):=by omega
 unfold zn
 rw[h]
 clear h
 go_enter Tryz.func98,Tryz.ntmps98
 go_wp2_with fail
 refine (zqq q _ z).mono ?_
 rintro e D ⟨rfl,A⟩
 have I:Hid (Below w.heap.size w D):=(zbc w _ _).trans (A.mono (by rw[zg,zg];omega))
 clear A
 go_wp2
 go_ret
 exact⟨rfl,I.out⟩
theorem zqs (g:Nat) (S:Sv) (m:Md) (i:Nat) (k H l r:Int) (q A:ByteArray) (w:World) (h:S.ex.a=some ⟨g,0,none⟩) (N:i<m.ex.length) (E:g<w.heap.size) (J:w.cell? ⟨g,i*6,none⟩=some (.int .i64 k)) (M:w.cell? ⟨g,i*6+1,none⟩=some (.int .i64 H)) (I:w.cell? ⟨g,i*6+2,none⟩=some (.string q)) (c3:w.cell? ⟨g,i*6+3,none⟩=some (.string A)) (c4:w.cell? ⟨g,i*6+4,none⟩=some (.int .i64 l)) (c5:w.cell? ⟨g,i*6+5,none⟩=some (.int .i64 r)) (L:(k==1)=false) (K:(k==2)=true):
  Calls Tryz.prog 98 #[zn S m,.int .i64 i] w fun e z=>e= .returned (.string (q))∧Below w.heap.size w z:=by
 have D:(i:Int)<(m.ex.length:Int):=by omega
 unfold zn
 rw[h]
 clear h
 go_enter Tryz.func98,Tryz.ntmps98
 go_wp2
 go_ret
 exact⟨rfl,((Below.refl _ _).alloc (Nat.le_refl _) _).alloc (by show _≤(w.heap.push _).size;simp) _⟩
theorem zqt (g:Nat) (S:Sv) (m:Md) (i:Nat) (k K l r:Int) (z H:ByteArray) (w:World) (q:S.ex.a=some ⟨g,0,none⟩) (X:i<m.ex.length) (J:g<w.heap.size) (N:w.cell? ⟨g,i*6,none⟩=some (.int .i64 k)) (V:w.cell? ⟨g,i*6+1,none⟩=some (.int .i64 K)) (M:w.cell? ⟨g,i*6+2,none⟩=some (.string z)) (c3:w.cell? ⟨g,i*6+3,none⟩=some (.string H)) (c4:w.cell? ⟨g,i*6+4,none⟩=some (.int .i64 l)) (c5:w.cell? ⟨g,i*6+5,none⟩=some (.int .i64 r)) (U:(k==1)=false) (O:(k==2)=false) (L:(k==3)=true) (h:(z++cParens).size≤1099511627776):
  Calls Tryz.prog 98 #[zn S m,.int .i64 i] w fun e E=>e= .returned (.string (z++cParens))∧Below w.heap.size w E:=by
 have I:(i:Int)<(m.ex.length:Int):=by omega
 unfold zn
 rw[q]
 clear q
 simp only[ByteArray.size_append] at h
 have A:cParens.size=2:=rfl
 have D:z.size≤1099511627776:=by omega
 clear h A
 go_enter Tryz.func98,Tryz.ntmps98
 go_wp2
 go_ret
 exact⟨rfl,((Below.refl _ _).alloc (Nat.le_refl _) _).alloc (by show _≤(w.heap.push _).size;simp) _⟩
theorem zqu (g:Nat) (S:Sv) (m:Md) (i:Nat) (k J l r:Int) (A z:ByteArray) (w:World) (h:S.ex.a=some ⟨g,0,none⟩) (Y:i<m.ex.length) (I:g<w.heap.size) (Z:w.cell? ⟨g,i*6,none⟩=some (.int .i64 k)) (X:w.cell? ⟨g,i*6+1,none⟩=some (.int .i64 J)) (M:w.cell? ⟨g,i*6+2,none⟩=some (.string A)) (c3:w.cell? ⟨g,i*6+3,none⟩=some (.string z)) (c4:w.cell? ⟨g,i*6+4,none⟩=some (.int .i64 l)) (c5:w.cell? ⟨g,i*6+5,none⟩=some (.int .i64 r)) (V:(k==1)=false) (U:(k==2)=false) (O:(k==3)=false) (N:(k==4)=true) (q:(A++cPoint++z).size≤1099511627776):
  Calls Tryz.prog 98 #[zn S m,.int .i64 i] w fun e H=>e= .returned (.string (A++cPoint++z))∧Below w.heap.size w H:=by
 have L:(i:Int)<(m.ex.length:Int):=by omega
 unfold zn
 rw[h]
 clear h
 simp only[ByteArray.size_append] at q
 have D:cPoint.size=1:=rfl
 have E:A.size≤1099511627776:=by omega
 have K:z.size≤1099511627776:=by omega
 clear q D
 go_enter Tryz.func98,Tryz.ntmps98
 go_wp2
 go_ret
 exact⟨rfl,((Below.refl _ _).alloc (Nat.le_refl _) _).alloc (by show _≤(w.heap.push _).size;simp) _⟩
theorem zqv (g:Nat) (S:Sv) (m:Md) (i:Nat) (k K l r:Int) (A z:ByteArray) (w:World) (h:S.ex.a=some ⟨g,0,none⟩) (hi:i<m.ex.length) (J:g<w.heap.size) (c0:w.cell? ⟨g,i*6,none⟩=some (.int .i64 k)) (Z:w.cell? ⟨g,i*6+1,none⟩=some (.int .i64 K)) (N:w.cell? ⟨g,i*6+2,none⟩=some (.string A)) (c3:w.cell? ⟨g,i*6+3,none⟩=some (.string z)) (c4:w.cell? ⟨g,i*6+4,none⟩=some (.int .i64 l)) (c5:w.cell? ⟨g,i*6+5,none⟩=some (.int .i64 r)) (X:(k==1)=false) (V:(k==2)=false) (U:(k==3)=false) (O:(k==4)=false) (Y:(k==5)=true) (q:(A++cPoint++z++cParens).size≤1099511627776):
  Calls Tryz.prog 98 #[zn S m,.int .i64 i] w fun e I=>e= .returned (.string (A++cPoint++z++cParens))∧Below w.heap.size w I:=by
 have M:(i:Int)<(m.ex.length:Int):=by omega
 unfold zn
 rw[h]
 clear h
 simp only[ByteArray.size_append] at q
 have D:cParens.size=2:=rfl
 have E:cPoint.size=1:=rfl
 have H:A.size≤1099511627776:=by omega
 have L:z.size≤1099511627776:=by omega
 clear q D E
 go_enter Tryz.func98,Tryz.ntmps98
 go_wp2
 go_ret
 exact⟨rfl,((Below.refl _ _).alloc (Nat.le_refl _) _).alloc (by show _≤(w.heap.push _).size;simp) _⟩
theorem zqw (g:Nat) (S:Sv) (m:Md) (i:Nat) (k D l r:Int) (H z:ByteArray) (w:World) (h:S.ex.a=some ⟨g,0,none⟩) (Y:i<m.ex.length) (A:g<w.heap.size) (Z:w.cell? ⟨g,i*6,none⟩=some (.int .i64 k)) (X:w.cell? ⟨g,i*6+1,none⟩=some (.int .i64 D)) (J:w.cell? ⟨g,i*6+2,none⟩=some (.string H)) (c3:w.cell? ⟨g,i*6+3,none⟩=some (.string z)) (c4:w.cell? ⟨g,i*6+4,none⟩=some (.int .i64 l)) (c5:w.cell? ⟨g,i*6+5,none⟩=some (.int .i64 r)) (U:(k==1)=false) (O:(k==2)=false) (N:(k==3)=false) (K:(k==4)=false) (V:(k==5)=false) (I:(k==6)=false) (M:(k==7)=false) (L:(k==8)=false):
  Calls Tryz.prog 98 #[zn S m,.int .i64 i] w fun e q=>e= .returned (.string (sNone))∧Below w.heap.size w q:=by
 have E:(i:Int)<(m.ex.length:Int):=by omega
 unfold zn
 rw[h]
 clear h
 go_enter Tryz.func98,Tryz.ntmps98
 go_wp2
 go_ret
 exact⟨rfl,((Below.refl _ _).alloc (Nat.le_refl _) _).alloc (by show _≤(w.heap.push _).size;simp) _⟩
theorem zqx (A g:Nat) (S:Sv) (m:Md) (i z q:Nat) (k E:Int) (H D:ByteArray) (w:World) (K:S.ex.a=some ⟨g,0,none⟩) (h:OwnMd w A S m) (hi:i<m.ex.length) (ad:g<w.heap.size) (c0:w.cell? ⟨g,i*6,none⟩=some (.int .i64 k)) (c1:w.cell? ⟨g,i*6+1,none⟩=some (.int .i64 E)) (c2:w.cell? ⟨g,i*6+2,none⟩=some (.string H)) (c3:w.cell? ⟨g,i*6+3,none⟩=some (.string D)) (c4:w.cell? ⟨g,i*6+4,none⟩=some (.int .i64 (z:Int))) (c5:w.cell? ⟨g,i*6+5,none⟩=some (.int .i64 (q:Int))) (k1:(k==1)=false) (k2:(k==2)=false) (k3:(k==3)=false) (k4:(k==4)=false) (k5:(k==5)=false) (k6:(k==6)=true) (U:(prX m.ex z++tPlus++zH (zP (m.ex.getD q zi).kind) (prX m.ex q)).size≤1099511627776) (he:zeN A S m i) (hl:z<i) (hr:q<i) (ae:wt m.ex z≤1099511627776) (ag:wt m.ex q≤1099511627776):
  Calls Tryz.prog 98 #[zn S m,.int .i64 i] w fun e w'=>e= .returned (.string (prX m.ex z++tPlus++zH (zP (m.ex.getD q zi).kind) (prX m.ex q)))∧Below w.heap.size w w':=by
 have ak:(i:Int)<(m.ex.length:Int):=by omega
 have HA:Hid (OwnMd ((w.alloc (.cells #[.slice S.rq.a m.rq.length S.rq.cap,.slice S.im.a m.im.length S.im.cap,.slice S.ep.a m.ep.length S.ep.cap,.slice S.st.a m.st.length S.st.cap,.slice (some ⟨g,0,none⟩) m.ex.length S.ex.cap] 48)).alloc (.cells #[.int .i64 k,.int .i64 E,.string H,.string D,.int .i64 (z:Int),.int .i64 (q:Int)] 85)) A S m):=(h.alloc _).alloc _
 have HE:=zc he
 have L:Hid (zn S m= .agg #[.slice S.rq.a m.rq.length S.rq.cap,.slice S.im.a m.im.length S.im.cap,.slice S.ep.a m.ep.length S.ep.cap,.slice S.st.a m.st.length S.st.cap,.slice (some ⟨g,0,none⟩) m.ex.length S.ex.cap]):=by show _=_;rw[zn,K]
 have aj:(z:Int)<(m.ex.length:Int):=by omega
 have ai:(q:Int)<(m.ex.length:Int):=by omega
 obtain⟨g2,hg2,-,d0,-,-,-,-,-⟩:=h.expr (i:=q) (by omega)
 have eg:g2=g:=by have:=hg2.symm.trans K;simpa using this
 rw[eg] at d0
 obtain⟨kr,Z⟩: ∃kr,(m.ex.getD q zi).kind=kr:=⟨_,rfl⟩
 rw[Z] at d0
 have V:=zc Z
 obtain⟨tl,O⟩: ∃tl,prX m.ex z=tl:=⟨_,rfl⟩
 obtain⟨tr,ab⟩: ∃tr,zH (zP (m.ex.getD q zi).kind) (prX m.ex q)=tr:=⟨_,rfl⟩
 rw[O,ab] at U
 have N:=zc O
 have aa:=zc ab
 have cL: ∀d I,Calls Tryz.prog 98 #[.agg #[.slice S.rq.a m.rq.length S.rq.cap,.slice S.im.a m.im.length S.im.cap,.slice S.ep.a m.ep.length S.ep.cap,.slice S.st.a m.st.length S.st.cap,.slice (some ⟨g,0,none⟩) m.ex.length S.ex.cap],.int .i64 (z:Int)] (grow (redrawn ((w.alloc (.cells #[.slice S.rq.a m.rq.length S.rq.cap,.slice S.im.a m.im.length S.im.cap,.slice S.ep.a m.ep.length S.ep.cap,.slice S.st.a m.st.length S.st.cap,.slice (some ⟨g,0,none⟩) m.ex.length S.ex.cap] 48)).alloc (.cells #[.int .i64 k,.int .i64 E,.string H,.string D,.int .i64 (z:Int),.int .i64 (q:Int)] 85)) d) I) fun e J=>e= .returned (.string tl)∧∃p:Regrown,J=grow (redrawn ((w.alloc (.cells #[.slice S.rq.a m.rq.length S.rq.cap,.slice S.im.a m.im.length S.im.cap,.slice S.ep.a m.ep.length S.ep.cap,.slice S.st.a m.st.length S.st.cap,.slice (some ⟨g,0,none⟩) m.ex.length S.ex.cap] 48)).alloc (.cells #[.int .i64 k,.int .i64 E,.string H,.string D,.int .i64 (z:Int),.int .i64 (q:Int)] 85)) p.d) p.os:=fun d I=>Calls.regrown_of (by rw[←L.out,←N.out];exact HE.out z _ (by omega) (by omega) (HA.out.later (below_regrown _ d I)) ae)
 have cS: ∀d I,Calls Tryz.prog 142 #[.agg #[.slice S.rq.a m.rq.length S.rq.cap,.slice S.im.a m.im.length S.im.cap,.slice S.ep.a m.ep.length S.ep.cap,.slice S.st.a m.st.length S.st.cap,.slice (some ⟨g,0,none⟩) m.ex.length S.ex.cap],.int .i64 (q:Int)] (grow (redrawn ((w.alloc (.cells #[.slice S.rq.a m.rq.length S.rq.cap,.slice S.im.a m.im.length S.im.cap,.slice S.ep.a m.ep.length S.ep.cap,.slice S.st.a m.st.length S.st.cap,.slice (some ⟨g,0,none⟩) m.ex.length S.ex.cap] 48)).alloc (.cells #[.int .i64 k,.int .i64 E,.string H,.string D,.int .i64 (z:Int),.int .i64 (q:Int)] 85)) d) I) fun e J=>e= .returned (.bool (zP kr))∧∃p:Regrown,J=grow (redrawn ((w.alloc (.cells #[.slice S.rq.a m.rq.length S.rq.cap,.slice S.im.a m.im.length S.im.cap,.slice S.ep.a m.ep.length S.ep.cap,.slice S.st.a m.st.length S.st.cap,.slice (some ⟨g,0,none⟩) m.ex.length S.ex.cap] 48)).alloc (.cells #[.int .i64 k,.int .i64 E,.string H,.string D,.int .i64 (z:Int),.int .i64 (q:Int)] 85)) p.d) p.os:=fun d I=>Calls.regrown_of (by rw[←L.out,←V.out];exact zhG A S m q _ (HA.out.later (below_regrown _ d I)) (by omega))
 have cR: ∀d I,Calls Tryz.prog 141 #[.agg #[.slice S.rq.a m.rq.length S.rq.cap,.slice S.im.a m.im.length S.im.cap,.slice S.ep.a m.ep.length S.ep.cap,.slice S.st.a m.st.length S.st.cap,.slice (some ⟨g,0,none⟩) m.ex.length S.ex.cap],.int .i64 (q:Int),.bool (zP kr)] (grow (redrawn ((w.alloc (.cells #[.slice S.rq.a m.rq.length S.rq.cap,.slice S.im.a m.im.length S.im.cap,.slice S.ep.a m.ep.length S.ep.cap,.slice S.st.a m.st.length S.st.cap,.slice (some ⟨g,0,none⟩) m.ex.length S.ex.cap] 48)).alloc (.cells #[.int .i64 k,.int .i64 E,.string H,.string D,.int .i64 (z:Int),.int .i64 (q:Int)] 85)) d) I) fun e J=>e= .returned (.string tr)∧∃p:Regrown,J=grow (redrawn ((w.alloc (.cells #[.slice S.rq.a m.rq.length S.rq.cap,.slice S.im.a m.im.length S.im.cap,.slice S.ep.a m.ep.length S.ep.cap,.slice S.st.a m.st.length S.st.cap,.slice (some ⟨g,0,none⟩) m.ex.length S.ex.cap] 48)).alloc (.cells #[.int .i64 k,.int .i64 E,.string H,.string D,.int .i64 (z:Int),.int .i64 (q:Int)] 85)) p.d) p.os:=fun d I=>Calls.regrown_of (by rw[←L.out,←aa.out,V.out];exact zgz A S m i q _ _ HE.out (by omega) (by omega) (HA.out.later (below_regrown _ d I)) ag)
 have X:Hid (Six ((w.alloc (.cells #[.slice S.rq.a m.rq.length S.rq.cap,.slice S.im.a m.im.length S.im.cap,.slice S.ep.a m.ep.length S.ep.cap,.slice S.st.a m.st.length S.st.cap,.slice (some ⟨g,0,none⟩) m.ex.length S.ex.cap] 48)).alloc (.cells #[.int .i64 k,.int .i64 E,.string H,.string D,.int .i64 (z:Int),.int .i64 (q:Int)] 85)) (w.heap.size+1) (.int .i64 k) (.int .i64 E) (.string H) (.string D) (.int .i64 (z:Int)) (.int .i64 (q:Int))):=zw (new2 w _ _)
 have Y:=zc (zk (zcA (o':=.cells #[.int .i64 k,.int .i64 E,.string H,.string D,.int .i64 (z:Int),.int .i64 (q:Int)] 85) (heap_alloc_new w (.cells #[.slice S.rq.a m.rq.length S.rq.cap,.slice S.im.a m.im.length S.im.cap,.slice S.ep.a m.ep.length S.ep.cap,.slice S.st.a m.st.length S.st.cap,.slice (some ⟨g,0,none⟩) m.ex.length S.ex.cap] 48))))
 have D0:Hid (((w.alloc (.cells #[.slice S.rq.a m.rq.length S.rq.cap,.slice S.im.a m.im.length S.im.cap,.slice S.ep.a m.ep.length S.ep.cap,.slice S.st.a m.st.length S.st.cap,.slice (some ⟨g,0,none⟩) m.ex.length S.ex.cap] 48)).alloc (.cells #[.int .i64 k,.int .i64 E,.string H,.string D,.int .i64 (z:Int),.int .i64 (q:Int)] 85)).cell? ⟨g,q*6,none⟩=some (.int .i64 kr)):=by show _=_;rw[World.cell?_alloc_past _ _ _ (by rw[zg];omega),World.cell?_alloc_past _ _ _ ad];exact d0
 simp only[ByteArray.size_append] at U
 have ac:tPlus.size=3:=rfl
 have al:tl.size≤1099511627776:=by omega
 have am:tr.size≤1099511627776:=by omega
 have HV:Hid ((prX m.ex z++tPlus++zH (zP (m.ex.getD q zi).kind) (prX m.ex q))=tl++tPlus++tr):=by show _=_;rw[N.out,aa.out]
 unfold zn
 rw[K]
 clear K h HA HE L N aa O ab Z V hg2 he U ac d0 eg
 go_enter Tryz.func98,Tryz.ntmps98
 go_wp2_with fail
 have x0:=cell_regrown X.out.c0
 have x4:=cell_regrown X.out.c4
 have x5:=cell_regrown X.out.c5
 have y0:=cell_regrown Y.out.1
 have y1:=cell_regrown Y.out.2.1
 have y2:=cell_regrown Y.out.2.2.1
 have y3:=cell_regrown Y.out.2.2.2.1
 have y4:=cell_regrown Y.out.2.2.2.2.1
 have e0:=cell_regrown D0.out
 refine wp_region_quiet_below (by kernel_rfl) (by kernel_rfl) ?_
 repeat (go_big_quiet_step (first|with_reducible exact cL _ _|with_reducible exact cS _ _|with_reducible exact cR _ _))
 refine wpQuiet_nil ?_
 intro w1 af
 obtain⟨⟨dq,an⟩,M⟩:=af
 have ah:Hid (Below w.heap.size w w1):=by show Below _ _ _;rw[M];exact (zbc w _ _).trans ((below_regrown _ _ _).mono (by rw[zg,zg];omega))
 clear M
 go_wp2
 go_ret
 exact⟨za6 HV.out.symm,ah.out⟩
theorem zqy (A g:Nat) (S:Sv) (m:Md) (i z q:Nat) (k E:Int) (H D:ByteArray) (w:World) (K:S.ex.a=some ⟨g,0,none⟩) (h:OwnMd w A S m) (hi:i<m.ex.length) (ad:g<w.heap.size) (c0:w.cell? ⟨g,i*6,none⟩=some (.int .i64 k)) (c1:w.cell? ⟨g,i*6+1,none⟩=some (.int .i64 E)) (c2:w.cell? ⟨g,i*6+2,none⟩=some (.string H)) (c3:w.cell? ⟨g,i*6+3,none⟩=some (.string D)) (c4:w.cell? ⟨g,i*6+4,none⟩=some (.int .i64 (z:Int))) (c5:w.cell? ⟨g,i*6+5,none⟩=some (.int .i64 (q:Int))) (k1:(k==1)=false) (k2:(k==2)=false) (k3:(k==3)=false) (k4:(k==4)=false) (k5:(k==5)=false) (k6:(k==6)=false) (k7:(k==7)=true) (U:(prX m.ex z++tMinus++zH (zP (m.ex.getD q zi).kind) (prX m.ex q)).size≤1099511627776) (he:zeN A S m i) (hl:z<i) (hr:q<i) (ae:wt m.ex z≤1099511627776) (ag:wt m.ex q≤1099511627776):
  Calls Tryz.prog 98 #[zn S m,.int .i64 i] w fun e w'=>e= .returned (.string (prX m.ex z++tMinus++zH (zP (m.ex.getD q zi).kind) (prX m.ex q)))∧Below w.heap.size w w':=by
 have ak:(i:Int)<(m.ex.length:Int):=by omega
 have HA:Hid (OwnMd ((w.alloc (.cells #[.slice S.rq.a m.rq.length S.rq.cap,.slice S.im.a m.im.length S.im.cap,.slice S.ep.a m.ep.length S.ep.cap,.slice S.st.a m.st.length S.st.cap,.slice (some ⟨g,0,none⟩) m.ex.length S.ex.cap] 48)).alloc (.cells #[.int .i64 k,.int .i64 E,.string H,.string D,.int .i64 (z:Int),.int .i64 (q:Int)] 85)) A S m):=(h.alloc _).alloc _
 have HE:=zc he
 have L:Hid (zn S m= .agg #[.slice S.rq.a m.rq.length S.rq.cap,.slice S.im.a m.im.length S.im.cap,.slice S.ep.a m.ep.length S.ep.cap,.slice S.st.a m.st.length S.st.cap,.slice (some ⟨g,0,none⟩) m.ex.length S.ex.cap]):=by show _=_;rw[zn,K]
 have aj:(z:Int)<(m.ex.length:Int):=by omega
 have ai:(q:Int)<(m.ex.length:Int):=by omega
 obtain⟨g2,hg2,-,d0,-,-,-,-,-⟩:=h.expr (i:=q) (by omega)
 have eg:g2=g:=by have:=hg2.symm.trans K;simpa using this
 rw[eg] at d0
 obtain⟨kr,Z⟩: ∃kr,(m.ex.getD q zi).kind=kr:=⟨_,rfl⟩
 rw[Z] at d0
 have V:=zc Z
 obtain⟨tl,O⟩: ∃tl,prX m.ex z=tl:=⟨_,rfl⟩
 obtain⟨tr,ab⟩: ∃tr,zH (zP (m.ex.getD q zi).kind) (prX m.ex q)=tr:=⟨_,rfl⟩
 rw[O,ab] at U
 have N:=zc O
 have aa:=zc ab
 have cL: ∀d I,Calls Tryz.prog 98 #[.agg #[.slice S.rq.a m.rq.length S.rq.cap,.slice S.im.a m.im.length S.im.cap,.slice S.ep.a m.ep.length S.ep.cap,.slice S.st.a m.st.length S.st.cap,.slice (some ⟨g,0,none⟩) m.ex.length S.ex.cap],.int .i64 (z:Int)] (grow (redrawn ((w.alloc (.cells #[.slice S.rq.a m.rq.length S.rq.cap,.slice S.im.a m.im.length S.im.cap,.slice S.ep.a m.ep.length S.ep.cap,.slice S.st.a m.st.length S.st.cap,.slice (some ⟨g,0,none⟩) m.ex.length S.ex.cap] 48)).alloc (.cells #[.int .i64 k,.int .i64 E,.string H,.string D,.int .i64 (z:Int),.int .i64 (q:Int)] 85)) d) I) fun e J=>e= .returned (.string tl)∧∃p:Regrown,J=grow (redrawn ((w.alloc (.cells #[.slice S.rq.a m.rq.length S.rq.cap,.slice S.im.a m.im.length S.im.cap,.slice S.ep.a m.ep.length S.ep.cap,.slice S.st.a m.st.length S.st.cap,.slice (some ⟨g,0,none⟩) m.ex.length S.ex.cap] 48)).alloc (.cells #[.int .i64 k,.int .i64 E,.string H,.string D,.int .i64 (z:Int),.int .i64 (q:Int)] 85)) p.d) p.os:=fun d I=>Calls.regrown_of (by rw[←L.out,←N.out];exact HE.out z _ (by omega) (by omega) (HA.out.later (below_regrown _ d I)) ae)
 have cS: ∀d I,Calls Tryz.prog 142 #[.agg #[.slice S.rq.a m.rq.length S.rq.cap,.slice S.im.a m.im.length S.im.cap,.slice S.ep.a m.ep.length S.ep.cap,.slice S.st.a m.st.length S.st.cap,.slice (some ⟨g,0,none⟩) m.ex.length S.ex.cap],.int .i64 (q:Int)] (grow (redrawn ((w.alloc (.cells #[.slice S.rq.a m.rq.length S.rq.cap,.slice S.im.a m.im.length S.im.cap,.slice S.ep.a m.ep.length S.ep.cap,.slice S.st.a m.st.length S.st.cap,.slice (some ⟨g,0,none⟩) m.ex.length S.ex.cap] 48)).alloc (.cells #[.int .i64 k,.int .i64 E,.string H,.string D,.int .i64 (z:Int),.int .i64 (q:Int)] 85)) d) I) fun e J=>e= .returned (.bool (zP kr))∧∃p:Regrown,J=grow (redrawn ((w.alloc (.cells #[.slice S.rq.a m.rq.length S.rq.cap,.slice S.im.a m.im.length S.im.cap,.slice S.ep.a m.ep.length S.ep.cap,.slice S.st.a m.st.length S.st.cap,.slice (some ⟨g,0,none⟩) m.ex.length S.ex.cap] 48)).alloc (.cells #[.int .i64 k,.int .i64 E,.string H,.string D,.int .i64 (z:Int),.int .i64 (q:Int)] 85)) p.d) p.os:=fun d I=>Calls.regrown_of (by rw[←L.out,←V.out];exact zhG A S m q _ (HA.out.later (below_regrown _ d I)) (by omega))
 have cR: ∀d I,Calls Tryz.prog 141 #[.agg #[.slice S.rq.a m.rq.length S.rq.cap,.slice S.im.a m.im.length S.im.cap,.slice S.ep.a m.ep.length S.ep.cap,.slice S.st.a m.st.length S.st.cap,.slice (some ⟨g,0,none⟩) m.ex.length S.ex.cap],.int .i64 (q:Int),.bool (zP kr)] (grow (redrawn ((w.alloc (.cells #[.slice S.rq.a m.rq.length S.rq.cap,.slice S.im.a m.im.length S.im.cap,.slice S.ep.a m.ep.length S.ep.cap,.slice S.st.a m.st.length S.st.cap,.slice (some ⟨g,0,none⟩) m.ex.length S.ex.cap] 48)).alloc (.cells #[.int .i64 k,.int .i64 E,.string H,.string D,.int .i64 (z:Int),.int .i64 (q:Int)] 85)) d) I) fun e J=>e= .returned (.string tr)∧∃p:Regrown,J=grow (redrawn ((w.alloc (.cells #[.slice S.rq.a m.rq.length S.rq.cap,.slice S.im.a m.im.length S.im.cap,.slice S.ep.a m.ep.length S.ep.cap,.slice S.st.a m.st.length S.st.cap,.slice (some ⟨g,0,none⟩) m.ex.length S.ex.cap] 48)).alloc (.cells #[.int .i64 k,.int .i64 E,.string H,.string D,.int .i64 (z:Int),.int .i64 (q:Int)] 85)) p.d) p.os:=fun d I=>Calls.regrown_of (by rw[←L.out,←aa.out,V.out];exact zgz A S m i q _ _ HE.out (by omega) (by omega) (HA.out.later (below_regrown _ d I)) ag)
 have X:Hid (Six ((w.alloc (.cells #[.slice S.rq.a m.rq.length S.rq.cap,.slice S.im.a m.im.length S.im.cap,.slice S.ep.a m.ep.length S.ep.cap,.slice S.st.a m.st.length S.st.cap,.slice (some ⟨g,0,none⟩) m.ex.length S.ex.cap] 48)).alloc (.cells #[.int .i64 k,.int .i64 E,.string H,.string D,.int .i64 (z:Int),.int .i64 (q:Int)] 85)) (w.heap.size+1) (.int .i64 k) (.int .i64 E) (.string H) (.string D) (.int .i64 (z:Int)) (.int .i64 (q:Int))):=zw (new2 w _ _)
 have Y:=zc (zk (zcA (o':=.cells #[.int .i64 k,.int .i64 E,.string H,.string D,.int .i64 (z:Int),.int .i64 (q:Int)] 85) (heap_alloc_new w (.cells #[.slice S.rq.a m.rq.length S.rq.cap,.slice S.im.a m.im.length S.im.cap,.slice S.ep.a m.ep.length S.ep.cap,.slice S.st.a m.st.length S.st.cap,.slice (some ⟨g,0,none⟩) m.ex.length S.ex.cap] 48))))
 have D0:Hid (((w.alloc (.cells #[.slice S.rq.a m.rq.length S.rq.cap,.slice S.im.a m.im.length S.im.cap,.slice S.ep.a m.ep.length S.ep.cap,.slice S.st.a m.st.length S.st.cap,.slice (some ⟨g,0,none⟩) m.ex.length S.ex.cap] 48)).alloc (.cells #[.int .i64 k,.int .i64 E,.string H,.string D,.int .i64 (z:Int),.int .i64 (q:Int)] 85)).cell? ⟨g,q*6,none⟩=some (.int .i64 kr)):=by show _=_;rw[World.cell?_alloc_past _ _ _ (by rw[zg];omega),World.cell?_alloc_past _ _ _ ad];exact d0
 simp only[ByteArray.size_append] at U
 have ac:tMinus.size=3:=rfl
 have al:tl.size≤1099511627776:=by omega
 have am:tr.size≤1099511627776:=by omega
 have HV:Hid ((prX m.ex z++tMinus++zH (zP (m.ex.getD q zi).kind) (prX m.ex q))=tl++tMinus++tr):=by show _=_;rw[N.out,aa.out]
 unfold zn
 rw[K]
 clear K h HA HE L N aa O ab Z V hg2 he U ac d0 eg
 go_enter Tryz.func98,Tryz.ntmps98
 go_wp2_with fail
 have x0:=cell_regrown X.out.c0
 have x4:=cell_regrown X.out.c4
 have x5:=cell_regrown X.out.c5
 have y0:=cell_regrown Y.out.1
 have y1:=cell_regrown Y.out.2.1
 have y2:=cell_regrown Y.out.2.2.1
 have y3:=cell_regrown Y.out.2.2.2.1
 have y4:=cell_regrown Y.out.2.2.2.2.1
 have e0:=cell_regrown D0.out
 refine wp_region_quiet_below (by kernel_rfl) (by kernel_rfl) ?_
 repeat (go_big_quiet_step (first|with_reducible exact cL _ _|with_reducible exact cS _ _|with_reducible exact cR _ _))
 refine wpQuiet_nil ?_
 intro w1 af
 obtain⟨⟨dq,an⟩,M⟩:=af
 have ah:Hid (Below w.heap.size w w1):=by show Below _ _ _;rw[M];exact (zbc w _ _).trans ((below_regrown _ _ _).mono (by rw[zg,zg];omega))
 clear M
 go_wp2
 go_ret
 exact⟨za6 HV.out.symm,ah.out⟩
theorem zqz (A g:Nat) (S:Sv) (m:Md) (i q z:Nat) (k I:Int) (J E:ByteArray) (w:World) (K:S.ex.a=some ⟨g,0,none⟩) (h:OwnMd w A S m) (hi:i<m.ex.length) (ae:g<w.heap.size) (c0:w.cell? ⟨g,i*6,none⟩=some (.int .i64 k)) (c1:w.cell? ⟨g,i*6+1,none⟩=some (.int .i64 I)) (c2:w.cell? ⟨g,i*6+2,none⟩=some (.string J)) (c3:w.cell? ⟨g,i*6+3,none⟩=some (.string E)) (c4:w.cell? ⟨g,i*6+4,none⟩=some (.int .i64 (q:Int))) (c5:w.cell? ⟨g,i*6+5,none⟩=some (.int .i64 (z:Int))) (k1:(k==1)=false) (k2:(k==2)=false) (k3:(k==3)=false) (k4:(k==4)=false) (k5:(k==5)=false) (k6:(k==6)=false) (k7:(k==7)=false) (k8:(k==8)=true) (U:(zH (zP (m.ex.getD q zi).kind) (prX m.ex q)++tStar++zH (zZ (m.ex.getD z zi).kind) (prX m.ex z)).size≤1099511627776) (he:zeN A S m i) (hl:q<i) (hr:z<i) (af:wt m.ex q≤1099511627776) (ah:wt m.ex z≤1099511627776):
  Calls Tryz.prog 98 #[zn S m,.int .i64 i] w fun e w'=>e= .returned (.string (zH (zP (m.ex.getD q zi).kind) (prX m.ex q)++tStar++zH (zZ (m.ex.getD z zi).kind) (prX m.ex z)))∧Below w.heap.size w w':=by
 have al:(i:Int)<(m.ex.length:Int):=by omega
 have HA:Hid (OwnMd ((w.alloc (.cells #[.slice S.rq.a m.rq.length S.rq.cap,.slice S.im.a m.im.length S.im.cap,.slice S.ep.a m.ep.length S.ep.cap,.slice S.st.a m.st.length S.st.cap,.slice (some ⟨g,0,none⟩) m.ex.length S.ex.cap] 48)).alloc (.cells #[.int .i64 k,.int .i64 I,.string J,.string E,.int .i64 (q:Int),.int .i64 (z:Int)] 85)) A S m):=(h.alloc _).alloc _
 have HE:=zc he
 have L:Hid (zn S m= .agg #[.slice S.rq.a m.rq.length S.rq.cap,.slice S.im.a m.im.length S.im.cap,.slice S.ep.a m.ep.length S.ep.cap,.slice S.st.a m.st.length S.st.cap,.slice (some ⟨g,0,none⟩) m.ex.length S.ex.cap]):=by show _=_;rw[zn,K]
 have ak:(q:Int)<(m.ex.length:Int):=by omega
 have aj:(z:Int)<(m.ex.length:Int):=by omega
 obtain⟨g2,hg2,-,d0,-,-,-,-,-⟩:=h.expr (i:=z) (by omega)
 have eg:g2=g:=by have:=hg2.symm.trans K;simpa using this
 rw[eg] at d0
 obtain⟨kr,V⟩: ∃kr,(m.ex.getD z zi).kind=kr:=⟨_,rfl⟩
 rw[V] at d0
 have ac:=zc V
 obtain⟨tl,O⟩: ∃tl,zH (zP (m.ex.getD q zi).kind) (prX m.ex q)=tl:=⟨_,rfl⟩
 obtain⟨tr,ab⟩: ∃tr,zH (zZ (m.ex.getD z zi).kind) (prX m.ex z)=tr:=⟨_,rfl⟩
 rw[O,ab] at U
 have N:=zc O
 have Z:=zc ab
 obtain⟨kl,aa⟩: ∃kl,(m.ex.getD q zi).kind=kl:=⟨_,rfl⟩
 have cK: ∀d H,Calls Tryz.prog 142 #[.agg #[.slice S.rq.a m.rq.length S.rq.cap,.slice S.im.a m.im.length S.im.cap,.slice S.ep.a m.ep.length S.ep.cap,.slice S.st.a m.st.length S.st.cap,.slice (some ⟨g,0,none⟩) m.ex.length S.ex.cap],.int .i64 (q:Int)] (grow (redrawn ((w.alloc (.cells #[.slice S.rq.a m.rq.length S.rq.cap,.slice S.im.a m.im.length S.im.cap,.slice S.ep.a m.ep.length S.ep.cap,.slice S.st.a m.st.length S.st.cap,.slice (some ⟨g,0,none⟩) m.ex.length S.ex.cap] 48)).alloc (.cells #[.int .i64 k,.int .i64 I,.string J,.string E,.int .i64 (q:Int),.int .i64 (z:Int)] 85)) d) H) fun e D=>e= .returned (.bool (zP kl))∧∃p:Regrown,D=grow (redrawn ((w.alloc (.cells #[.slice S.rq.a m.rq.length S.rq.cap,.slice S.im.a m.im.length S.im.cap,.slice S.ep.a m.ep.length S.ep.cap,.slice S.st.a m.st.length S.st.cap,.slice (some ⟨g,0,none⟩) m.ex.length S.ex.cap] 48)).alloc (.cells #[.int .i64 k,.int .i64 I,.string J,.string E,.int .i64 (q:Int),.int .i64 (z:Int)] 85)) p.d) p.os:=fun d H=>Calls.regrown_of (by rw[←L.out,←aa];exact zhG A S m q _ (HA.out.later (below_regrown _ d H)) (by omega))
 have cL: ∀d H,Calls Tryz.prog 141 #[.agg #[.slice S.rq.a m.rq.length S.rq.cap,.slice S.im.a m.im.length S.im.cap,.slice S.ep.a m.ep.length S.ep.cap,.slice S.st.a m.st.length S.st.cap,.slice (some ⟨g,0,none⟩) m.ex.length S.ex.cap],.int .i64 (q:Int),.bool (zP kl)] (grow (redrawn ((w.alloc (.cells #[.slice S.rq.a m.rq.length S.rq.cap,.slice S.im.a m.im.length S.im.cap,.slice S.ep.a m.ep.length S.ep.cap,.slice S.st.a m.st.length S.st.cap,.slice (some ⟨g,0,none⟩) m.ex.length S.ex.cap] 48)).alloc (.cells #[.int .i64 k,.int .i64 I,.string J,.string E,.int .i64 (q:Int),.int .i64 (z:Int)] 85)) d) H) fun e D=>e= .returned (.string tl)∧∃p:Regrown,D=grow (redrawn ((w.alloc (.cells #[.slice S.rq.a m.rq.length S.rq.cap,.slice S.im.a m.im.length S.im.cap,.slice S.ep.a m.ep.length S.ep.cap,.slice S.st.a m.st.length S.st.cap,.slice (some ⟨g,0,none⟩) m.ex.length S.ex.cap] 48)).alloc (.cells #[.int .i64 k,.int .i64 I,.string J,.string E,.int .i64 (q:Int),.int .i64 (z:Int)] 85)) p.d) p.os:=fun d H=>Calls.regrown_of (by rw[←L.out,←N.out,aa];exact zgz A S m i q _ _ HE.out (by omega) (by omega) (HA.out.later (below_regrown _ d H)) af)
 have cS: ∀d H,Calls Tryz.prog 96 #[.int .i64 kr] (grow (redrawn ((w.alloc (.cells #[.slice S.rq.a m.rq.length S.rq.cap,.slice S.im.a m.im.length S.im.cap,.slice S.ep.a m.ep.length S.ep.cap,.slice S.st.a m.st.length S.st.cap,.slice (some ⟨g,0,none⟩) m.ex.length S.ex.cap] 48)).alloc (.cells #[.int .i64 k,.int .i64 I,.string J,.string E,.int .i64 (q:Int),.int .i64 (z:Int)] 85)) d) H) fun e D=>e= .returned (.bool (zZ kr))∧∃p:Regrown,D=grow (redrawn ((w.alloc (.cells #[.slice S.rq.a m.rq.length S.rq.cap,.slice S.im.a m.im.length S.im.cap,.slice S.ep.a m.ep.length S.ep.cap,.slice S.st.a m.st.length S.st.cap,.slice (some ⟨g,0,none⟩) m.ex.length S.ex.cap] 48)).alloc (.cells #[.int .i64 k,.int .i64 I,.string J,.string E,.int .i64 (q:Int),.int .i64 (z:Int)] 85)) p.d) p.os:=fun d H=>Calls.regrown_of ((zkt kr _).mono (by rintro e w' ⟨rfl,rfl⟩;exact⟨rfl,Below.refl _ _⟩))
 have cR: ∀d H,Calls Tryz.prog 141 #[.agg #[.slice S.rq.a m.rq.length S.rq.cap,.slice S.im.a m.im.length S.im.cap,.slice S.ep.a m.ep.length S.ep.cap,.slice S.st.a m.st.length S.st.cap,.slice (some ⟨g,0,none⟩) m.ex.length S.ex.cap],.int .i64 (z:Int),.bool (zZ kr)] (grow (redrawn ((w.alloc (.cells #[.slice S.rq.a m.rq.length S.rq.cap,.slice S.im.a m.im.length S.im.cap,.slice S.ep.a m.ep.length S.ep.cap,.slice S.st.a m.st.length S.st.cap,.slice (some ⟨g,0,none⟩) m.ex.length S.ex.cap] 48)).alloc (.cells #[.int .i64 k,.int .i64 I,.string J,.string E,.int .i64 (q:Int),.int .i64 (z:Int)] 85)) d) H) fun e D=>e= .returned (.string tr)∧∃p:Regrown,D=grow (redrawn ((w.alloc (.cells #[.slice S.rq.a m.rq.length S.rq.cap,.slice S.im.a m.im.length S.im.cap,.slice S.ep.a m.ep.length S.ep.cap,.slice S.st.a m.st.length S.st.cap,.slice (some ⟨g,0,none⟩) m.ex.length S.ex.cap] 48)).alloc (.cells #[.int .i64 k,.int .i64 I,.string J,.string E,.int .i64 (q:Int),.int .i64 (z:Int)] 85)) p.d) p.os:=fun d H=>Calls.regrown_of (by rw[←L.out,←Z.out,ac.out];exact zgz A S m i z _ _ HE.out (by omega) (by omega) (HA.out.later (below_regrown _ d H)) ah)
 have X:Hid (Six ((w.alloc (.cells #[.slice S.rq.a m.rq.length S.rq.cap,.slice S.im.a m.im.length S.im.cap,.slice S.ep.a m.ep.length S.ep.cap,.slice S.st.a m.st.length S.st.cap,.slice (some ⟨g,0,none⟩) m.ex.length S.ex.cap] 48)).alloc (.cells #[.int .i64 k,.int .i64 I,.string J,.string E,.int .i64 (q:Int),.int .i64 (z:Int)] 85)) (w.heap.size+1) (.int .i64 k) (.int .i64 I) (.string J) (.string E) (.int .i64 (q:Int)) (.int .i64 (z:Int))):=zw (new2 w _ _)
 have Y:=zc (zk (zcA (o':=.cells #[.int .i64 k,.int .i64 I,.string J,.string E,.int .i64 (q:Int),.int .i64 (z:Int)] 85) (heap_alloc_new w (.cells #[.slice S.rq.a m.rq.length S.rq.cap,.slice S.im.a m.im.length S.im.cap,.slice S.ep.a m.ep.length S.ep.cap,.slice S.st.a m.st.length S.st.cap,.slice (some ⟨g,0,none⟩) m.ex.length S.ex.cap] 48))))
 have D0:Hid (((w.alloc (.cells #[.slice S.rq.a m.rq.length S.rq.cap,.slice S.im.a m.im.length S.im.cap,.slice S.ep.a m.ep.length S.ep.cap,.slice S.st.a m.st.length S.st.cap,.slice (some ⟨g,0,none⟩) m.ex.length S.ex.cap] 48)).alloc (.cells #[.int .i64 k,.int .i64 I,.string J,.string E,.int .i64 (q:Int),.int .i64 (z:Int)] 85)).cell? ⟨g,z*6,none⟩=some (.int .i64 kr)):=by show _=_;rw[World.cell?_alloc_past _ _ _ (by rw[zg];omega),World.cell?_alloc_past _ _ _ ae];exact d0
 simp only[ByteArray.size_append] at U
 have ad:tStar.size=3:=rfl
 have am:tl.size≤1099511627776:=by omega
 have an:tr.size≤1099511627776:=by omega
 have HV:Hid ((zH (zP (m.ex.getD q zi).kind) (prX m.ex q)++tStar++zH (zZ (m.ex.getD z zi).kind) (prX m.ex z))=tl++tStar++tr):=by show _=_;rw[N.out,Z.out]
 unfold zn
 rw[K]
 clear K h HA HE L N Z O ab V ac hg2 he U ad d0 eg aa
 go_enter Tryz.func98,Tryz.ntmps98
 go_wp2_with fail
 have x0:=cell_regrown X.out.c0
 have x4:=cell_regrown X.out.c4
 have x5:=cell_regrown X.out.c5
 have y0:=cell_regrown Y.out.1
 have y1:=cell_regrown Y.out.2.1
 have y2:=cell_regrown Y.out.2.2.1
 have y3:=cell_regrown Y.out.2.2.2.1
 have y4:=cell_regrown Y.out.2.2.2.2.1
 have e0:=cell_regrown D0.out
 refine wp_region_quiet_below (by kernel_rfl) (by kernel_rfl) ?_
 repeat (go_big_quiet_step (first|with_reducible exact cL _ _|with_reducible exact cS _ _|with_reducible exact cR _ _|with_reducible exact cK _ _))
 refine wpQuiet_nil ?_
 intro w1 ag
 obtain⟨⟨dq,ao⟩,M⟩:=ag
 have ai:Hid (Below w.heap.size w w1):=by show Below _ _ _;rw[M];exact (zbc w _ _).trans ((below_regrown _ _ _).mono (by rw[zg,zg];omega))
 clear M
 go_wp2
 go_ret
 exact⟨za6 HV.out.symm,ai.out⟩
theorem zg0 (b:Bool) (t:ByteArray):t.size≤(zH b t).size:=by
 unfold zH
 split
 ·rw[ByteArray.size_append,ByteArray.size_append]
  omega
 ·exact Nat.le_refl _
theorem zq0 (D:Nat) (S:Sv) (m:Md) (hn:zaY m.ex) (ha:zbz m.ex) (n:Nat):zeN D S m n:=by
 induction n with
 |zero=>intro i w E;omega
 |succ n ih=>
  intro i w ac E h q
  by_cases aa:i<n
  ·exact ih i w aa E h q
  ·have he:zeN D S m i:=by
    have:i=n:=by omega
    rw[this]
    exact ih
   obtain⟨g,z,A,V,U,L,N,M,K⟩:=h.expr E
   have ab:=hn (m.ex.getD i zi) (by rw[zdT E];exact List.getElem_mem E)
   have Z:=zfR ha (i:=i)
   unfold wt at q
   rw[zgY ha] at q ⊢
   generalize m.ex.getD i zi=x at*
   by_cases I:(x.kind==1)=true
   ·rw[if_pos I]
    exact zqr g S m i _ _ _ _ _ _ w z E A V U L N M K I ab
   rw[if_neg I] at q ⊢
   by_cases J:(x.kind==2)=true
   ·rw[if_pos J]
    exact zqs g S m i _ _ _ _ _ _ w z E A V U L N M K (by simpa using I) J
   rw[if_neg J] at q ⊢
   by_cases O:(x.kind==3)=true
   ·rw[if_pos O] at q ⊢
    exact zqt g S m i _ _ _ _ _ _ w z E A V U L N M K (by simpa using I) (by simpa using J) O q
   rw[if_neg O] at q ⊢
   by_cases X:(x.kind==4)=true
   ·rw[if_pos X] at q ⊢
    exact zqu g S m i _ _ _ _ _ _ w z E A V U L N M K (by simpa using I) (by simpa using J) (by simpa using O) X q
   rw[if_neg X] at q ⊢
   by_cases k5:(x.kind==5)=true
   ·rw[if_pos k5] at q ⊢
    exact zqv g S m i _ _ _ _ _ _ w z E A V U L N M K (by simpa using I) (by simpa using J) (by simpa using O) (by simpa using X) k5 q
   rw[if_neg k5] at q ⊢
   by_cases Y:(x.kind==6)=true
   ·rw[if_pos Y] at q ⊢
    obtain⟨h1,h2,h3,h4⟩:=Z (zbD (.inl Y))
    have H:=q
    rw[ByteArray.size_append,ByteArray.size_append] at H
    have s2:=zg0 (zP (m.ex.getD x.r.toNat zi).kind) (prX m.ex x.r.toNat)
    exact zqx D g S m i x.l.toNat x.r.toNat _ _ _ _ w z h E A V U L N (by rw[M,Int.toNat_of_nonneg h1]) (by rw[K,Int.toNat_of_nonneg h3]) (by simpa using I) (by simpa using J) (by simpa using O) (by simpa using X) (by simpa using k5) Y q he (by omega) (by omega) (by unfold wt;omega) (by unfold wt;omega)
   rw[if_neg Y] at q ⊢
   by_cases k7:(x.kind==7)=true
   ·rw[if_pos k7] at q ⊢
    obtain⟨h1,h2,h3,h4⟩:=Z (zbD (.inr (.inl k7)))
    have H:=q
    rw[ByteArray.size_append,ByteArray.size_append] at H
    have s2:=zg0 (zP (m.ex.getD x.r.toNat zi).kind) (prX m.ex x.r.toNat)
    exact zqy D g S m i x.l.toNat x.r.toNat _ _ _ _ w z h E A V U L N (by rw[M,Int.toNat_of_nonneg h1]) (by rw[K,Int.toNat_of_nonneg h3]) (by simpa using I) (by simpa using J) (by simpa using O) (by simpa using X) (by simpa using k5) (by simpa using Y) k7 q he (by omega) (by omega) (by unfold wt;omega) (by unfold wt;omega)
   rw[if_neg k7] at q ⊢
   by_cases k8:(x.kind==8)=true
   ·rw[if_pos k8] at q ⊢
    obtain⟨h1,h2,h3,h4⟩:=Z (zbD (.inr (.inr k8)))
    have H:=q
    rw[ByteArray.size_append,ByteArray.size_append] at H
    have s1:=zg0 (zP (m.ex.getD x.l.toNat zi).kind) (prX m.ex x.l.toNat)
    have s2:=zg0 (zZ (m.ex.getD x.r.toNat zi).kind) (prX m.ex x.r.toNat)
    exact zqz D g S m i x.l.toNat x.r.toNat _ _ _ _ w z h E A V U L N (by rw[M,Int.toNat_of_nonneg h1]) (by rw[K,Int.toNat_of_nonneg h3]) (by simpa using I) (by simpa using J) (by simpa using O) (by simpa using X) (by simpa using k5) (by simpa using Y) (by simpa using k7) k8 q he (by omega) (by omega) (by unfold wt;omega) (by unfold wt;omega)
   rw[if_neg k8] at q ⊢
   exact zqw g S m i _ _ _ _ _ _ w z E A V U L N M K (by simpa using I) (by simpa using J) (by simpa using O) (by simpa using X) (by simpa using k5) (by simpa using Y) (by simpa using k7) (by simpa using k8)
theorem zeo (q:Nat) (S:Sv) (m:Md) (i:Nat) (w:World) (D:zaY m.ex) (E:zbz m.ex) (H:i<m.ex.length) (h:OwnMd w q S m) (A:wt m.ex i≤1099511627776):
  Calls Tryz.prog 98 #[zn S m,.int .i64 i] w fun e z=>e= .returned (.string (prX m.ex i))∧Below w.heap.size w z:=zq0 q S m D E (i+1) i w (Nat.lt_succ_self i) H h A
theorem zhH (a b:ByteArray) (w:World) (D:a.size≤1099511627776) (A:b.size≤1099511627776):Calls Tryz.prog 97 #[.string a,.string b] w fun e z=>e= .returned (.string (asT a b))∧z=w:=by
 cases h:(a.toList==b.toList) with
 |true=>
  have q:Hid (asT a b=a):=by show _=_;rw[asT,h];rfl
  go_enter Tryz.func97,Tryz.ntmps97
  go_wp2
  go_ret
  exact⟨za6 q.out.symm,rfl⟩
 |false=>
  have q:Hid (asT a b=a++({data:=#[32,97,115,32]}:ByteArray)++b):=by show _=_;rw[asT,h];rfl
  go_enter Tryz.func97,Tryz.ntmps97
  go_wp2
  go_ret
  exact⟨za6 q.out.symm,rfl⟩
theorem zg1 (s:ByteArray) (w:World) (z:s.size≤1099511627776):Calls Tryz.prog 55 #[.string s] w fun e q=>e= .returned (.string (za0 s))∧q=w:=by
 have h:Hid (za0 s=({data:=#[34]}:ByteArray)++s++({data:=#[34]}:ByteArray)):=rfl
 go_enter Tryz.func55,Tryz.ntmps55
 go_wp2
 go_ret
 exact⟨za6 h.out.symm,rfl⟩
theorem zhI (s:ByteArray):(za0 s).size=s.size+2:=by
 rw[za0,ByteArray.size_append,ByteArray.size_append]
 show 1+s.size+1=_
 omega
theorem zku (a b:ByteArray):(asT a b).size≤a.size+b.size+4:=by
 unfold asT
 split
 ·omega
 ·rw[ByteArray.size_append,ByteArray.size_append]
  show a.size+4+b.size≤_
  omega
theorem zq1 (x:Im) (w:World) (h1:x.spec.size≤4294967296) (h2:x.first.size≤4294967296) (h3:x.loc.size≤4294967296):Calls Tryz.prog 56 #[imV x] w fun e K=>e= .returned (.string (zab x))∧Below w.heap.size w K:=by
 obtain⟨qt,A⟩: ∃t,za0 x.spec=t:=⟨_,rfl⟩
 obtain⟨at',hat⟩: ∃t,asT x.first x.loc=t:=⟨_,rfl⟩
 have Y:=zhI x.spec
 have Z:=zku x.first x.loc
 rw[A] at Y
 rw[hat] at Z
 have ab:qt.size≤8589934592:=by omega
 have aa:at'.size≤17179869184:=by omega
 have N:=zc A
 have AT:=zc hat
 have M: ∀d E,Calls Tryz.prog 55 #[.string x.spec] (grow (redrawn (w.alloc (.cells #[.string x.spec,.string x.first,.string x.loc] 80)) d) E) fun e D=>e= .returned (.string qt)∧∃p:Regrown,D=grow (redrawn (w.alloc (.cells #[.string x.spec,.string x.first,.string x.loc] 80)) p.d) p.os:=fun d E=>Calls.regrown_of (by rw[←A];exact (zg1 x.spec _ (by omega)).mono (by rintro e K ⟨rfl,rfl⟩;exact⟨rfl,Below.refl _ _⟩))
 have L: ∀d E,Calls Tryz.prog 97 #[.string x.first,.string x.loc] (grow (redrawn (w.alloc (.cells #[.string x.spec,.string x.first,.string x.loc] 80)) d) E) fun e D=>e= .returned (.string at')∧∃p:Regrown,D=grow (redrawn (w.alloc (.cells #[.string x.spec,.string x.first,.string x.loc] 80)) p.d) p.os:=fun d E=>Calls.regrown_of (by rw[←hat];exact (zhH x.first x.loc _ (by omega) (by omega)).mono (by rintro e K ⟨rfl,rfl⟩;exact⟨rfl,Below.refl _ _⟩))
 have X:=zc (zq (heap_alloc_new w (.cells #[.string x.spec,.string x.first,.string x.loc] 80)))
 clear A hat Y Z
 unfold imV
 cases O:(x.first.toList==[42]) with
 |true=>
  have I:Hid (zab x=({data:=#[105,109,112,111,114,116,32,42,32,97,115,32]}:ByteArray)++x.loc++({data:=#[32,102,114,111,109,32]}:ByteArray)++za0 x.spec++({data:=#[59,10]}:ByteArray)):=by show _=_;rw[zab,O];rfl
  go_enter Tryz.func56,Tryz.ntmps56
  go_wp2_with fail
  have U:=cell_regrown X.out.1
  have y1:=cell_regrown X.out.2.1
  have y2:=cell_regrown X.out.2.2.1
  refine wp_region_quiet_below (by kernel_rfl) (by kernel_rfl) ?_
  repeat (go_big_quiet_step (first|with_reducible exact M _ _|with_reducible exact L _ _))
  refine wpQuiet_nil ?_
  intro H q
  obtain⟨⟨V,J⟩,h⟩:=q
  have z:Hid (Below w.heap.size w H):=by show Below _ _ _;rw[h];exact ((Below.refl _ _).alloc (Nat.le_refl _) _).trans ((below_regrown _ _ _).mono (by rw[zg];omega))
  clear h
  go_wp2
  go_ret
  exact⟨za6 (by rw[I.out,N.out]),z.out⟩
 |false=>
  cases e2:(x.first.toList==[100,101,102,97,117,108,116]) with
  |true=>
   have I:Hid (zab x=({data:=#[105,109,112,111,114,116,32]}:ByteArray)++x.loc++({data:=#[32,102,114,111,109,32]}:ByteArray)++za0 x.spec++({data:=#[59,10]}:ByteArray)):=by show _=_;rw[zab,O,e2];rfl
   go_enter Tryz.func56,Tryz.ntmps56
   go_wp2_with fail
   have U:=cell_regrown X.out.1
   have y1:=cell_regrown X.out.2.1
   have y2:=cell_regrown X.out.2.2.1
   refine wp_region_quiet_below (by kernel_rfl) (by kernel_rfl) ?_
   repeat (go_big_quiet_step (first|with_reducible exact M _ _|with_reducible exact L _ _))
   refine wpQuiet_nil ?_
   intro H q
   obtain⟨⟨V,J⟩,h⟩:=q
   have z:Hid (Below w.heap.size w H):=by show Below _ _ _;rw[h];exact ((Below.refl _ _).alloc (Nat.le_refl _) _).trans ((below_regrown _ _ _).mono (by rw[zg];omega))
   clear h
   go_wp2
   go_ret
   exact⟨za6 (by rw[I.out,N.out]),z.out⟩
  |false=>
   have I:Hid (zab x=({data:=#[105,109,112,111,114,116,32,123,32]}:ByteArray)++asT x.first x.loc++({data:=#[32,125,32,102,114,111,109,32]}:ByteArray)++za0 x.spec++({data:=#[59,10]}:ByteArray)):=by show _=_;rw[zab,O,e2];rfl
   go_enter Tryz.func56,Tryz.ntmps56
   go_wp2_with fail
   have U:=cell_regrown X.out.1
   have y1:=cell_regrown X.out.2.1
   have y2:=cell_regrown X.out.2.2.1
   refine wp_region_quiet_below (by kernel_rfl) (by kernel_rfl) ?_
   repeat (go_big_quiet_step (first|with_reducible exact M _ _|with_reducible exact L _ _))
   refine wpQuiet_nil ?_
   intro H q
   obtain⟨⟨V,J⟩,h⟩:=q
   have z:Hid (Below w.heap.size w H):=by show Below _ _ _;rw[h];exact ((Below.refl _ _).alloc (Nat.le_refl _) _).trans ((below_regrown _ _ _).mono (by rw[zg];omega))
   clear h
   go_wp2
   go_ret
   exact⟨za6 (by rw[I.out,N.out,AT.out]),z.out⟩
theorem zq2 (x:Ep) (w:World) (h1:x.spec.size≤4294967296) (h2:x.name.size≤4294967296) (h3:x.loc.size≤4294967296):Calls Tryz.prog 57 #[epV x] w fun e z=>e= .returned (.string (zbp x))∧Below w.heap.size w z:=by
 obtain⟨M,h⟩: ∃t,za0 x.spec=t:=⟨_,rfl⟩
 obtain⟨at',hat⟩: ∃t,asT x.loc x.name=t:=⟨_,rfl⟩
 have U:=zhI x.spec
 have V:=zku x.loc x.name
 rw[h] at U
 rw[hat] at V
 have ab:M.size≤8589934592:=by omega
 have aa:at'.size≤17179869184:=by omega
 have QT:=zc h
 have Z:=zc hat
 have cQ: ∀d D,Calls Tryz.prog 55 #[.string x.spec] (grow (redrawn (w.alloc (.cells #[.int .i64 x.kind,.string x.name,.string x.loc,.string x.spec] 82)) d) D) fun e A=>e= .returned (.string M)∧∃p:Regrown,A=grow (redrawn (w.alloc (.cells #[.int .i64 x.kind,.string x.name,.string x.loc,.string x.spec] 82)) p.d) p.os:=fun d D=>Calls.regrown_of (by rw[←h];exact (zg1 x.spec _ (by omega)).mono (by rintro e z ⟨rfl,rfl⟩;exact⟨rfl,Below.refl _ _⟩))
 have cA: ∀d D,Calls Tryz.prog 97 #[.string x.loc,.string x.name] (grow (redrawn (w.alloc (.cells #[.int .i64 x.kind,.string x.name,.string x.loc,.string x.spec] 82)) d) D) fun e A=>e= .returned (.string at')∧∃p:Regrown,A=grow (redrawn (w.alloc (.cells #[.int .i64 x.kind,.string x.name,.string x.loc,.string x.spec] 82)) p.d) p.os:=fun d D=>Calls.regrown_of (by rw[←hat];exact (zhH x.loc x.name _ (by omega) (by omega)).mono (by rintro e z ⟨rfl,rfl⟩;exact⟨rfl,Below.refl _ _⟩))
 have K: ∀w:World,Calls Tryz.prog 55 #[.string x.spec] w fun e z=>e= .returned (.string M)∧z=w:=fun w=>by rw[←h];exact zg1 x.spec w (by omega)
 have J: ∀w:World,Calls Tryz.prog 97 #[.string x.loc,.string x.name] w fun e z=>e= .returned (.string at')∧z=w:=fun w=>by rw[←hat];exact zhH x.loc x.name w (by omega) (by omega)
 have X:=zc (zb1 (heap_alloc_new w (.cells #[.int .i64 x.kind,.string x.name,.string x.loc,.string x.spec] 82)))
 clear h hat U V
 unfold epV
 cases O:(x.kind==3) with
 |true=>
  have H:Hid (zbp x=({data:=#[101,120,112,111,114,116,32,42,32,102,114,111,109,32]}:ByteArray)++za0 x.spec++({data:=#[59,10]}:ByteArray)):=by show _=_;rw[zbp,O];rfl
  go_enter Tryz.func57,Tryz.ntmps57
  go_wp2_with fail
  refine (K _).mono ?_
  rintro e E ⟨rfl,I⟩
  rw[I]
  clear I E
  go_wp2
  go_ret
  exact⟨za6 (by rw[H.out,QT.out]),(Below.refl _ _).alloc (Nat.le_refl _) _⟩
 |false=>
  cases Y:(x.kind==2) with
  |true=>
   have H:Hid (zbp x=({data:=#[101,120,112,111,114,116,32,123,32]}:ByteArray)++asT x.loc x.name++({data:=#[32,125,32,102,114,111,109,32]}:ByteArray)++za0 x.spec++({data:=#[59,10]}:ByteArray)):=by show _=_;rw[zbp,O,Y];rfl
   go_enter Tryz.func57,Tryz.ntmps57
   go_wp2_with fail
   have y0:=cell_regrown X.out.1
   have y1:=cell_regrown X.out.2.1
   have y2:=cell_regrown X.out.2.2.1
   have y3:=cell_regrown X.out.2.2.2.1
   refine wp_region_quiet_below (by kernel_rfl) (by kernel_rfl) ?_
   repeat (go_big_quiet_step (first|with_reducible exact cQ _ _|with_reducible exact cA _ _))
   refine wpQuiet_nil ?_
   intro E L
   obtain⟨⟨dq,ac⟩,q⟩:=L
   have N:Hid (Below w.heap.size w E):=by show Below _ _ _;rw[q];exact ((Below.refl _ _).alloc (Nat.le_refl _) _).trans ((below_regrown _ _ _).mono (by rw[zg];omega))
   clear q
   go_wp2
   go_ret
   exact⟨za6 (by rw[H.out,QT.out,Z.out]),N.out⟩
  |false=>
   have H:Hid (zbp x=({data:=#[101,120,112,111,114,116,32,123,32]}:ByteArray)++asT x.loc x.name++({data:=#[32,125,59,10]}:ByteArray)):=by show _=_;rw[zbp,O,Y];rfl
   go_enter Tryz.func57,Tryz.ntmps57
   go_wp2_with fail
   refine (J _).mono ?_
   rintro e E ⟨rfl,I⟩
   rw[I]
   clear I E
   go_wp2
   go_ret
   exact⟨za6 (by rw[H.out,Z.out]),(Below.refl _ _).alloc (Nat.le_refl _) _⟩
theorem zq3 (q:Nat) (S:Sv) (m:Md) (k:Int) (n:ByteArray) (i:Nat) (w:World) (h:OwnMd w q S m) (Z:i<m.ex.length) (X:zaY m.ex) (K:zbz m.ex) (H:wt m.ex i≤1099511627776) (_:n.size≤4294967296) (V:(k==1)=true) (Y:(n.toList==[42,100,101,102,97,117,108,116])=true):
  Calls Tryz.prog 58 #[zn S m,.agg #[.int .i64 k,.string n,.int .i64 (i:Int)]] w fun e I=>e= .returned (.string (za5 k n (prX m.ex i)))∧Below w.heap.size w I:=by
 have L:=zc h
 have U:Hid (za5 k n (prX m.ex i)=({data:=#[101,120,112,111,114,116,32,100,101,102,97,117,108,116,32]}:ByteArray)++prX m.ex i++({data:=#[59,10]}:ByteArray)):=by show _=_;rw[za5,V,Y];rfl
 have z:=H
 unfold wt at z
 have N:=zc (And.intro (zcA (o':=.cells #[.int .i64 k,.string n,.int .i64 (i:Int)] 87) (heap_alloc_new w (.cells #[.slice S.rq.a m.rq.length S.rq.cap,.slice S.im.a m.im.length S.im.cap,.slice S.ep.a m.ep.length S.ep.cap,.slice S.st.a m.st.length S.st.cap,.slice S.ex.a m.ex.length S.ex.cap] 48))) (new2 w (.cells #[.slice S.rq.a m.rq.length S.rq.cap,.slice S.im.a m.im.length S.im.cap,.slice S.ep.a m.ep.length S.ep.cap,.slice S.st.a m.st.length S.st.cap,.slice S.ex.a m.ex.length S.ex.cap] 48) (.cells #[.int .i64 k,.string n,.int .i64 (i:Int)] 87)))
 clear h
 unfold zn
 go_enter Tryz.func58,Tryz.ntmps58
 go_wp2_with fail
 refine (zeo q S m i _ X K Z ((L.out.alloc _).alloc _) H).mono ?_
 rintro e O ⟨rfl,A⟩
 have J:Hid (Below w.heap.size w O):=(zbc w _ _).trans (A.mono (by rw[zg,zg];omega))
 have E:=zc ((A.block _ (by rw[zg,zg];omega)).trans N.out.2)
 obtain⟨c0,c1,c2,cf⟩:=zq E.out
 clear A
 obtain⟨t,D⟩: ∃t,prX m.ex i=t:=⟨_,rfl⟩
 rw[D] at z ⊢
 have M:=zc D
 clear D
 go_wp2
 go_ret
 exact⟨za6 (by rw[U.out,M.out]),J.out⟩
theorem zq4 (q:Nat) (S:Sv) (m:Md) (k:Int) (n:ByteArray) (i:Nat) (w:World) (h:OwnMd w q S m) (Z:i<m.ex.length) (X:zaY m.ex) (K:zbz m.ex) (H:wt m.ex i≤1099511627776) (hs:n.size≤4294967296) (V:(k==1)=true) (Y:(n.toList==[42,100,101,102,97,117,108,116])=false):
  Calls Tryz.prog 58 #[zn S m,.agg #[.int .i64 k,.string n,.int .i64 (i:Int)]] w fun e I=>e= .returned (.string (za5 k n (prX m.ex i)))∧Below w.heap.size w I:=by
 have L:=zc h
 have U:Hid (za5 k n (prX m.ex i)=({data:=#[108,101,116,32]}:ByteArray)++n++({data:=#[32,61,32]}:ByteArray)++prX m.ex i++({data:=#[59,10]}:ByteArray)):=by show _=_;rw[za5,V,Y];rfl
 have z:=H
 unfold wt at z
 have N:=zc (And.intro (zcA (o':=.cells #[.int .i64 k,.string n,.int .i64 (i:Int)] 87) (heap_alloc_new w (.cells #[.slice S.rq.a m.rq.length S.rq.cap,.slice S.im.a m.im.length S.im.cap,.slice S.ep.a m.ep.length S.ep.cap,.slice S.st.a m.st.length S.st.cap,.slice S.ex.a m.ex.length S.ex.cap] 48))) (new2 w (.cells #[.slice S.rq.a m.rq.length S.rq.cap,.slice S.im.a m.im.length S.im.cap,.slice S.ep.a m.ep.length S.ep.cap,.slice S.st.a m.st.length S.st.cap,.slice S.ex.a m.ex.length S.ex.cap] 48) (.cells #[.int .i64 k,.string n,.int .i64 (i:Int)] 87)))
 clear h
 unfold zn
 go_enter Tryz.func58,Tryz.ntmps58
 go_wp2_with fail
 refine (zeo q S m i _ X K Z ((L.out.alloc _).alloc _) H).mono ?_
 rintro e O ⟨rfl,A⟩
 have J:Hid (Below w.heap.size w O):=(zbc w _ _).trans (A.mono (by rw[zg,zg];omega))
 have E:=zc ((A.block _ (by rw[zg,zg];omega)).trans N.out.2)
 obtain⟨c0,c1,c2,cf⟩:=zq E.out
 clear A
 obtain⟨t,D⟩: ∃t,prX m.ex i=t:=⟨_,rfl⟩
 rw[D] at z ⊢
 have M:=zc D
 clear D
 go_wp2
 go_ret
 exact⟨za6 (by rw[U.out,M.out]),J.out⟩
theorem zq5 (q:Nat) (S:Sv) (m:Md) (k:Int) (n:ByteArray) (i:Nat) (w:World) (h:OwnMd w q S m) (Z:i<m.ex.length) (Y:zaY m.ex) (K:zbz m.ex) (H:wt m.ex i≤1099511627776) (hs:n.size≤4294967296) (X:(k==1)=false) (U:(k==2)=true):
  Calls Tryz.prog 58 #[zn S m,.agg #[.int .i64 k,.string n,.int .i64 (i:Int)]] w fun e I=>e= .returned (.string (za5 k n (prX m.ex i)))∧Below w.heap.size w I:=by
 have L:=zc h
 have V:Hid (za5 k n (prX m.ex i)=({data:=#[102,117,110,99,116,105,111,110,32]}:ByteArray)++n++({data:=#[40,41,32,123,32,114,101,116,117,114,110,32]}:ByteArray)++prX m.ex i++({data:=#[59,32,125,10]}:ByteArray)):=by show _=_;rw[za5,X,U];rfl
 have z:=H
 unfold wt at z
 have N:=zc (And.intro (zcA (o':=.cells #[.int .i64 k,.string n,.int .i64 (i:Int)] 87) (heap_alloc_new w (.cells #[.slice S.rq.a m.rq.length S.rq.cap,.slice S.im.a m.im.length S.im.cap,.slice S.ep.a m.ep.length S.ep.cap,.slice S.st.a m.st.length S.st.cap,.slice S.ex.a m.ex.length S.ex.cap] 48))) (new2 w (.cells #[.slice S.rq.a m.rq.length S.rq.cap,.slice S.im.a m.im.length S.im.cap,.slice S.ep.a m.ep.length S.ep.cap,.slice S.st.a m.st.length S.st.cap,.slice S.ex.a m.ex.length S.ex.cap] 48) (.cells #[.int .i64 k,.string n,.int .i64 (i:Int)] 87)))
 clear h
 unfold zn
 go_enter Tryz.func58,Tryz.ntmps58
 go_wp2_with fail
 refine (zeo q S m i _ Y K Z ((L.out.alloc _).alloc _) H).mono ?_
 rintro e O ⟨rfl,A⟩
 have J:Hid (Below w.heap.size w O):=(zbc w _ _).trans (A.mono (by rw[zg,zg];omega))
 have E:=zc ((A.block _ (by rw[zg,zg];omega)).trans N.out.2)
 obtain⟨c0,c1,c2,cf⟩:=zq E.out
 clear A
 obtain⟨t,D⟩: ∃t,prX m.ex i=t:=⟨_,rfl⟩
 rw[D] at z ⊢
 have M:=zc D
 clear D
 go_wp2
 go_ret
 exact⟨za6 (by rw[V.out,M.out]),J.out⟩
theorem zq6 (q:Nat) (S:Sv) (m:Md) (k:Int) (n:ByteArray) (i:Nat) (w:World) (h:OwnMd w q S m) (hi:i<m.ex.length) (Z:zaY m.ex) (K:zbz m.ex) (H:wt m.ex i≤1099511627776) (hs:n.size≤4294967296) (Y:(k==1)=false) (V:(k==2)=false) (O:(k==3)=true):
  Calls Tryz.prog 58 #[zn S m,.agg #[.int .i64 k,.string n,.int .i64 (i:Int)]] w fun e I=>e= .returned (.string (za5 k n (prX m.ex i)))∧Below w.heap.size w I:=by
 have L:=zc h
 have X:Hid (za5 k n (prX m.ex i)=n++({data:=#[32,61,32]}:ByteArray)++prX m.ex i++({data:=#[59,10]}:ByteArray)):=by show _=_;rw[za5,Y,V,O];rfl
 have z:=H
 unfold wt at z
 have N:=zc (And.intro (zcA (o':=.cells #[.int .i64 k,.string n,.int .i64 (i:Int)] 87) (heap_alloc_new w (.cells #[.slice S.rq.a m.rq.length S.rq.cap,.slice S.im.a m.im.length S.im.cap,.slice S.ep.a m.ep.length S.ep.cap,.slice S.st.a m.st.length S.st.cap,.slice S.ex.a m.ex.length S.ex.cap] 48))) (new2 w (.cells #[.slice S.rq.a m.rq.length S.rq.cap,.slice S.im.a m.im.length S.im.cap,.slice S.ep.a m.ep.length S.ep.cap,.slice S.st.a m.st.length S.st.cap,.slice S.ex.a m.ex.length S.ex.cap] 48) (.cells #[.int .i64 k,.string n,.int .i64 (i:Int)] 87)))
 clear h
 unfold zn
 go_enter Tryz.func58,Tryz.ntmps58
 go_wp2_with fail
 refine (zeo q S m i _ Z K hi ((L.out.alloc _).alloc _) H).mono ?_
 rintro e U ⟨rfl,A⟩
 have J:Hid (Below w.heap.size w U):=(zbc w _ _).trans (A.mono (by rw[zg,zg];omega))
 have E:=zc ((A.block _ (by rw[zg,zg];omega)).trans N.out.2)
 obtain⟨c0,c1,c2,cf⟩:=zq E.out
 clear A
 obtain⟨t,D⟩: ∃t,prX m.ex i=t:=⟨_,rfl⟩
 rw[D] at z ⊢
 have M:=zc D
 clear D
 go_wp2
 go_ret
 exact⟨za6 (by rw[X.out,M.out]),J.out⟩
theorem zq7 (q:Nat) (S:Sv) (m:Md) (k:Int) (n:ByteArray) (i:Nat) (w:World) (h:OwnMd w q S m) (hi:i<m.ex.length) (hn:zaY m.ex) (K:zbz m.ex) (H:wt m.ex i≤1099511627776) (_:n.size≤4294967296) (Z:(k==1)=false) (X:(k==2)=false) (U:(k==3)=false) (M:(k==4)=true):
  Calls Tryz.prog 58 #[zn S m,.agg #[.int .i64 k,.string n,.int .i64 (i:Int)]] w fun e I=>e= .returned (.string (za5 k n (prX m.ex i)))∧Below w.heap.size w I:=by
 have L:=zc h
 have Y:Hid (za5 k n (prX m.ex i)=({data:=#[112,114,105,110,116,40]}:ByteArray)++prX m.ex i++({data:=#[41,59,10]}:ByteArray)):=by show _=_;rw[za5,Z,X,U,M];rfl
 have z:=H
 unfold wt at z
 have O:=zc (And.intro (zcA (o':=.cells #[.int .i64 k,.string n,.int .i64 (i:Int)] 87) (heap_alloc_new w (.cells #[.slice S.rq.a m.rq.length S.rq.cap,.slice S.im.a m.im.length S.im.cap,.slice S.ep.a m.ep.length S.ep.cap,.slice S.st.a m.st.length S.st.cap,.slice S.ex.a m.ex.length S.ex.cap] 48))) (new2 w (.cells #[.slice S.rq.a m.rq.length S.rq.cap,.slice S.im.a m.im.length S.im.cap,.slice S.ep.a m.ep.length S.ep.cap,.slice S.st.a m.st.length S.st.cap,.slice S.ex.a m.ex.length S.ex.cap] 48) (.cells #[.int .i64 k,.string n,.int .i64 (i:Int)] 87)))
 clear h
 unfold zn
 go_enter Tryz.func58,Tryz.ntmps58
 go_wp2_with fail
 refine (zeo q S m i _ hn K hi ((L.out.alloc _).alloc _) H).mono ?_
 rintro e V ⟨rfl,A⟩
 have J:Hid (Below w.heap.size w V):=(zbc w _ _).trans (A.mono (by rw[zg,zg];omega))
 have E:=zc ((A.block _ (by rw[zg,zg];omega)).trans O.out.2)
 obtain⟨c0,c1,c2,cf⟩:=zq E.out
 clear A
 obtain⟨t,D⟩: ∃t,prX m.ex i=t:=⟨_,rfl⟩
 rw[D] at z ⊢
 have N:=zc D
 clear D
 go_wp2
 go_ret
 exact⟨za6 (by rw[Y.out,N.out]),J.out⟩
theorem zq8 (q:Nat) (S:Sv) (m:Md) (k:Int) (n:ByteArray) (i:Nat) (w:World) (h:OwnMd w q S m) (hi:i<m.ex.length) (hn:zaY m.ex) (K:zbz m.ex) (H:wt m.ex i≤1099511627776) (_:n.size≤4294967296) (Z:(k==1)=false) (X:(k==2)=false) (U:(k==3)=false) (M:(k==4)=false) (k5:(k==5)=true):
  Calls Tryz.prog 58 #[zn S m,.agg #[.int .i64 k,.string n,.int .i64 (i:Int)]] w fun e I=>e= .returned (.string (za5 k n (prX m.ex i)))∧Below w.heap.size w I:=by
 have L:=zc h
 have Y:Hid (za5 k n (prX m.ex i)=({data:=#[116,104,114,111,119,32]}:ByteArray)++prX m.ex i++({data:=#[59,10]}:ByteArray)):=by show _=_;rw[za5,Z,X,U,M,k5];rfl
 have z:=H
 unfold wt at z
 have O:=zc (And.intro (zcA (o':=.cells #[.int .i64 k,.string n,.int .i64 (i:Int)] 87) (heap_alloc_new w (.cells #[.slice S.rq.a m.rq.length S.rq.cap,.slice S.im.a m.im.length S.im.cap,.slice S.ep.a m.ep.length S.ep.cap,.slice S.st.a m.st.length S.st.cap,.slice S.ex.a m.ex.length S.ex.cap] 48))) (new2 w (.cells #[.slice S.rq.a m.rq.length S.rq.cap,.slice S.im.a m.im.length S.im.cap,.slice S.ep.a m.ep.length S.ep.cap,.slice S.st.a m.st.length S.st.cap,.slice S.ex.a m.ex.length S.ex.cap] 48) (.cells #[.int .i64 k,.string n,.int .i64 (i:Int)] 87)))
 clear h
 unfold zn
 go_enter Tryz.func58,Tryz.ntmps58
 go_wp2_with fail
 refine (zeo q S m i _ hn K hi ((L.out.alloc _).alloc _) H).mono ?_
 rintro e V ⟨rfl,A⟩
 have J:Hid (Below w.heap.size w V):=(zbc w _ _).trans (A.mono (by rw[zg,zg];omega))
 have E:=zc ((A.block _ (by rw[zg,zg];omega)).trans O.out.2)
 obtain⟨c0,c1,c2,cf⟩:=zq E.out
 clear A
 obtain⟨t,D⟩: ∃t,prX m.ex i=t:=⟨_,rfl⟩
 rw[D] at z ⊢
 have N:=zc D
 clear D
 go_wp2
 go_ret
 exact⟨za6 (by rw[Y.out,N.out]),J.out⟩
theorem zq9 (q:Nat) (S:Sv) (m:Md) (k:Int) (n:ByteArray) (i:Nat) (w:World) (h:OwnMd w q S m) (hi:i<m.ex.length) (hn:zaY m.ex) (K:zbz m.ex) (H:wt m.ex i≤1099511627776) (_:n.size≤4294967296) (Z:(k==1)=false) (X:(k==2)=false) (U:(k==3)=false) (M:(k==4)=false) (k5:(k==5)=false):
  Calls Tryz.prog 58 #[zn S m,.agg #[.int .i64 k,.string n,.int .i64 (i:Int)]] w fun e I=>e= .returned (.string (za5 k n (prX m.ex i)))∧Below w.heap.size w I:=by
 have L:=zc h
 have Y:Hid (za5 k n (prX m.ex i)=({data:=#[102,97,105,108,32]}:ByteArray)++prX m.ex i++({data:=#[59,10]}:ByteArray)):=by show _=_;rw[za5,Z,X,U,M,k5];rfl
 have z:=H
 unfold wt at z
 have O:=zc (And.intro (zcA (o':=.cells #[.int .i64 k,.string n,.int .i64 (i:Int)] 87) (heap_alloc_new w (.cells #[.slice S.rq.a m.rq.length S.rq.cap,.slice S.im.a m.im.length S.im.cap,.slice S.ep.a m.ep.length S.ep.cap,.slice S.st.a m.st.length S.st.cap,.slice S.ex.a m.ex.length S.ex.cap] 48))) (new2 w (.cells #[.slice S.rq.a m.rq.length S.rq.cap,.slice S.im.a m.im.length S.im.cap,.slice S.ep.a m.ep.length S.ep.cap,.slice S.st.a m.st.length S.st.cap,.slice S.ex.a m.ex.length S.ex.cap] 48) (.cells #[.int .i64 k,.string n,.int .i64 (i:Int)] 87)))
 clear h
 unfold zn
 go_enter Tryz.func58,Tryz.ntmps58
 go_wp2_with fail
 refine (zeo q S m i _ hn K hi ((L.out.alloc _).alloc _) H).mono ?_
 rintro e V ⟨rfl,A⟩
 have J:Hid (Below w.heap.size w V):=(zbc w _ _).trans (A.mono (by rw[zg,zg];omega))
 have E:=zc ((A.block _ (by rw[zg,zg];omega)).trans O.out.2)
 obtain⟨c0,c1,c2,cf⟩:=zq E.out
 clear A
 obtain⟨t,D⟩: ∃t,prX m.ex i=t:=⟨_,rfl⟩
 rw[D] at z ⊢
 have N:=zc D
 clear D
 go_wp2
 go_ret
 exact⟨za6 (by rw[Y.out,N.out]),J.out⟩
theorem zqA (q:Nat) (S:Sv) (m:Md) (k:Int) (n:ByteArray) (i:Nat) (w:World) (h:OwnMd w q S m) (I:i<m.ex.length) (D:zaY m.ex) (H:zbz m.ex) (A:wt m.ex i≤1099511627776) (E:n.size≤4294967296):
  Calls Tryz.prog 58 #[zn S m,.agg #[.int .i64 k,.string n,.int .i64 (i:Int)]] w fun e O=>e= .returned (.string (za5 k n (prX m.ex i)))∧Below w.heap.size w O:=by
 cases z:(k==1) with
 |true=>
  cases M:(n.toList==[42,100,101,102,97,117,108,116]) with
  |true=>exact zq3 q S m k n i w h I D H A E z M
  |false=>exact zq4 q S m k n i w h I D H A E z M
 |false=>
  cases J:(k==2) with
  |true=>exact zq5 q S m k n i w h I D H A E z J
  |false=>
   cases K:(k==3) with
   |true=>exact zq6 q S m k n i w h I D H A E z J K
   |false=>
    cases L:(k==4) with
    |true=>exact zq7 q S m k n i w h I D H A E z J K L
    |false=>
     cases N:(k==5) with
     |true=>exact zq8 q S m k n i w h I D H A E z J K L N
     |false=>exact zq9 q S m k n i w h I D H A E z J K L N
theorem zkv (a b:List Ex) (k:Int):zat (a++b) k=zat a k+zat b k:=by simp[zat]
theorem zkw (a b:List Sm) (k:Int):zaL (a++b) k=zaL a k+zaL b k:=by simp[zaL]
theorem zkx {ex:List Ex} {i:Nat} (h:i<ex.length) (k:Int):zat (ex.take (i+1)) k=zat (ex.take i) k+u1 ex[i] k:=by
 rw[List.take_succ_eq_append_getElem h,zkv]
 simp[zat,u1]
theorem zqB {h:List Sm} {i:Nat} (q:i<h.length) (k:Int):zaL (h.take (i+1)) k=zaL (h.take i) k+if h[i].expr==k then 1 else 0:=by
 rw[List.take_succ_eq_append_getElem q,zkw]
 simp[zaL]
theorem zg2 (ex:List Ex) (k:Int):zat ex k≤2*ex.length:=by
 induction ex with
 |nil=>simp[zat]
 |cons x l h=>
  rw[show x::l=[x]++l from rfl,zkv]
  have:zat [x] k≤2:=by
   simp only[zat,List.map_cons,List.map_nil,List.sum_cons,List.sum_nil]
   split
   ·split<;>split<;>omega
   ·omega
  simp only[List.length_append,List.length_cons,List.length_nil]
  omega
theorem zky (h:List Sm) (k:Int):zaL h k≤h.length:=by
 induction h with
 |nil=>simp[zaL]
 |cons x l q=>
  rw[show x::l=[x]++l from rfl,zkw]
  have:zaL [x] k≤1:=by
   simp only[zaL,List.map_cons,List.map_nil,List.sum_cons,List.sum_nil]
   split<;>omega
  simp only[List.length_append,List.length_cons,List.length_nil]
  omega
def zas (n:Nat) (f:Nat→Nat):List Value:=(List.range n).map fun k=>.int .i64 (f k:Int)
theorem zhJ (n:Nat) (f:Nat→Nat):(zas n f).length=n:=by simp[zas]
theorem zg3 {n:Nat} (f:Nat→Nat) {k:Nat} (h:k<n):(zas n f)[k]? =some (.int .i64 (f k:Int)):=by
 unfold zas
 rw[List.getElem?_map,List.getElem?_range h]
 rfl
theorem zqC {n l:Nat} (f g:Nat→Nat) (v:Nat) (w:g l=v) (h: ∀k,k≠l→g k=f k):(zas n f).set l (.int .i64 (v:Int))=zas n g:=by
 apply List.ext_getElem?
 intro k
 by_cases q:k<n
 ·by_cases e:k=l
  ·subst e
   rw[List.getElem?_set_self (by rw[zhJ];exact q),zg3 g q,w]
  ·rw[List.getElem?_set_ne (fun x=>e x.symm),zg3 f q,zg3 g q,h k e]
 ·rw[List.getElem?_eq_none (by rw[List.length_set,zhJ];omega),List.getElem?_eq_none (by rw[zhJ];omega)]
theorem zep {n:Nat} {f g:Nat→Nat} (h: ∀k,k<n→f k=g k):zas n f=zas n g:=by
 unfold zas
 refine List.map_congr_left fun k q=>?_
 rw[h k (List.mem_range.1 q)]
def zaJ (f:Nat→Nat) (l:Nat):Nat→Nat:=fun k=>f k+if k=l then 1 else 0
theorem zqD (f:Nat→Nat) (l:Nat):zaJ f l l=f l+1:=by simp[zaJ]
theorem zqE (f:Nat→Nat) {l k:Nat} (h:k≠l):zaJ f l k=f k:=by simp[zaJ,h]
theorem zkz {ex:List Ex} {i:Nat} (w:i<ex.length) (h:zZ ex[i].kind=true) (D:0≤ex[i].l) (A:0≤ex[i].r) (k:Nat):zaJ (zaJ (fun k=>zat (ex.take i) (k:Int)) ex[i].l.toNat) ex[i].r.toNat k=zat (ex.take (i+1)) (k:Int):=by
 rw[zkx w,u1,if_pos h]
 unfold zaJ
 have z:(ex[i].l==(k:Int))=decide (k=ex[i].l.toNat):=by
  rw[Bool.eq_iff_iff,beq_iff_eq,decide_eq_true_iff];omega
 have q:(ex[i].r==(k:Int))=decide (k=ex[i].r.toNat):=by
  rw[Bool.eq_iff_iff,beq_iff_eq,decide_eq_true_iff];omega
 rw[z,q]
 simp only[decide_eq_true_eq]
 omega
theorem zk0 {ex:List Ex} {i:Nat} (q:i<ex.length) (h:zZ ex[i].kind=false) (k:Nat):zat (ex.take i) (k:Int)=zat (ex.take (i+1)) (k:Int):=by
 rw[zkx q,u1,if_neg (by rw[h];decide),Nat.add_zero]
theorem zk1 {h:List Sm} {ex:List Ex} {i:Nat} (q:i<h.length) (z:0≤h[i].expr) (k:Nat):zaJ (fun k=>zat ex (k:Int)+zaL (h.take i) (k:Int)) h[i].expr.toNat k=zat ex (k:Int)+zaL (h.take (i+1)) (k:Int):=by
 rw[zqB q]
 unfold zaJ
 have w:(h[i].expr==(k:Int))=decide (k=h[i].expr.toNat):=by
  rw[Bool.eq_iff_iff,beq_iff_eq,decide_eq_true_iff];omega
 rw[w]
 simp only[decide_eq_true_eq]
 omega
def AheadTo (ex:List Ex) (n:Nat):Prop:=∀(i:Nat) (x:Ex),i<n→ex[i]? =some x→zZ x.kind=true→0≤x.l∧x.l<(i:Int)∧0≤x.r∧x.r<(i:Int)
theorem AheadTo.all {ex:List Ex} (h:AheadTo ex ex.length):zbz ex:=fun i x q=>h i x (List.getElem?_eq_some_iff.1 q).1 q
theorem AheadTo.next {ex:List Ex} {i:Nat} (h:AheadTo ex i) (D:i<ex.length) (z:zZ ex[i].kind=true→0≤ex[i].l∧ex[i].l<(i:Int)∧0≤ex[i].r∧ex[i].r<(i:Int)):AheadTo ex (i+1):=by
 intro j x A w q
 by_cases e:j=i
 ·subst e
  obtain⟨_,rfl⟩:=List.getElem?_eq_some_iff.1 w
  exact z q
 ·exact h j x (by omega) w q
theorem AheadTo.not {ex:List Ex} {i:Nat} (w:i<ex.length) (q:zZ ex[i].kind=true) (z: ¬(0≤ex[i].l∧ex[i].l<(i:Int)∧0≤ex[i].r∧ex[i].r<(i:Int))): ¬zbz ex:=fun h=>z (h i _ (List.getElem?_eq_getElem w) q)
end Go.Proofs.YtcidlffeeninbaaGreat
