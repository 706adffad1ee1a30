/-
  What impl's isSameMod answers: the walk.
  What impl.Dec and spec.Dec answer,at every number: the walks.
  What l5Two,l5Sum,l5Side and l5Expr of the specification answer: the walks.
  What l5Expr of the specification answers of a product: the walk.
  What l5Expr of the specification answers,whole. No walk is zu.
  What importedName and importList of impl's parser answer: the walks.
  What l5As,l5Quote,l5Imp,l5Exp and l5Stmt of the specification answer: the walks.
  How often expressions are used,counted in a row of numbers. No program is spoken of.
-/
import Derived.Laws.StructEq
import Derived.Test.YtjdddblpfbmpaaaGreatClSpecMapModToSameSpec
namespace Go.Proofs.YtjdddblpfbmpaaaGreat
set_option maxRecDepth 100000
set_option maxHeartbeats 12800000
open Go.RowKit Go.PlainAid Go.Sort
theorem zjK (x y:Im) (w:World):Sem.run Tryz.prog (binOp .neq 84 (.agg #[.string x.spec,.string x.first,.string x.loc]) (.agg #[.string y.spec,.string y.first,.string y.loc])) w= .ok (.bool (!zdg x y)) w:=by
 have I:=Tryz.underlying9
 have L:=Tryz.isAgg9
 have J:=Tryz.sizeOf9
 have N:=Tryz.underlying3
 have M:=Tryz.isAgg3
 have O:=Tryz.sizeOf3
 have z:Tryz.prog.underlying 84=some (.struct (Tryz.prog.fieldsOf 84)):=by kernel_rfl
 have h:Tryz.prog.stoodInHeld 84=false:=by kernel_rfl
 rw[run_neq_struct,show (10000:Nat)=9999+1 from rfl,run_equalIn_agg w 9999 84 _ _ z h]
 simp only[Program.fieldsOf,Tryz.underlying84]
 go_simp
 by_cases H:x.spec.toList=y.spec.toList<;>by_cases A:x.first.toList=y.first.toList<;>by_cases j:x.loc.toList=y.loc.toList<;>simp[zdg,H,A,j]
theorem zjL (h:BinOp) (a b:Operand) (x y:Im) (w:World):Sem.run Tryz.prog (eqGuard h 84 a b (.agg #[.string x.spec,.string x.first,.string x.loc]) (.agg #[.string y.spec,.string y.first,.string y.loc])) w= .ok () w:=run_eqGuard_agg w h 84 a b _ _ (by kernel_rfl)
theorem zjM (x y:Ep) (w:World):Sem.run Tryz.prog (binOp .neq 86 (.agg #[.int .i64 x.kind,.string x.name,.string x.loc,.string x.spec]) (.agg #[.int .i64 y.kind,.string y.name,.string y.loc,.string y.spec])) w= .ok (.bool (!zdh x y)) w:=by
 have J:=Tryz.underlying9
 have M:=Tryz.isAgg9
 have L:=Tryz.sizeOf9
 have O:=Tryz.underlying3
 have N:=Tryz.isAgg3
 have U:=Tryz.sizeOf3
 have z:Tryz.prog.underlying 86=some (.struct (Tryz.prog.fieldsOf 86)):=by kernel_rfl
 have h:Tryz.prog.stoodInHeld 86=false:=by kernel_rfl
 rw[run_neq_struct,show (10000:Nat)=9999+1 from rfl,run_equalIn_agg w 9999 86 _ _ z h]
 simp only[Program.fieldsOf,Tryz.underlying86]
 go_simp
 by_cases H:x.kind=y.kind<;>by_cases A:x.name.toList=y.name.toList<;>by_cases j:x.loc.toList=y.loc.toList<;>by_cases I:x.spec.toList=y.spec.toList<;>simp[zdh,H,A,j,I]
theorem zjN (h:BinOp) (a b:Operand) (x y:Ep) (w:World):Sem.run Tryz.prog (eqGuard h 86 a b (.agg #[.int .i64 x.kind,.string x.name,.string x.loc,.string x.spec]) (.agg #[.int .i64 y.kind,.string y.name,.string y.loc,.string y.spec])) w= .ok () w:=run_eqGuard_agg w h 86 a b _ _ (by kernel_rfl)
theorem zjO (x y:Sm) (w:World):Sem.run Tryz.prog (binOp .neq 107 (.agg #[.int .i64 x.kind,.string x.name,.int .i64 x.expr]) (.agg #[.int .i64 y.kind,.string y.name,.int .i64 y.expr])) w= .ok (.bool (!zdi x y)) w:=by
 have I:=Tryz.underlying9
 have L:=Tryz.isAgg9
 have J:=Tryz.sizeOf9
 have N:=Tryz.underlying3
 have M:=Tryz.isAgg3
 have O:=Tryz.sizeOf3
 have z:Tryz.prog.underlying 107=some (.struct (Tryz.prog.fieldsOf 107)):=by kernel_rfl
 have h:Tryz.prog.stoodInHeld 107=false:=by kernel_rfl
 rw[run_neq_struct,show (10000:Nat)=9999+1 from rfl,run_equalIn_agg w 9999 107 _ _ z h]
 simp only[Program.fieldsOf,Tryz.underlying107]
 go_simp
 by_cases H:x.kind=y.kind<;>by_cases A:x.name.toList=y.name.toList<;>by_cases j:x.expr=y.expr<;>simp[zdi,H,A,j]
theorem zjP (h:BinOp) (a b:Operand) (x y:Sm) (w:World):Sem.run Tryz.prog (eqGuard h 107 a b (.agg #[.int .i64 x.kind,.string x.name,.int .i64 x.expr]) (.agg #[.int .i64 y.kind,.string y.name,.int .i64 y.expr])) w= .ok () w:=run_eqGuard_agg w h 107 a b _ _ (by kernel_rfl)
theorem zjQ (x y:Ex) (w:World):Sem.run Tryz.prog (binOp .neq 109 (.agg #[.int .i64 x.kind,.int .i64 x.num,.string x.name,.string x.field,.int .i64 x.l,.int .i64 x.r]) (.agg #[.int .i64 y.kind,.int .i64 y.num,.string y.name,.string y.field,.int .i64 y.l,.int .i64 y.r])) w= .ok (.bool (!zdj x y)) w:=by
 have M:=Tryz.underlying9
 have O:=Tryz.isAgg9
 have N:=Tryz.sizeOf9
 have V:=Tryz.underlying3
 have U:=Tryz.isAgg3
 have X:=Tryz.sizeOf3
 have z:Tryz.prog.underlying 109=some (.struct (Tryz.prog.fieldsOf 109)):=by kernel_rfl
 have h:Tryz.prog.stoodInHeld 109=false:=by kernel_rfl
 rw[run_neq_struct,show (10000:Nat)=9999+1 from rfl,run_equalIn_agg w 9999 109 _ _ z h]
 simp only[Program.fieldsOf,Tryz.underlying109]
 go_simp
 by_cases J:x.kind=y.kind<;>by_cases H:x.num=y.num<;>by_cases j:x.name.toList=y.name.toList<;>by_cases L:x.field.toList=y.field.toList<;>by_cases A:x.l=y.l<;>by_cases I:x.r=y.r<;>simp[zdj,J,H,j,L,A,I]
theorem zjR (h:BinOp) (a b:Operand) (x y:Ex) (w:World):Sem.run Tryz.prog (eqGuard h 109 a b (.agg #[.int .i64 x.kind,.int .i64 x.num,.string x.name,.string x.field,.int .i64 x.l,.int .i64 x.r]) (.agg #[.int .i64 y.kind,.int .i64 y.num,.string y.name,.string y.field,.int .i64 y.l,.int .i64 y.r])) w= .ok () w:=run_eqGuard_agg w h 109 a b _ _ (by kernel_rfl)
theorem zjS (b1 b2:Nat) (S1 S2:Sv) (A L:Md) (w:World) (h1:OwnMd w b1 S1 A) (h2:OwnMd w b2 S2 L) (hf:zdB A):
  Calls Tryz.prog 91 #[zh S1 A,zh S2 L] w fun e w'=>zbX (A=L) e∧Below w.heap.size w w':=by
 have H1:=zc h1
 have H2:=zc h2
 have HF:=zc hf
 clear h1 h2 hf
 unfold zh
 go_enter Tryz.func91,Tryz.ntmps91
 go_upto_region 1 with fail
 refine zV (R:=TwoM w b1 b2 S1 S2 A L) (zhn w b1 b2 S1 S2 A L H1.out H2.out) ?_
 clear H1 H2
 intro w0 h
 have T0:=zc h
 clear h
 obtain⟨c0,N,U,Y,O,X⟩:=zg T0.out.1
 obtain⟨V,M,H,I,Z,J⟩:=zg T0.out.2.1
 go_wp2_with fail
 refine (znx b1 b2 S1.rq S2.rq A.rq L.rq w0 (by rw[←ze5];exact T0.out.2.2.1.rq) (by rw[←ze5];exact T0.out.2.2.2.1.rq) HF.out.1).mono ?_
 rintro e w1 ⟨⟨r,rfl,z⟩,j⟩
 have T1:=zc (T0.out.later j)
 have R0:=zc z
 clear j z c0 N U Y O X V M H I Z J
 obtain⟨c0,N,U,Y,O,X⟩:=zg T1.out.1
 obtain⟨V,M,H,I,Z,J⟩:=zg T1.out.2.1
 cases r with
 |false=>
  go_wp2
  go_ret
  exact⟨⟨false,rfl,⟨fun k=>(by cases k),fun k=>(by have:=R0.out.2 (by rw[k]);cases this)⟩⟩,T1.out.2.2.2.2⟩
 |true=>
  go_wp2_with fail
  refine (zn1 zjK zjL b1 b2 S1.im S2.im A.im L.im w1 T1.out.2.2.1.im T1.out.2.2.2.1.im HF.out.2.1).mono ?_
  rintro e w2 ⟨⟨r,rfl,z⟩,j⟩
  have T2:=zc (T1.out.later j)
  have R1:=zc z
  clear j z c0 N U Y O X V M H I Z J
  obtain⟨c0,N,U,Y,O,X⟩:=zg T2.out.1
  obtain⟨V,M,H,I,Z,J⟩:=zg T2.out.2.1
  cases r with
  |false=>
   go_wp2
   go_ret
   exact⟨⟨false,rfl,⟨fun k=>(by cases k),fun k=>(by have:=R1.out.2 (by rw[k]);cases this)⟩⟩,T2.out.2.2.2.2⟩
  |true=>
   go_wp2_with fail
   refine (zn5 zjM zjN b1 b2 S1.ep S2.ep A.ep L.ep w2 T2.out.2.2.1.ep T2.out.2.2.2.1.ep HF.out.2.2.1).mono ?_
   rintro e w3 ⟨⟨r,rfl,z⟩,j⟩
   have T3:=zc (T2.out.later j)
   have R2:=zc z
   clear j z c0 N U Y O X V M H I Z J
   obtain⟨c0,N,U,Y,O,X⟩:=zg T3.out.1
   obtain⟨V,M,H,I,Z,J⟩:=zg T3.out.2.1
   cases r with
   |false=>
    go_wp2
    go_ret
    exact⟨⟨false,rfl,⟨fun k=>(by cases k),fun k=>(by have:=R2.out.2 (by rw[k]);cases this)⟩⟩,T3.out.2.2.2.2⟩
   |true=>
    go_wp2_with fail
    refine (zn9 zjO zjP b1 b2 S1.st S2.st A.st L.st w3 T3.out.2.2.1.st T3.out.2.2.2.1.st HF.out.2.2.2.1).mono ?_
    rintro e w4 ⟨⟨r,rfl,z⟩,j⟩
    have T4:=zc (T3.out.later j)
    have R3:=zc z
    clear j z c0 N U Y O X V M H I Z J
    obtain⟨c0,N,U,Y,O,X⟩:=zg T4.out.1
    obtain⟨V,M,H,I,Z,J⟩:=zg T4.out.2.1
    cases r with
    |false=>
     go_wp2
     go_ret
     exact⟨⟨false,rfl,⟨fun k=>(by cases k),fun k=>(by have:=R3.out.2 (by rw[k]);cases this)⟩⟩,T4.out.2.2.2.2⟩
    |true=>
     go_wp2_with fail
     refine (znD zjQ zjR b1 b2 S1.ex S2.ex A.ex L.ex w4 T4.out.2.2.1.ex T4.out.2.2.2.1.ex HF.out.2.2.2.2).mono ?_
     rintro e w5 ⟨⟨r,rfl,z⟩,j⟩
     have T5:=zc (T4.out.later j)
     have R4:=zc z
     clear j z c0 N U Y O X V M H I Z J
     obtain⟨c0,N,U,Y,O,X⟩:=zg T5.out.1
     obtain⟨V,M,H,I,Z,J⟩:=zg T5.out.2.1
     cases r with
     |false=>
      go_wp2
      go_ret
      exact⟨⟨false,rfl,⟨fun k=>(by cases k),fun k=>(by have:=R4.out.2 (by rw[k]);cases this)⟩⟩,T5.out.2.2.2.2⟩
     |true=>
      go_wp2
      go_ret
      exact⟨⟨true,rfl,⟨fun _=>ziX (R0.out.1 (by simp)) (R1.out.1 (by simp)) (R2.out.1 (by simp)) (R3.out.1 (by simp)) (R4.out.1 (by simp)),fun _=>rfl⟩⟩,T5.out.2.2.2.2⟩
theorem zjT (m:Int) (w:World) (J:0≤m) (L:m≤18446744073709551615):
  Calls Tryz.prog 233 #[.int .u64 m] w fun e w'=>e= .returned (.int .i64 (dcn m))∧w'=w:=by
 have A:=zdv m J L
 have M:dcn m≤20:=A.2.1
 have I:1≤dcn m:=A.1
 clear A
 go_enter Tryz.func233,Tryz.ntmps233
 go_wp2
 go_loop [0,3] (fun a c=>∃k:Nat,k+1≤dcn m∧a= .int .u64 (m/10^k)∧c= .int .i64 ((k:Int)+1)) (fun a _=>(intOf a).toNat)
 case atStart=>exact⟨0,I,by simp,rfl⟩
 case round=>
  obtain⟨k,N,rfl,rfl⟩:=hrel
  have O:=zet m k J
  have z:=zlY m J L k
  by_cases j:10≤m/10^k
  ·have H:=z.1 j
   clear z
   go_wp2
   go_round
   case rel=>exact⟨k+1,by omega,by rw[zes],by go_num⟩
   case measure=>simp[intOf];omega
  ·have H: ¬(k+1<dcn m):=fun h=>j (z.2 h)
   clear z
   go_wp2
   go_ret
   exact⟨zfA (by omega),rfl⟩
theorem zqf (n:Int) (w:World) (V:0≤n) (h1:n≤9223372036854775807):
  Calls Tryz.prog 219 #[.int .i64 n] w fun e w'=>e= .returned (.string (strOfNums (dgk n (dcn n))))∧Below w.heap.size w w':=by
 obtain⟨i0,hi,L,N,O⟩:=info_parts Tryz.infoByte
 have J:=zdv n V (by omega)
 have aa:dcn n≤20:=J.2.1
 have ab:1≤dcn n:=J.1
 clear J
 go_enter Tryz.func219,Tryz.ntmps219
 go_wp2_with (first|(go_at_call 233;refine (zjT _ _ (by omega) (by omega)).mono ?_;rintro e w' ⟨rfl,rfl⟩)|(at_make;refine wpList_make_full _ rfl _ _ 50 rfl w'.heap.size 5 i0 (.int .u8 0) 1 Tryz.underlying50 hi L N _ _ _ _ (dcn n) rfl rfl (by omega) (by omega) ?b2 ?b3 ?b4 ?_))
 case b2=>rw[O];omega
 case b3=>unfold maxLen;omega
 case b4=>exact Nat.le_refl _
 intro w1 j z
 have H:=(Below.refl w'.heap.size w').grown z (Nat.le_refl _) (by intro k X;cases X)
 rw[toList_madeCells_one] at j
 clear z
 go_wp2
 go_loopw [3,7,21] (fun r _ i wr=>∃k:Nat,k≤dcn n∧i= .int .i64 k∧r= .int .u64 (n/10^k)∧zcG wr w'.heap.size 5 (.slice (some ⟨w'.heap.size,0,none⟩) (dcn n) (dcn n)) (dcn n) (zcH (dgk n (dcn n)) k)∧Below w'.heap.size w' wr) (fun _ _ i _=>dcn n-(intOf i).toNat)
 case atStart=>exact⟨0,by omega,rfl,by simp,by unfold zcG;rw[zik,zc9,List.map_replicate];exact j,H⟩
 case round=>
  obtain⟨k,X,rfl,rfl,h,A⟩:=hrel
  clear j H
  have hb:=zet n k V
  by_cases I:k<dcn n
  ·obtain⟨v,hv⟩:=zgN h (dcn n-1-k) (by omega)
   have hf:=zgO h (dcn n-1-k)
   have Y:=zgM h (dcn n-1-k) (48+n/10^k%10)
   have U:=zil (dgk n (dcn n)) k (48+n/10^k%10) (by rw[zc9];exact I) (by rw[zc9];exact ziv n _ k I)
   rw[zc9] at U
   rw[U] at Y
   clear U h
   go_wp2
   go_roundw
   case rel=>exact⟨k+1,by omega,by go_num,by rw[zes],Y,A.setCell (Nat.le_refl _) _⟩
   case measure=>simp[intOf];omega
  ·have M:=zlZ (dgk n (dcn n))
   rw[zc9] at M
   rw[show k=dcn n from by omega,M] at h
   clear M
   have Z:=zij (P:=Tryz.prog) (src:=50) (dst:=9) Tryz.underlying50 Tryz.underlying5 Tryz.underlying9 h
   go_wp2
   go_ret
   exact⟨rfl,A⟩
theorem zqg (m:Int) (j:0<m) (h:m≤9223372036854775808):IntKind.u64.wrap (-IntKind.u64.wrap (-m))=m:=by
 rw[IntKind.wrap_u64,IntKind.wrap_u64];omega
theorem zqh (m:Int) (w:World) (h0:0<m) (h1:m≤9223372036854775808):
  Calls Tryz.prog 219 #[.int .i64 (-m)] w fun e w'=>e= .returned (.string (strOfNums (45::dgk m (dcn m))))∧Below w.heap.size w w':=by
 obtain⟨i0,hi,N,U,V⟩:=info_parts Tryz.infoByte
 have L:=zdv m (by omega) (by omega)
 have ab:dcn m≤20:=L.2.1
 have ac:1≤dcn m:=L.1
 clear L
 have hu:=zqg m h0 h1
 go_enter Tryz.func219,Tryz.ntmps219
 go_wp2_with (first|(go_at_call 233;refine (zjT _ _ (by omega) (by omega)).mono ?_;rintro e w' ⟨rfl,rfl⟩)|(at_make;refine wpList_make_full _ rfl _ _ 50 rfl w'.heap.size 5 i0 (.int .u8 0) 1 Tryz.underlying50 hi N U _ _ _ _ (dcn m+1) rfl rfl (by omega) (by omega) ?b2 ?b3 ?b4 ?_))
 case b2=>rw[V];omega
 case b3=>unfold maxLen;omega
 case b4=>exact Nat.le_refl _
 intro w1 j z
 have I:=(Below.refl w'.heap.size w').grown z (Nat.le_refl _) (by intro k Z;cases Z)
 rw[toList_madeCells_one] at j
 clear z
 have H:(45::dgk m (dcn m)).length=dcn m+1:=by rw[List.length_cons,zc9]
 have X:Hid ((45::dgk m (dcn m)).length=dcn m+1):=H
 clear H
 go_wp2
 go_loopw [3,7,21] (fun r _ i wr=>∃k:Nat,k≤dcn m∧i= .int .i64 k∧r= .int .u64 (m/10^k)∧zcG wr w'.heap.size 5 (.slice (some ⟨w'.heap.size,0,none⟩) (dcn m+1) (dcn m+1)) (dcn m+1) (zcH (45::dgk m (dcn m)) k)∧Below w'.heap.size w' wr) (fun _ _ i _=>dcn m-(intOf i).toNat)
 case atStart=>exact⟨0,by omega,rfl,by simp,by unfold zcG;rw[zik,X.out,List.map_replicate];exact j,I⟩
 case round=>
  obtain⟨k,Z,rfl,rfl,h,A⟩:=hrel
  clear j I hu
  have hb:=zet m k (by omega)
  by_cases M:k<dcn m
  ·obtain⟨v,hv⟩:=zgN h (dcn m-k) (by omega)
   have hf:=zgO h (dcn m-k)
   have J:=zgM h (dcn m-k) (48+m/10^k%10)
   have Y:=zil (45::dgk m (dcn m)) k (48+m/10^k%10) (by rw[X.out];omega) (zmb [45] m (dcn m) k M)
   rw[X.out,show dcn m+1-1-k=dcn m-k from by omega] at Y
   rw[Y] at J
   clear Y h
   go_wp2
   go_roundw
   case rel=>exact⟨k+1,by omega,by go_num,by rw[zes],J,A.setCell (Nat.le_refl _) _⟩
   case measure=>simp[intOf];omega
  ·have O:=zma 45 (dgk m (dcn m))
   rw[zc9] at O
   rw[show k=dcn m from by omega] at h
   obtain⟨v,hv⟩:=zgN h 0 (by omega)
   have hf:=zgO h 0
   have J:=zgM h 0 45
   rw[O] at J
   clear O h
   have aa:=zij (P:=Tryz.prog) (src:=50) (dst:=9) Tryz.underlying50 Tryz.underlying5 Tryz.underlying9 J
   go_wp2
   go_ret
   exact⟨rfl,A.setCell (Nat.le_refl _) _⟩
theorem zqi (n:Int) (w:World) (j: -9223372036854775808≤n∧n≤9223372036854775807):
  Calls Tryz.prog 219 #[.int .i64 n] w fun e w'=>e= .returned (.string (strOfNums (zbU n)))∧Below w.heap.size w w':=by
 by_cases h:0≤n
 ·rw[zgS h]
  exact zqf n w h j.2
 ·obtain⟨m,rfl⟩: ∃m,n= -m:=⟨-n,by omega⟩
  rw[zgR (by omega),Int.neg_neg]
  exact zqh m w (by omega) (by omega)
theorem neg_tmod (q:Int) (h:0≤q):(-q).tmod 10= -(q%10):=by rw[Int.neg_tmod,Int.tmod_eq_emod_of_nonneg h]
theorem neg_tdiv (q:Int) (h:0≤q):(-q).tdiv 10= -(q/10):=by rw[Int.neg_tdiv,Int.tdiv_eq_ediv_of_nonneg h]
theorem zqj (n:Int) (w:World) (Z:0<n) (h1:n≤9223372036854775807):
  Calls Tryz.prog 153 #[.int .i64 n] w fun e w'=>e= .returned (.string (strOfNums (dgk n (dcn n))))∧Below w.heap.size w w':=by
 have H:=zdv n (by omega) (by omega)
 have X:dcn n≤20:=H.2.1
 have Y:1≤dcn n:=H.1
 have N:(n==0)=false:=by simp;omega
 have M: ¬n<0:=by omega
 clear H
 go_enter Tryz.func153,Tryz.ntmps153
 go_wp2
 go_loopw [0,3,5] (fun a o _ wr=>∃k:Nat,k≤dcn n∧a= .int .i64 (n/10^k)∧o= .string (strOfNums (dgk n k))∧Below w.heap.size w wr) (fun a _ _ _=>(intOf a).toNat)
 case atStart=>exact⟨0,by omega,by simp,rfl,Below.refl _ _⟩
 case round=>
  obtain⟨k,hk,rfl,rfl,j⟩:=hrel
  have hb:=zet n k (by omega)
  have A:=ziu n (by omega) (by omega) k
  have U:(strOfNums (dgk n k)).size≤20:=by rw[strOfNums_size,zc9];omega
  by_cases z:n/10^k=0
  ·have I: ¬(k<dcn n):=fun h=>A.2 h z
   have J:(n/10^k !=0)=false:=by simpa using z
   clear A z
   go_wp2
   go_ret
   exact⟨za1 (by rw[show dcn n=k from by omega]),j⟩
  ·have I:=A.1 z
   have J:(n/10^k !=0)=true:=by simpa using z
   have V:0<n/10^k:=by omega
   clear A z
   have O:=fun (w:World) (x:Int)=>zgL (P:=Tryz.prog) (src:=50) (dst:=9) Tryz.underlying50 Tryz.underlying5 Tryz.underlying9 w x
   have L:=fun x=>strOfNums_size [x]
   go_wp2
   go_roundw
   case rel=>exact⟨k+1,by omega,by rw[zes],by rw[zfB];rfl,j.alloc j.size _⟩
   case measure=>simp[intOf];omega
theorem zqk (m:Int) (w:World) (h0:0<m) (h1:m≤9223372036854775808):
  Calls Tryz.prog 153 #[.int .i64 (-m)] w fun e w'=>e= .returned (.string (strOfNums (45::dgk m (dcn m))))∧Below w.heap.size w w':=by
 have A:=zdv m (by omega) (by omega)
 have Y:dcn m≤20:=A.2.1
 have Z:1≤dcn m:=A.1
 have O:(-m==0)=false:=by simp;omega
 clear A
 go_enter Tryz.func153,Tryz.ntmps153
 go_wp2
 go_loopw [0,3,5] (fun a o _ wr=>∃k:Nat,k≤dcn m∧a= .int .i64 (-(m/10^k))∧o= .string (strOfNums (dgk m k))∧Below w.heap.size w wr) (fun a _ _ _=>(-(intOf a)).toNat)
 case atStart=>exact⟨0,by omega,by simp,rfl,Below.refl _ _⟩
 case round=>
  obtain⟨k,hk,rfl,rfl,j⟩:=hrel
  have L:=zet m k (by omega)
  have H:=ziu m (by omega) (by omega) k
  have X:(strOfNums (dgk m k)).size≤20:=by rw[strOfNums_size,zc9];omega
  by_cases z:m/10^k=0
  ·have I: ¬(k<dcn m):=fun h=>H.2 h z
   have J:(-(m/10^k) !=0)=false:=by simpa using z
   have M:(strOfNums [45]).size=1:=strOfNums_size [45]
   clear H z
   go_wp2
   go_ret
   exact⟨za1 (by rw[show dcn m=k from by omega];exact zfB 45 _),j⟩
  ·have I:=H.1 z
   have J:(-(m/10^k) !=0)=true:=by simpa using z
   have V:0<m/10^k:=by omega
   clear H z
   have e1:=neg_tmod (m/10^k) L.1
   have e2:=neg_tdiv (m/10^k) L.1
   have U:=fun (w:World) (x:Int)=>zgL (P:=Tryz.prog) (src:=50) (dst:=9) Tryz.underlying50 Tryz.underlying5 Tryz.underlying9 w x
   have N:=fun x=>strOfNums_size [x]
   by_cases A:0<m/10^k%10
   ·go_wp2
    go_roundw
    case rel=>exact⟨k+1,by omega,by rw[zes],by rw[zfB];rfl,j.alloc j.size _⟩
    case measure=>simp[intOf];omega
   ·go_wp2
    go_roundw
    case rel=>exact⟨k+1,by omega,by rw[zes],by rw[zfB,show 48+ -(m/10^k%10)=48+m/10^k%10 from by omega];rfl,j.alloc j.size _⟩
    case measure=>simp[intOf];omega
theorem zql (n:Int) (w:World) (z: -9223372036854775808≤n∧n≤9223372036854775807):
  Calls Tryz.prog 153 #[.int .i64 n] w fun e w'=>e= .returned (.string (strOfNums (zbU n)))∧Below w.heap.size w w':=by
 by_cases h:0<n
 ·rw[zgS (by omega)]
  exact zqj n w h z.2
 ·by_cases A:n=0
  ·subst A
   have j:Hid (zbU 0=[48]):=by show zbU 0=[48];decide
   go_enter Tryz.func153,Tryz.ntmps153
   go_wp2
   go_ret
   exact⟨za1 (by rw[j.out];rfl),Below.refl _ _⟩
  ·obtain⟨m,rfl⟩: ∃m,n= -m:=⟨-n,by omega⟩
   rw[zgR (by omega),Int.neg_neg]
   exact zqk m w (by omega) (by omega)
theorem zjU (k:Int) (w:World):Calls Tryz.prog 115 #[.int .i64 k] w fun e w'=>e= .returned (.bool (zaa k))∧w'=w:=by
 cases j:(k==6) with
 |true=>
  have h:Hid (zaa k=true):=by show _=_;rw[zaa,j];rfl
  go_enter Tryz.func115,Tryz.ntmps115
  go_wp2
  go_ret
  exact⟨zk h.out.symm,rfl⟩
 |false=>
  cases z:(k==7) with
  |true=>
   have h:Hid (zaa k=true):=by show _=_;rw[zaa,j,z];rfl
   go_enter Tryz.func115,Tryz.ntmps115
   go_wp2
   go_ret
   exact⟨zk h.out.symm,rfl⟩
  |false=>
   have h:Hid (zaa k=(k==8)):=by show _=_;rw[zaa,j,z];simp
   go_enter Tryz.func115,Tryz.ntmps115
   go_wp2
   go_ret
   exact⟨zk h.out.symm,rfl⟩
theorem zh5 (j:Nat) (S:Sv) (m:Md) (i:Nat) (w:World) (h:OwnMd w j S m) (I:i<m.ex.length):
  Calls Tryz.prog 155 #[zh S m,.int .i64 i] w fun e w'=>e= .returned (.bool (zP (m.ex.getD i zj).kind))∧Below w.heap.size w w':=by
 obtain⟨g,hg,hlt,c0,-,-,-,-,-⟩:=h.expr I
 have H:(i:Int)<(m.ex.length:Int):=by omega
 unfold zh
 rw[hg]
 generalize (m.ex.getD i zj).kind=k at c0 ⊢
 clear h hg
 cases A:(k==6) with
 |true=>
  have z:Hid (zP k=true):=by show _=_;rw[zP,A];rfl
  go_enter Tryz.func155,Tryz.ntmps155
  go_wp2
  go_ret
  exact⟨zk z.out.symm,(Below.refl _ _).alloc (Nat.le_refl _) _⟩
 |false=>
  have z:Hid (zP k=(k==7)):=by show _=_;rw[zP,A];simp
  go_enter Tryz.func155,Tryz.ntmps155
  go_wp2
  go_ret
  exact⟨zk z.out.symm,(Below.refl _ _).alloc (Nat.le_refl _) _⟩
def zeE (base:Nat) (S:Sv) (m:Md) (n:Nat):Prop:=∀(i:Nat) (w:World),i<n→i<m.ex.length→OwnMd w base S m→wt m.ex i≤1099511627776→
 Calls Tryz.prog 117 #[zh S m,.int .i64 i] w fun e w'=>e= .returned (.string (prX m.ex i))∧Below w.heap.size w w'
theorem zgw (j:Nat) (S:Sv) (m:Md) (n i:Nat) (b:Bool) (w:World) (L:zeE j S m n) (N:i<n) (V:i<m.ex.length) (h:OwnMd w j S m) (H:wt m.ex i≤1099511627776):
  Calls Tryz.prog 154 #[zh S m,.int .i64 i,.bool b] w fun e w'=>e= .returned (.string (zG b (prX m.ex i)))∧Below w.heap.size w w':=by
 have U:=zc L
 have M:=zc h
 have X:=zc H
 unfold wt at H
 clear L h
 unfold zh
 cases b with
 |true=>
  have A:Hid (zG true (prX m.ex i)=zr++prX m.ex i++za8):=rfl
  go_enter Tryz.func154,Tryz.ntmps154
  go_wp2_with fail
  refine (U.out i _ N V (M.out.alloc _) X.out).mono ?_
  rintro e I ⟨rfl,z⟩
  have J:Hid (Below w.heap.size w I):=((Below.refl _ _).alloc (Nat.le_refl _) _).trans (z.mono (by rw[zn];omega))
  clear z
  generalize O:prX m.ex i=t at H A ⊢
  have Y:=zc O
  clear O
  go_wp2
  go_ret
  exact⟨za1 (by rw[Y.out];exact A.out.symm),J.out⟩
 |false=>
  have A:Hid (zG false (prX m.ex i)=prX m.ex i):=rfl
  go_enter Tryz.func154,Tryz.ntmps154
  go_wp2_with fail
  refine (U.out i _ N V (M.out.alloc _) X.out).mono ?_
  rintro e I ⟨rfl,z⟩
  have J:Hid (Below w.heap.size w I):=((Below.refl _ _).alloc (Nat.le_refl _) _).trans (z.mono (by rw[zn];omega))
  clear z
  go_wp2
  go_ret
  exact⟨za1 A.out.symm,J.out⟩
theorem zqm (g:Nat) (S:Sv) (m:Md) (i:Nat) (k h l r:Int) (J N:ByteArray) (w:World) (j:S.ex.a=some ⟨g,0,none⟩) (V:i<m.ex.length) (I:g<w.heap.size) (X:w.cell? ⟨g,i*6,none⟩=some (.int .i64 k)) (Y:w.cell? ⟨g,i*6+1,none⟩=some (.int .i64 h)) (U:w.cell? ⟨g,i*6+2,none⟩=some (.string J)) (c3:w.cell? ⟨g,i*6+3,none⟩=some (.string N)) (c4:w.cell? ⟨g,i*6+4,none⟩=some (.int .i64 l)) (c5:w.cell? ⟨g,i*6+5,none⟩=some (.int .i64 r)) (O:(k==1)=true) (z: -9223372036854775808≤h∧h≤9223372036854775807):
  Calls Tryz.prog 117 #[zh S m,.int .i64 i] w fun e w'=>e= .returned (.string (strOfNums (zbU h)))∧Below w.heap.size w w':=by
 have M:(i:Int)<(m.ex.length:Int):=by omega
 unfold zh
 rw[j]
 clear j
 go_enter Tryz.func117,Tryz.ntmps117
 go_wp2_with fail
 refine (zql h _ z).mono ?_
 rintro e H ⟨rfl,A⟩
 have L:Hid (Below w.heap.size w H):=(zba w _ _).trans (A.mono (by rw[zn,zn];omega))
 clear A
 go_wp2
 go_ret
 exact⟨rfl,L.out⟩
theorem zqn (g:Nat) (S:Sv) (m:Md) (i:Nat) (k A l r:Int) (j I:ByteArray) (w:World) (h:S.ex.a=some ⟨g,0,none⟩) (N:i<m.ex.length) (z:g<w.heap.size) (O:w.cell? ⟨g,i*6,none⟩=some (.int .i64 k)) (U:w.cell? ⟨g,i*6+1,none⟩=some (.int .i64 A)) (L:w.cell? ⟨g,i*6+2,none⟩=some (.string j)) (c3:w.cell? ⟨g,i*6+3,none⟩=some (.string I)) (c4:w.cell? ⟨g,i*6+4,none⟩=some (.int .i64 l)) (c5:w.cell? ⟨g,i*6+5,none⟩=some (.int .i64 r)) (J:(k==1)=false) (M:(k==2)=true):
  Calls Tryz.prog 117 #[zh S m,.int .i64 i] w fun e w'=>e= .returned (.string (j))∧Below w.heap.size w w':=by
 have H:(i:Int)<(m.ex.length:Int):=by omega
 unfold zh
 rw[h]
 clear h
 go_enter Tryz.func117,Tryz.ntmps117
 go_wp2
 go_ret
 exact⟨rfl,((Below.refl _ _).alloc (Nat.le_refl _) _).alloc (by show _≤(w.heap.push _).size;simp) _⟩
theorem zqo (g:Nat) (S:Sv) (m:Md) (i:Nat) (k J l r:Int) (z I:ByteArray) (w:World) (h:S.ex.a=some ⟨g,0,none⟩) (X:i<m.ex.length) (H:g<w.heap.size) (Z:w.cell? ⟨g,i*6,none⟩=some (.int .i64 k)) (Y:w.cell? ⟨g,i*6+1,none⟩=some (.int .i64 J)) (O:w.cell? ⟨g,i*6+2,none⟩=some (.string z)) (c3:w.cell? ⟨g,i*6+3,none⟩=some (.string I)) (c4:w.cell? ⟨g,i*6+4,none⟩=some (.int .i64 l)) (c5:w.cell? ⟨g,i*6+5,none⟩=some (.int .i64 r)) (N:(k==1)=false) (U:(k==2)=false) (V:(k==3)=true) (j:(z++cParens).size≤1099511627776):
  Calls Tryz.prog 117 #[zh S m,.int .i64 i] w fun e w'=>e= .returned (.string (z++cParens))∧Below w.heap.size w w':=by
 have L:(i:Int)<(m.ex.length:Int):=by omega
 unfold zh
 rw[h]
 clear h
 simp only[ByteArray.size_append] at j
 have A:cParens.size=2:=rfl
 have M:z.size≤1099511627776:=by omega
 clear j A
 go_enter Tryz.func117,Tryz.ntmps117
 go_wp2
 go_ret
 exact⟨rfl,((Below.refl _ _).alloc (Nat.le_refl _) _).alloc (by show _≤(w.heap.push _).size;simp) _⟩
theorem zqp (g:Nat) (S:Sv) (m:Md) (i:Nat) (k J l r:Int) (z A:ByteArray) (w:World) (j:S.ex.a=some ⟨g,0,none⟩) (Y:i<m.ex.length) (I:g<w.heap.size) (c0:w.cell? ⟨g,i*6,none⟩=some (.int .i64 k)) (V:w.cell? ⟨g,i*6+1,none⟩=some (.int .i64 J)) (X:w.cell? ⟨g,i*6+2,none⟩=some (.string z)) (c3:w.cell? ⟨g,i*6+3,none⟩=some (.string A)) (c4:w.cell? ⟨g,i*6+4,none⟩=some (.int .i64 l)) (c5:w.cell? ⟨g,i*6+5,none⟩=some (.int .i64 r)) (O:(k==1)=false) (Z:(k==2)=false) (U:(k==3)=false) (k4:(k==4)=true) (h:(z++cPoint++A).size≤1099511627776):
  Calls Tryz.prog 117 #[zh S m,.int .i64 i] w fun e w'=>e= .returned (.string (z++cPoint++A))∧Below w.heap.size w w':=by
 have L:(i:Int)<(m.ex.length:Int):=by omega
 unfold zh
 rw[j]
 clear j
 simp only[ByteArray.size_append] at h
 have H:cPoint.size=1:=rfl
 have M:z.size≤1099511627776:=by omega
 have N:A.size≤1099511627776:=by omega
 clear h H
 go_enter Tryz.func117,Tryz.ntmps117
 go_wp2
 go_ret
 exact⟨rfl,((Below.refl _ _).alloc (Nat.le_refl _) _).alloc (by show _≤(w.heap.push _).size;simp) _⟩
theorem zqq (g:Nat) (S:Sv) (m:Md) (i:Nat) (k L l r:Int) (z A:ByteArray) (w:World) (j:S.ex.a=some ⟨g,0,none⟩) (hi:i<m.ex.length) (J:g<w.heap.size) (c0:w.cell? ⟨g,i*6,none⟩=some (.int .i64 k)) (Y:w.cell? ⟨g,i*6+1,none⟩=some (.int .i64 L)) (Z:w.cell? ⟨g,i*6+2,none⟩=some (.string z)) (c3:w.cell? ⟨g,i*6+3,none⟩=some (.string A)) (c4:w.cell? ⟨g,i*6+4,none⟩=some (.int .i64 l)) (c5:w.cell? ⟨g,i*6+5,none⟩=some (.int .i64 r)) (U:(k==1)=false) (k2:(k==2)=false) (V:(k==3)=false) (k4:(k==4)=false) (X:(k==5)=true) (h:(z++cPoint++A++cParens).size≤1099511627776):
  Calls Tryz.prog 117 #[zh S m,.int .i64 i] w fun e w'=>e= .returned (.string (z++cPoint++A++cParens))∧Below w.heap.size w w':=by
 have M:(i:Int)<(m.ex.length:Int):=by omega
 unfold zh
 rw[j]
 clear j
 simp only[ByteArray.size_append] at h
 have I:cParens.size=2:=rfl
 have H:cPoint.size=1:=rfl
 have N:z.size≤1099511627776:=by omega
 have O:A.size≤1099511627776:=by omega
 clear h I H
 go_enter Tryz.func117,Tryz.ntmps117
 go_wp2
 go_ret
 exact⟨rfl,((Below.refl _ _).alloc (Nat.le_refl _) _).alloc (by show _≤(w.heap.push _).size;simp) _⟩
theorem zqr (g:Nat) (S:Sv) (m:Md) (i:Nat) (k A l r:Int) (z I:ByteArray) (w:World) (h:S.ex.a=some ⟨g,0,none⟩) (Y:i<m.ex.length) (j:g<w.heap.size) (c0:w.cell? ⟨g,i*6,none⟩=some (.int .i64 k)) (U:w.cell? ⟨g,i*6+1,none⟩=some (.int .i64 A)) (V:w.cell? ⟨g,i*6+2,none⟩=some (.string z)) (c3:w.cell? ⟨g,i*6+3,none⟩=some (.string I)) (c4:w.cell? ⟨g,i*6+4,none⟩=some (.int .i64 l)) (c5:w.cell? ⟨g,i*6+5,none⟩=some (.int .i64 r)) (J:(k==1)=false) (Z:(k==2)=false) (N:(k==3)=false) (k4:(k==4)=false) (O:(k==5)=false) (X:(k==6)=false) (M:(k==7)=false) (L:(k==8)=false):
  Calls Tryz.prog 117 #[zh S m,.int .i64 i] w fun e w'=>e= .returned (.string (sNone))∧Below w.heap.size w w':=by
 have H:(i:Int)<(m.ex.length:Int):=by omega
 unfold zh
 rw[h]
 clear h
 go_enter Tryz.func117,Tryz.ntmps117
 go_wp2
 go_ret
 exact⟨rfl,((Below.refl _ _).alloc (Nat.le_refl _) _).alloc (by show _≤(w.heap.push _).size;simp) _⟩
theorem zqs (A g:Nat) (S:Sv) (m:Md) (i z j:Nat) (k I:Int) (H J:ByteArray) (w:World) (O:S.ex.a=some ⟨g,0,none⟩) (h:OwnMd w A S m) (hi:i<m.ex.length) (af:g<w.heap.size) (c0:w.cell? ⟨g,i*6,none⟩=some (.int .i64 k)) (c1:w.cell? ⟨g,i*6+1,none⟩=some (.int .i64 I)) (c2:w.cell? ⟨g,i*6+2,none⟩=some (.string H)) (c3:w.cell? ⟨g,i*6+3,none⟩=some (.string J)) (c4:w.cell? ⟨g,i*6+4,none⟩=some (.int .i64 (z:Int))) (c5:w.cell? ⟨g,i*6+5,none⟩=some (.int .i64 (j:Int))) (k1:(k==1)=false) (k2:(k==2)=false) (k3:(k==3)=false) (k4:(k==4)=false) (k5:(k==5)=false) (k6:(k==6)=true) (ab:(prX m.ex z++tPlus++zG (zP (m.ex.getD j zj).kind) (prX m.ex j)).size≤1099511627776) (he:zeE A S m i) (hl:z<i) (hr:j<i) (ah:wt m.ex z≤1099511627776) (ak:wt m.ex j≤1099511627776):
  Calls Tryz.prog 117 #[zh S m,.int .i64 i] w fun e w'=>e= .returned (.string (prX m.ex z++tPlus++zG (zP (m.ex.getD j zj).kind) (prX m.ex j)))∧Below w.heap.size w w':=by
 have ao:(i:Int)<(m.ex.length:Int):=by omega
 have HA:Hid (OwnMd ((w.alloc (.cells #[.slice S.rq.a m.rq.length S.rq.cap,.slice S.im.a m.im.length S.im.cap,.slice S.ep.a m.ep.length S.ep.cap,.slice S.st.a m.st.length S.st.cap,.slice (some ⟨g,0,none⟩) m.ex.length S.ex.cap] 36)).alloc (.cells #[.int .i64 k,.int .i64 I,.string H,.string J,.int .i64 (z:Int),.int .i64 (j:Int)] 109)) A S m):=(h.alloc _).alloc _
 have HE:=zc he
 have N:Hid (zh S m= .agg #[.slice S.rq.a m.rq.length S.rq.cap,.slice S.im.a m.im.length S.im.cap,.slice S.ep.a m.ep.length S.ep.cap,.slice S.st.a m.st.length S.st.cap,.slice (some ⟨g,0,none⟩) m.ex.length S.ex.cap]):=by show _=_;rw[zh,O]
 have ap:(z:Int)<(m.ex.length:Int):=by omega
 have aq:(j:Int)<(m.ex.length:Int):=by omega
 obtain⟨g2,hg2,-,d0,-,-,-,-,-⟩:=h.expr (i:=j) (by omega)
 have eg:g2=g:=by have:=hg2.symm.trans O;simpa using this
 rw[eg] at d0
 obtain⟨kr,Z⟩: ∃kr,(m.ex.getD j zj).kind=kr:=⟨_,rfl⟩
 rw[Z] at d0
 have V:=zc Z
 obtain⟨tl,aa⟩: ∃tl,prX m.ex z=tl:=⟨_,rfl⟩
 obtain⟨tr,ad⟩: ∃tr,zG (zP (m.ex.getD j zj).kind) (prX m.ex j)=tr:=⟨_,rfl⟩
 rw[aa,ad] at ab
 have ae:=zc aa
 have ac:=zc ad
 have cL: ∀d L,Calls Tryz.prog 117 #[.agg #[.slice S.rq.a m.rq.length S.rq.cap,.slice S.im.a m.im.length S.im.cap,.slice S.ep.a m.ep.length S.ep.cap,.slice S.st.a m.st.length S.st.cap,.slice (some ⟨g,0,none⟩) m.ex.length S.ex.cap],.int .i64 (z:Int)] (grow (redrawn ((w.alloc (.cells #[.slice S.rq.a m.rq.length S.rq.cap,.slice S.im.a m.im.length S.im.cap,.slice S.ep.a m.ep.length S.ep.cap,.slice S.st.a m.st.length S.st.cap,.slice (some ⟨g,0,none⟩) m.ex.length S.ex.cap] 36)).alloc (.cells #[.int .i64 k,.int .i64 I,.string H,.string J,.int .i64 (z:Int),.int .i64 (j:Int)] 109)) d) L) fun e M=>e= .returned (.string tl)∧∃p:Regrown,M=grow (redrawn ((w.alloc (.cells #[.slice S.rq.a m.rq.length S.rq.cap,.slice S.im.a m.im.length S.im.cap,.slice S.ep.a m.ep.length S.ep.cap,.slice S.st.a m.st.length S.st.cap,.slice (some ⟨g,0,none⟩) m.ex.length S.ex.cap] 36)).alloc (.cells #[.int .i64 k,.int .i64 I,.string H,.string J,.int .i64 (z:Int),.int .i64 (j:Int)] 109)) p.d) p.os:=fun d L=>Calls.regrown_of (by rw[←N.out,←ae.out];exact HE.out z _ (by omega) (by omega) (HA.out.later (below_regrown _ d L)) ah)
 have cS: ∀d L,Calls Tryz.prog 155 #[.agg #[.slice S.rq.a m.rq.length S.rq.cap,.slice S.im.a m.im.length S.im.cap,.slice S.ep.a m.ep.length S.ep.cap,.slice S.st.a m.st.length S.st.cap,.slice (some ⟨g,0,none⟩) m.ex.length S.ex.cap],.int .i64 (j:Int)] (grow (redrawn ((w.alloc (.cells #[.slice S.rq.a m.rq.length S.rq.cap,.slice S.im.a m.im.length S.im.cap,.slice S.ep.a m.ep.length S.ep.cap,.slice S.st.a m.st.length S.st.cap,.slice (some ⟨g,0,none⟩) m.ex.length S.ex.cap] 36)).alloc (.cells #[.int .i64 k,.int .i64 I,.string H,.string J,.int .i64 (z:Int),.int .i64 (j:Int)] 109)) d) L) fun e M=>e= .returned (.bool (zP kr))∧∃p:Regrown,M=grow (redrawn ((w.alloc (.cells #[.slice S.rq.a m.rq.length S.rq.cap,.slice S.im.a m.im.length S.im.cap,.slice S.ep.a m.ep.length S.ep.cap,.slice S.st.a m.st.length S.st.cap,.slice (some ⟨g,0,none⟩) m.ex.length S.ex.cap] 36)).alloc (.cells #[.int .i64 k,.int .i64 I,.string H,.string J,.int .i64 (z:Int),.int .i64 (j:Int)] 109)) p.d) p.os:=fun d L=>Calls.regrown_of (by rw[←N.out,←V.out];exact zh5 A S m j _ (HA.out.later (below_regrown _ d L)) (by omega))
 have cR: ∀d L,Calls Tryz.prog 154 #[.agg #[.slice S.rq.a m.rq.length S.rq.cap,.slice S.im.a m.im.length S.im.cap,.slice S.ep.a m.ep.length S.ep.cap,.slice S.st.a m.st.length S.st.cap,.slice (some ⟨g,0,none⟩) m.ex.length S.ex.cap],.int .i64 (j:Int),.bool (zP kr)] (grow (redrawn ((w.alloc (.cells #[.slice S.rq.a m.rq.length S.rq.cap,.slice S.im.a m.im.length S.im.cap,.slice S.ep.a m.ep.length S.ep.cap,.slice S.st.a m.st.length S.st.cap,.slice (some ⟨g,0,none⟩) m.ex.length S.ex.cap] 36)).alloc (.cells #[.int .i64 k,.int .i64 I,.string H,.string J,.int .i64 (z:Int),.int .i64 (j:Int)] 109)) d) L) fun e M=>e= .returned (.string tr)∧∃p:Regrown,M=grow (redrawn ((w.alloc (.cells #[.slice S.rq.a m.rq.length S.rq.cap,.slice S.im.a m.im.length S.im.cap,.slice S.ep.a m.ep.length S.ep.cap,.slice S.st.a m.st.length S.st.cap,.slice (some ⟨g,0,none⟩) m.ex.length S.ex.cap] 36)).alloc (.cells #[.int .i64 k,.int .i64 I,.string H,.string J,.int .i64 (z:Int),.int .i64 (j:Int)] 109)) p.d) p.os:=fun d L=>Calls.regrown_of (by rw[←N.out,←ac.out,V.out];exact zgw A S m i j _ _ HE.out (by omega) (by omega) (HA.out.later (below_regrown _ d L)) ak)
 have X:Hid (Six ((w.alloc (.cells #[.slice S.rq.a m.rq.length S.rq.cap,.slice S.im.a m.im.length S.im.cap,.slice S.ep.a m.ep.length S.ep.cap,.slice S.st.a m.st.length S.st.cap,.slice (some ⟨g,0,none⟩) m.ex.length S.ex.cap] 36)).alloc (.cells #[.int .i64 k,.int .i64 I,.string H,.string J,.int .i64 (z:Int),.int .i64 (j:Int)] 109)) (w.heap.size+1) (.int .i64 k) (.int .i64 I) (.string H) (.string J) (.int .i64 (z:Int)) (.int .i64 (j:Int))):=zy (new2 w _ _)
 have Y:=zc (zg (zcA (o':=.cells #[.int .i64 k,.int .i64 I,.string H,.string J,.int .i64 (z:Int),.int .i64 (j:Int)] 109) (heap_alloc_new w (.cells #[.slice S.rq.a m.rq.length S.rq.cap,.slice S.im.a m.im.length S.im.cap,.slice S.ep.a m.ep.length S.ep.cap,.slice S.st.a m.st.length S.st.cap,.slice (some ⟨g,0,none⟩) m.ex.length S.ex.cap] 36))))
 have D0:Hid (((w.alloc (.cells #[.slice S.rq.a m.rq.length S.rq.cap,.slice S.im.a m.im.length S.im.cap,.slice S.ep.a m.ep.length S.ep.cap,.slice S.st.a m.st.length S.st.cap,.slice (some ⟨g,0,none⟩) m.ex.length S.ex.cap] 36)).alloc (.cells #[.int .i64 k,.int .i64 I,.string H,.string J,.int .i64 (z:Int),.int .i64 (j:Int)] 109)).cell? ⟨g,j*6,none⟩=some (.int .i64 kr)):=by show _=_;rw[World.cell?_alloc_past _ _ _ (by rw[zn];omega),World.cell?_alloc_past _ _ _ af];exact d0
 simp only[ByteArray.size_append] at ab
 have ai:tPlus.size=3:=rfl
 have am:tl.size≤1099511627776:=by omega
 have an:tr.size≤1099511627776:=by omega
 have HV:Hid ((prX m.ex z++tPlus++zG (zP (m.ex.getD j zj).kind) (prX m.ex j))=tl++tPlus++tr):=by show _=_;rw[ae.out,ac.out]
 unfold zh
 rw[O]
 clear O h HA HE N ae ac aa ad Z V hg2 he ab ai d0 eg
 go_enter Tryz.func117,Tryz.ntmps117
 go_wp2_with fail
 have x0:=cell_regrown X.out.c0
 have x4:=cell_regrown X.out.c4
 have x5:=cell_regrown X.out.c5
 have y0:=cell_regrown Y.out.1
 have y1:=cell_regrown Y.out.2.1
 have y2:=cell_regrown Y.out.2.2.1
 have y3:=cell_regrown Y.out.2.2.2.1
 have y4:=cell_regrown Y.out.2.2.2.2.1
 have e0:=cell_regrown D0.out
 refine wp_region_quiet_below (by kernel_rfl) (by kernel_rfl) ?_
 repeat (go_big_quiet_step (first|with_reducible exact cL _ _|with_reducible exact cS _ _|with_reducible exact cR _ _))
 refine wpQuiet_nil ?_
 intro w1 ag
 obtain⟨⟨dq,al⟩,U⟩:=ag
 have aj:Hid (Below w.heap.size w w1):=by show Below _ _ _;rw[U];exact (zba w _ _).trans ((below_regrown _ _ _).mono (by rw[zn,zn];omega))
 clear U
 go_wp2
 go_ret
 exact⟨za1 HV.out.symm,aj.out⟩
theorem zqt (A g:Nat) (S:Sv) (m:Md) (i z j:Nat) (k I:Int) (H J:ByteArray) (w:World) (O:S.ex.a=some ⟨g,0,none⟩) (h:OwnMd w A S m) (hi:i<m.ex.length) (af:g<w.heap.size) (c0:w.cell? ⟨g,i*6,none⟩=some (.int .i64 k)) (c1:w.cell? ⟨g,i*6+1,none⟩=some (.int .i64 I)) (c2:w.cell? ⟨g,i*6+2,none⟩=some (.string H)) (c3:w.cell? ⟨g,i*6+3,none⟩=some (.string J)) (c4:w.cell? ⟨g,i*6+4,none⟩=some (.int .i64 (z:Int))) (c5:w.cell? ⟨g,i*6+5,none⟩=some (.int .i64 (j:Int))) (k1:(k==1)=false) (k2:(k==2)=false) (k3:(k==3)=false) (k4:(k==4)=false) (k5:(k==5)=false) (k6:(k==6)=false) (k7:(k==7)=true) (ab:(prX m.ex z++tMinus++zG (zP (m.ex.getD j zj).kind) (prX m.ex j)).size≤1099511627776) (he:zeE A S m i) (hl:z<i) (hr:j<i) (ah:wt m.ex z≤1099511627776) (ak:wt m.ex j≤1099511627776):
  Calls Tryz.prog 117 #[zh S m,.int .i64 i] w fun e w'=>e= .returned (.string (prX m.ex z++tMinus++zG (zP (m.ex.getD j zj).kind) (prX m.ex j)))∧Below w.heap.size w w':=by
 have ao:(i:Int)<(m.ex.length:Int):=by omega
 have HA:Hid (OwnMd ((w.alloc (.cells #[.slice S.rq.a m.rq.length S.rq.cap,.slice S.im.a m.im.length S.im.cap,.slice S.ep.a m.ep.length S.ep.cap,.slice S.st.a m.st.length S.st.cap,.slice (some ⟨g,0,none⟩) m.ex.length S.ex.cap] 36)).alloc (.cells #[.int .i64 k,.int .i64 I,.string H,.string J,.int .i64 (z:Int),.int .i64 (j:Int)] 109)) A S m):=(h.alloc _).alloc _
 have HE:=zc he
 have N:Hid (zh S m= .agg #[.slice S.rq.a m.rq.length S.rq.cap,.slice S.im.a m.im.length S.im.cap,.slice S.ep.a m.ep.length S.ep.cap,.slice S.st.a m.st.length S.st.cap,.slice (some ⟨g,0,none⟩) m.ex.length S.ex.cap]):=by show _=_;rw[zh,O]
 have ap:(z:Int)<(m.ex.length:Int):=by omega
 have aq:(j:Int)<(m.ex.length:Int):=by omega
 obtain⟨g2,hg2,-,d0,-,-,-,-,-⟩:=h.expr (i:=j) (by omega)
 have eg:g2=g:=by have:=hg2.symm.trans O;simpa using this
 rw[eg] at d0
 obtain⟨kr,Z⟩: ∃kr,(m.ex.getD j zj).kind=kr:=⟨_,rfl⟩
 rw[Z] at d0
 have V:=zc Z
 obtain⟨tl,aa⟩: ∃tl,prX m.ex z=tl:=⟨_,rfl⟩
 obtain⟨tr,ad⟩: ∃tr,zG (zP (m.ex.getD j zj).kind) (prX m.ex j)=tr:=⟨_,rfl⟩
 rw[aa,ad] at ab
 have ae:=zc aa
 have ac:=zc ad
 have cL: ∀d L,Calls Tryz.prog 117 #[.agg #[.slice S.rq.a m.rq.length S.rq.cap,.slice S.im.a m.im.length S.im.cap,.slice S.ep.a m.ep.length S.ep.cap,.slice S.st.a m.st.length S.st.cap,.slice (some ⟨g,0,none⟩) m.ex.length S.ex.cap],.int .i64 (z:Int)] (grow (redrawn ((w.alloc (.cells #[.slice S.rq.a m.rq.length S.rq.cap,.slice S.im.a m.im.length S.im.cap,.slice S.ep.a m.ep.length S.ep.cap,.slice S.st.a m.st.length S.st.cap,.slice (some ⟨g,0,none⟩) m.ex.length S.ex.cap] 36)).alloc (.cells #[.int .i64 k,.int .i64 I,.string H,.string J,.int .i64 (z:Int),.int .i64 (j:Int)] 109)) d) L) fun e M=>e= .returned (.string tl)∧∃p:Regrown,M=grow (redrawn ((w.alloc (.cells #[.slice S.rq.a m.rq.length S.rq.cap,.slice S.im.a m.im.length S.im.cap,.slice S.ep.a m.ep.length S.ep.cap,.slice S.st.a m.st.length S.st.cap,.slice (some ⟨g,0,none⟩) m.ex.length S.ex.cap] 36)).alloc (.cells #[.int .i64 k,.int .i64 I,.string H,.string J,.int .i64 (z:Int),.int .i64 (j:Int)] 109)) p.d) p.os:=fun d L=>Calls.regrown_of (by rw[←N.out,←ae.out];exact HE.out z _ (by omega) (by omega) (HA.out.later (below_regrown _ d L)) ah)
 have cS: ∀d L,Calls Tryz.prog 155 #[.agg #[.slice S.rq.a m.rq.length S.rq.cap,.slice S.im.a m.im.length S.im.cap,.slice S.ep.a m.ep.length S.ep.cap,.slice S.st.a m.st.length S.st.cap,.slice (some ⟨g,0,none⟩) m.ex.length S.ex.cap],.int .i64 (j:Int)] (grow (redrawn ((w.alloc (.cells #[.slice S.rq.a m.rq.length S.rq.cap,.slice S.im.a m.im.length S.im.cap,.slice S.ep.a m.ep.length S.ep.cap,.slice S.st.a m.st.length S.st.cap,.slice (some ⟨g,0,none⟩) m.ex.length S.ex.cap] 36)).alloc (.cells #[.int .i64 k,.int .i64 I,.string H,.string J,.int .i64 (z:Int),.int .i64 (j:Int)] 109)) d) L) fun e M=>e= .returned (.bool (zP kr))∧∃p:Regrown,M=grow (redrawn ((w.alloc (.cells #[.slice S.rq.a m.rq.length S.rq.cap,.slice S.im.a m.im.length S.im.cap,.slice S.ep.a m.ep.length S.ep.cap,.slice S.st.a m.st.length S.st.cap,.slice (some ⟨g,0,none⟩) m.ex.length S.ex.cap] 36)).alloc (.cells #[.int .i64 k,.int .i64 I,.string H,.string J,.int .i64 (z:Int),.int .i64 (j:Int)] 109)) p.d) p.os:=fun d L=>Calls.regrown_of (by rw[←N.out,←V.out];exact zh5 A S m j _ (HA.out.later (below_regrown _ d L)) (by omega))
 have cR: ∀d L,Calls Tryz.prog 154 #[.agg #[.slice S.rq.a m.rq.length S.rq.cap,.slice S.im.a m.im.length S.im.cap,.slice S.ep.a m.ep.length S.ep.cap,.slice S.st.a m.st.length S.st.cap,.slice (some ⟨g,0,none⟩) m.ex.length S.ex.cap],.int .i64 (j:Int),.bool (zP kr)] (grow (redrawn ((w.alloc (.cells #[.slice S.rq.a m.rq.length S.rq.cap,.slice S.im.a m.im.length S.im.cap,.slice S.ep.a m.ep.length S.ep.cap,.slice S.st.a m.st.length S.st.cap,.slice (some ⟨g,0,none⟩) m.ex.length S.ex.cap] 36)).alloc (.cells #[.int .i64 k,.int .i64 I,.string H,.string J,.int .i64 (z:Int),.int .i64 (j:Int)] 109)) d) L) fun e M=>e= .returned (.string tr)∧∃p:Regrown,M=grow (redrawn ((w.alloc (.cells #[.slice S.rq.a m.rq.length S.rq.cap,.slice S.im.a m.im.length S.im.cap,.slice S.ep.a m.ep.length S.ep.cap,.slice S.st.a m.st.length S.st.cap,.slice (some ⟨g,0,none⟩) m.ex.length S.ex.cap] 36)).alloc (.cells #[.int .i64 k,.int .i64 I,.string H,.string J,.int .i64 (z:Int),.int .i64 (j:Int)] 109)) p.d) p.os:=fun d L=>Calls.regrown_of (by rw[←N.out,←ac.out,V.out];exact zgw A S m i j _ _ HE.out (by omega) (by omega) (HA.out.later (below_regrown _ d L)) ak)
 have X:Hid (Six ((w.alloc (.cells #[.slice S.rq.a m.rq.length S.rq.cap,.slice S.im.a m.im.length S.im.cap,.slice S.ep.a m.ep.length S.ep.cap,.slice S.st.a m.st.length S.st.cap,.slice (some ⟨g,0,none⟩) m.ex.length S.ex.cap] 36)).alloc (.cells #[.int .i64 k,.int .i64 I,.string H,.string J,.int .i64 (z:Int),.int .i64 (j:Int)] 109)) (w.heap.size+1) (.int .i64 k) (.int .i64 I) (.string H) (.string J) (.int .i64 (z:Int)) (.int .i64 (j:Int))):=zy (new2 w _ _)
 have Y:=zc (zg (zcA (o':=.cells #[.int .i64 k,.int .i64 I,.string H,.string J,.int .i64 (z:Int),.int .i64 (j:Int)] 109) (heap_alloc_new w (.cells #[.slice S.rq.a m.rq.length S.rq.cap,.slice S.im.a m.im.length S.im.cap,.slice S.ep.a m.ep.length S.ep.cap,.slice S.st.a m.st.length S.st.cap,.slice (some ⟨g,0,none⟩) m.ex.length S.ex.cap] 36))))
 have D0:Hid (((w.alloc (.cells #[.slice S.rq.a m.rq.length S.rq.cap,.slice S.im.a m.im.length S.im.cap,.slice S.ep.a m.ep.length S.ep.cap,.slice S.st.a m.st.length S.st.cap,.slice (some ⟨g,0,none⟩) m.ex.length S.ex.cap] 36)).alloc (.cells #[.int .i64 k,.int .i64 I,.string H,.string J,.int .i64 (z:Int),.int .i64 (j:Int)] 109)).cell? ⟨g,j*6,none⟩=some (.int .i64 kr)):=by show _=_;rw[World.cell?_alloc_past _ _ _ (by rw[zn];omega),World.cell?_alloc_past _ _ _ af];exact d0
 simp only[ByteArray.size_append] at ab
 have ai:tMinus.size=3:=rfl
 have am:tl.size≤1099511627776:=by omega
 have an:tr.size≤1099511627776:=by omega
 have HV:Hid ((prX m.ex z++tMinus++zG (zP (m.ex.getD j zj).kind) (prX m.ex j))=tl++tMinus++tr):=by show _=_;rw[ae.out,ac.out]
 unfold zh
 rw[O]
 clear O h HA HE N ae ac aa ad Z V hg2 he ab ai d0 eg
 go_enter Tryz.func117,Tryz.ntmps117
 go_wp2_with fail
 have x0:=cell_regrown X.out.c0
 have x4:=cell_regrown X.out.c4
 have x5:=cell_regrown X.out.c5
 have y0:=cell_regrown Y.out.1
 have y1:=cell_regrown Y.out.2.1
 have y2:=cell_regrown Y.out.2.2.1
 have y3:=cell_regrown Y.out.2.2.2.1
 have y4:=cell_regrown Y.out.2.2.2.2.1
 have e0:=cell_regrown D0.out
 refine wp_region_quiet_below (by kernel_rfl) (by kernel_rfl) ?_
 repeat (go_big_quiet_step (first|with_reducible exact cL _ _|with_reducible exact cS _ _|with_reducible exact cR _ _))
 refine wpQuiet_nil ?_
 intro w1 ag
 obtain⟨⟨dq,al⟩,U⟩:=ag
 have aj:Hid (Below w.heap.size w w1):=by show Below _ _ _;rw[U];exact (zba w _ _).trans ((below_regrown _ _ _).mono (by rw[zn,zn];omega))
 clear U
 go_wp2
 go_ret
 exact⟨za1 HV.out.symm,aj.out⟩
theorem zqu (A g:Nat) (S:Sv) (m:Md) (i z j:Nat) (k L:Int) (I M:ByteArray) (w:World) (O:S.ex.a=some ⟨g,0,none⟩) (h:OwnMd w A S m) (hi:i<m.ex.length) (ag:g<w.heap.size) (c0:w.cell? ⟨g,i*6,none⟩=some (.int .i64 k)) (c1:w.cell? ⟨g,i*6+1,none⟩=some (.int .i64 L)) (c2:w.cell? ⟨g,i*6+2,none⟩=some (.string I)) (c3:w.cell? ⟨g,i*6+3,none⟩=some (.string M)) (c4:w.cell? ⟨g,i*6+4,none⟩=some (.int .i64 (z:Int))) (c5:w.cell? ⟨g,i*6+5,none⟩=some (.int .i64 (j:Int))) (k1:(k==1)=false) (k2:(k==2)=false) (k3:(k==3)=false) (k4:(k==4)=false) (k5:(k==5)=false) (k6:(k==6)=false) (k7:(k==7)=false) (k8:(k==8)=true) (ab:(zG (zP (m.ex.getD z zj).kind) (prX m.ex z)++tStar++zG (zaa (m.ex.getD j zj).kind) (prX m.ex j)).size≤1099511627776) (he:zeE A S m i) (hl:z<i) (hr:j<i) (ai:wt m.ex z≤1099511627776) (al:wt m.ex j≤1099511627776):
  Calls Tryz.prog 117 #[zh S m,.int .i64 i] w fun e w'=>e= .returned (.string (zG (zP (m.ex.getD z zj).kind) (prX m.ex z)++tStar++zG (zaa (m.ex.getD j zj).kind) (prX m.ex j)))∧Below w.heap.size w w':=by
 have ap:(i:Int)<(m.ex.length:Int):=by omega
 have HA:Hid (OwnMd ((w.alloc (.cells #[.slice S.rq.a m.rq.length S.rq.cap,.slice S.im.a m.im.length S.im.cap,.slice S.ep.a m.ep.length S.ep.cap,.slice S.st.a m.st.length S.st.cap,.slice (some ⟨g,0,none⟩) m.ex.length S.ex.cap] 36)).alloc (.cells #[.int .i64 k,.int .i64 L,.string I,.string M,.int .i64 (z:Int),.int .i64 (j:Int)] 109)) A S m):=(h.alloc _).alloc _
 have HE:=zc he
 have N:Hid (zh S m= .agg #[.slice S.rq.a m.rq.length S.rq.cap,.slice S.im.a m.im.length S.im.cap,.slice S.ep.a m.ep.length S.ep.cap,.slice S.st.a m.st.length S.st.cap,.slice (some ⟨g,0,none⟩) m.ex.length S.ex.cap]):=by show _=_;rw[zh,O]
 have aq:(z:Int)<(m.ex.length:Int):=by omega
 have ar:(j:Int)<(m.ex.length:Int):=by omega
 obtain⟨g2,hg2,-,d0,-,-,-,-,-⟩:=h.expr (i:=j) (by omega)
 have eg:g2=g:=by have:=hg2.symm.trans O;simpa using this
 rw[eg] at d0
 obtain⟨kr,Z⟩: ∃kr,(m.ex.getD j zj).kind=kr:=⟨_,rfl⟩
 rw[Z] at d0
 have af:=zc Z
 obtain⟨tl,aa⟩: ∃tl,zG (zP (m.ex.getD z zj).kind) (prX m.ex z)=tl:=⟨_,rfl⟩
 obtain⟨tr,ad⟩: ∃tr,zG (zaa (m.ex.getD j zj).kind) (prX m.ex j)=tr:=⟨_,rfl⟩
 rw[aa,ad] at ab
 have ae:=zc aa
 have ac:=zc ad
 obtain⟨kl,V⟩: ∃kl,(m.ex.getD z zj).kind=kl:=⟨_,rfl⟩
 have cK: ∀d J,Calls Tryz.prog 155 #[.agg #[.slice S.rq.a m.rq.length S.rq.cap,.slice S.im.a m.im.length S.im.cap,.slice S.ep.a m.ep.length S.ep.cap,.slice S.st.a m.st.length S.st.cap,.slice (some ⟨g,0,none⟩) m.ex.length S.ex.cap],.int .i64 (z:Int)] (grow (redrawn ((w.alloc (.cells #[.slice S.rq.a m.rq.length S.rq.cap,.slice S.im.a m.im.length S.im.cap,.slice S.ep.a m.ep.length S.ep.cap,.slice S.st.a m.st.length S.st.cap,.slice (some ⟨g,0,none⟩) m.ex.length S.ex.cap] 36)).alloc (.cells #[.int .i64 k,.int .i64 L,.string I,.string M,.int .i64 (z:Int),.int .i64 (j:Int)] 109)) d) J) fun e H=>e= .returned (.bool (zP kl))∧∃p:Regrown,H=grow (redrawn ((w.alloc (.cells #[.slice S.rq.a m.rq.length S.rq.cap,.slice S.im.a m.im.length S.im.cap,.slice S.ep.a m.ep.length S.ep.cap,.slice S.st.a m.st.length S.st.cap,.slice (some ⟨g,0,none⟩) m.ex.length S.ex.cap] 36)).alloc (.cells #[.int .i64 k,.int .i64 L,.string I,.string M,.int .i64 (z:Int),.int .i64 (j:Int)] 109)) p.d) p.os:=fun d J=>Calls.regrown_of (by rw[←N.out,←V];exact zh5 A S m z _ (HA.out.later (below_regrown _ d J)) (by omega))
 have cL: ∀d J,Calls Tryz.prog 154 #[.agg #[.slice S.rq.a m.rq.length S.rq.cap,.slice S.im.a m.im.length S.im.cap,.slice S.ep.a m.ep.length S.ep.cap,.slice S.st.a m.st.length S.st.cap,.slice (some ⟨g,0,none⟩) m.ex.length S.ex.cap],.int .i64 (z:Int),.bool (zP kl)] (grow (redrawn ((w.alloc (.cells #[.slice S.rq.a m.rq.length S.rq.cap,.slice S.im.a m.im.length S.im.cap,.slice S.ep.a m.ep.length S.ep.cap,.slice S.st.a m.st.length S.st.cap,.slice (some ⟨g,0,none⟩) m.ex.length S.ex.cap] 36)).alloc (.cells #[.int .i64 k,.int .i64 L,.string I,.string M,.int .i64 (z:Int),.int .i64 (j:Int)] 109)) d) J) fun e H=>e= .returned (.string tl)∧∃p:Regrown,H=grow (redrawn ((w.alloc (.cells #[.slice S.rq.a m.rq.length S.rq.cap,.slice S.im.a m.im.length S.im.cap,.slice S.ep.a m.ep.length S.ep.cap,.slice S.st.a m.st.length S.st.cap,.slice (some ⟨g,0,none⟩) m.ex.length S.ex.cap] 36)).alloc (.cells #[.int .i64 k,.int .i64 L,.string I,.string M,.int .i64 (z:Int),.int .i64 (j:Int)] 109)) p.d) p.os:=fun d J=>Calls.regrown_of (by rw[←N.out,←ae.out,V];exact zgw A S m i z _ _ HE.out (by omega) (by omega) (HA.out.later (below_regrown _ d J)) ai)
 have cS: ∀d J,Calls Tryz.prog 115 #[.int .i64 kr] (grow (redrawn ((w.alloc (.cells #[.slice S.rq.a m.rq.length S.rq.cap,.slice S.im.a m.im.length S.im.cap,.slice S.ep.a m.ep.length S.ep.cap,.slice S.st.a m.st.length S.st.cap,.slice (some ⟨g,0,none⟩) m.ex.length S.ex.cap] 36)).alloc (.cells #[.int .i64 k,.int .i64 L,.string I,.string M,.int .i64 (z:Int),.int .i64 (j:Int)] 109)) d) J) fun e H=>e= .returned (.bool (zaa kr))∧∃p:Regrown,H=grow (redrawn ((w.alloc (.cells #[.slice S.rq.a m.rq.length S.rq.cap,.slice S.im.a m.im.length S.im.cap,.slice S.ep.a m.ep.length S.ep.cap,.slice S.st.a m.st.length S.st.cap,.slice (some ⟨g,0,none⟩) m.ex.length S.ex.cap] 36)).alloc (.cells #[.int .i64 k,.int .i64 L,.string I,.string M,.int .i64 (z:Int),.int .i64 (j:Int)] 109)) p.d) p.os:=fun d J=>Calls.regrown_of ((zjU kr _).mono (by rintro e w' ⟨rfl,rfl⟩;exact⟨rfl,Below.refl _ _⟩))
 have cR: ∀d J,Calls Tryz.prog 154 #[.agg #[.slice S.rq.a m.rq.length S.rq.cap,.slice S.im.a m.im.length S.im.cap,.slice S.ep.a m.ep.length S.ep.cap,.slice S.st.a m.st.length S.st.cap,.slice (some ⟨g,0,none⟩) m.ex.length S.ex.cap],.int .i64 (j:Int),.bool (zaa kr)] (grow (redrawn ((w.alloc (.cells #[.slice S.rq.a m.rq.length S.rq.cap,.slice S.im.a m.im.length S.im.cap,.slice S.ep.a m.ep.length S.ep.cap,.slice S.st.a m.st.length S.st.cap,.slice (some ⟨g,0,none⟩) m.ex.length S.ex.cap] 36)).alloc (.cells #[.int .i64 k,.int .i64 L,.string I,.string M,.int .i64 (z:Int),.int .i64 (j:Int)] 109)) d) J) fun e H=>e= .returned (.string tr)∧∃p:Regrown,H=grow (redrawn ((w.alloc (.cells #[.slice S.rq.a m.rq.length S.rq.cap,.slice S.im.a m.im.length S.im.cap,.slice S.ep.a m.ep.length S.ep.cap,.slice S.st.a m.st.length S.st.cap,.slice (some ⟨g,0,none⟩) m.ex.length S.ex.cap] 36)).alloc (.cells #[.int .i64 k,.int .i64 L,.string I,.string M,.int .i64 (z:Int),.int .i64 (j:Int)] 109)) p.d) p.os:=fun d J=>Calls.regrown_of (by rw[←N.out,←ac.out,af.out];exact zgw A S m i j _ _ HE.out (by omega) (by omega) (HA.out.later (below_regrown _ d J)) al)
 have X:Hid (Six ((w.alloc (.cells #[.slice S.rq.a m.rq.length S.rq.cap,.slice S.im.a m.im.length S.im.cap,.slice S.ep.a m.ep.length S.ep.cap,.slice S.st.a m.st.length S.st.cap,.slice (some ⟨g,0,none⟩) m.ex.length S.ex.cap] 36)).alloc (.cells #[.int .i64 k,.int .i64 L,.string I,.string M,.int .i64 (z:Int),.int .i64 (j:Int)] 109)) (w.heap.size+1) (.int .i64 k) (.int .i64 L) (.string I) (.string M) (.int .i64 (z:Int)) (.int .i64 (j:Int))):=zy (new2 w _ _)
 have Y:=zc (zg (zcA (o':=.cells #[.int .i64 k,.int .i64 L,.string I,.string M,.int .i64 (z:Int),.int .i64 (j:Int)] 109) (heap_alloc_new w (.cells #[.slice S.rq.a m.rq.length S.rq.cap,.slice S.im.a m.im.length S.im.cap,.slice S.ep.a m.ep.length S.ep.cap,.slice S.st.a m.st.length S.st.cap,.slice (some ⟨g,0,none⟩) m.ex.length S.ex.cap] 36))))
 have D0:Hid (((w.alloc (.cells #[.slice S.rq.a m.rq.length S.rq.cap,.slice S.im.a m.im.length S.im.cap,.slice S.ep.a m.ep.length S.ep.cap,.slice S.st.a m.st.length S.st.cap,.slice (some ⟨g,0,none⟩) m.ex.length S.ex.cap] 36)).alloc (.cells #[.int .i64 k,.int .i64 L,.string I,.string M,.int .i64 (z:Int),.int .i64 (j:Int)] 109)).cell? ⟨g,j*6,none⟩=some (.int .i64 kr)):=by show _=_;rw[World.cell?_alloc_past _ _ _ (by rw[zn];omega),World.cell?_alloc_past _ _ _ ag];exact d0
 simp only[ByteArray.size_append] at ab
 have aj:tStar.size=3:=rfl
 have an:tl.size≤1099511627776:=by omega
 have ao:tr.size≤1099511627776:=by omega
 have HV:Hid ((zG (zP (m.ex.getD z zj).kind) (prX m.ex z)++tStar++zG (zaa (m.ex.getD j zj).kind) (prX m.ex j))=tl++tStar++tr):=by show _=_;rw[ae.out,ac.out]
 unfold zh
 rw[O]
 clear O h HA HE N ae ac aa ad Z af hg2 he ab aj d0 eg V
 go_enter Tryz.func117,Tryz.ntmps117
 go_wp2_with fail
 have x0:=cell_regrown X.out.c0
 have x4:=cell_regrown X.out.c4
 have x5:=cell_regrown X.out.c5
 have y0:=cell_regrown Y.out.1
 have y1:=cell_regrown Y.out.2.1
 have y2:=cell_regrown Y.out.2.2.1
 have y3:=cell_regrown Y.out.2.2.2.1
 have y4:=cell_regrown Y.out.2.2.2.2.1
 have e0:=cell_regrown D0.out
 refine wp_region_quiet_below (by kernel_rfl) (by kernel_rfl) ?_
 repeat (go_big_quiet_step (first|with_reducible exact cL _ _|with_reducible exact cS _ _|with_reducible exact cR _ _|with_reducible exact cK _ _))
 refine wpQuiet_nil ?_
 intro w1 ah
 obtain⟨⟨dq,am⟩,U⟩:=ah
 have ak:Hid (Below w.heap.size w w1):=by show Below _ _ _;rw[U];exact (zba w _ _).trans ((below_regrown _ _ _).mono (by rw[zn,zn];omega))
 clear U
 go_wp2
 go_ret
 exact⟨za1 HV.out.symm,ak.out⟩
theorem zgx (b:Bool) (t:ByteArray):t.size≤(zG b t).size:=by
 unfold zG
 split
 ·rw[ByteArray.size_append,ByteArray.size_append]
  omega
 ·exact Nat.le_refl _
theorem zqv (H:Nat) (S:Sv) (m:Md) (hn:zaR m.ex) (ha:zb2 m.ex) (n:Nat):zeE H S m n:=by
 induction n with
 |zero=>intro i w I;omega
 |succ n ih=>
  intro i w ad I h j
  by_cases ab:i<n
  ·exact ih i w ab I h j
  ·have he:zeE H S m i:=by
    have:i=n:=by omega
    rw[this]
    exact ih
   obtain⟨g,A,z,Z,O,V,X,U,Y⟩:=h.expr I
   have ac:=hn (m.ex.getD i zj) (by rw[zdM I];exact List.getElem_mem I)
   have aa:=zfF ha (i:=i)
   unfold wt at j
   rw[zgT ha] at j ⊢
   generalize m.ex.getD i zj=x at*
   by_cases J:(x.kind==1)=true
   ·rw[if_pos J]
    exact zqm g S m i _ _ _ _ _ _ w A I z Z O V X U Y J ac
   rw[if_neg J] at j ⊢
   by_cases M:(x.kind==2)=true
   ·rw[if_pos M]
    exact zqn g S m i _ _ _ _ _ _ w A I z Z O V X U Y (by simpa using J) M
   rw[if_neg M] at j ⊢
   by_cases N:(x.kind==3)=true
   ·rw[if_pos N] at j ⊢
    exact zqo g S m i _ _ _ _ _ _ w A I z Z O V X U Y (by simpa using J) (by simpa using M) N j
   rw[if_neg N] at j ⊢
   by_cases k4:(x.kind==4)=true
   ·rw[if_pos k4] at j ⊢
    exact zqp g S m i _ _ _ _ _ _ w A I z Z O V X U Y (by simpa using J) (by simpa using M) (by simpa using N) k4 j
   rw[if_neg k4] at j ⊢
   by_cases k5:(x.kind==5)=true
   ·rw[if_pos k5] at j ⊢
    exact zqq g S m i _ _ _ _ _ _ w A I z Z O V X U Y (by simpa using J) (by simpa using M) (by simpa using N) (by simpa using k4) k5 j
   rw[if_neg k5] at j ⊢
   by_cases k6:(x.kind==6)=true
   ·rw[if_pos k6] at j ⊢
    obtain⟨h1,h2,h3,h4⟩:=aa (zbF (.inl k6))
    have L:=j
    rw[ByteArray.size_append,ByteArray.size_append] at L
    have s2:=zgx (zP (m.ex.getD x.r.toNat zj).kind) (prX m.ex x.r.toNat)
    exact zqs H g S m i x.l.toNat x.r.toNat _ _ _ _ w A h I z Z O V X (by rw[U,Int.toNat_of_nonneg h1]) (by rw[Y,Int.toNat_of_nonneg h3]) (by simpa using J) (by simpa using M) (by simpa using N) (by simpa using k4) (by simpa using k5) k6 j he (by omega) (by omega) (by unfold wt;omega) (by unfold wt;omega)
   rw[if_neg k6] at j ⊢
   by_cases k7:(x.kind==7)=true
   ·rw[if_pos k7] at j ⊢
    obtain⟨h1,h2,h3,h4⟩:=aa (zbF (.inr (.inl k7)))
    have L:=j
    rw[ByteArray.size_append,ByteArray.size_append] at L
    have s2:=zgx (zP (m.ex.getD x.r.toNat zj).kind) (prX m.ex x.r.toNat)
    exact zqt H g S m i x.l.toNat x.r.toNat _ _ _ _ w A h I z Z O V X (by rw[U,Int.toNat_of_nonneg h1]) (by rw[Y,Int.toNat_of_nonneg h3]) (by simpa using J) (by simpa using M) (by simpa using N) (by simpa using k4) (by simpa using k5) (by simpa using k6) k7 j he (by omega) (by omega) (by unfold wt;omega) (by unfold wt;omega)
   rw[if_neg k7] at j ⊢
   by_cases k8:(x.kind==8)=true
   ·rw[if_pos k8] at j ⊢
    obtain⟨h1,h2,h3,h4⟩:=aa (zbF (.inr (.inr k8)))
    have L:=j
    rw[ByteArray.size_append,ByteArray.size_append] at L
    have s1:=zgx (zP (m.ex.getD x.l.toNat zj).kind) (prX m.ex x.l.toNat)
    have s2:=zgx (zaa (m.ex.getD x.r.toNat zj).kind) (prX m.ex x.r.toNat)
    exact zqu H g S m i x.l.toNat x.r.toNat _ _ _ _ w A h I z Z O V X (by rw[U,Int.toNat_of_nonneg h1]) (by rw[Y,Int.toNat_of_nonneg h3]) (by simpa using J) (by simpa using M) (by simpa using N) (by simpa using k4) (by simpa using k5) (by simpa using k6) (by simpa using k7) k8 j he (by omega) (by omega) (by unfold wt;omega) (by unfold wt;omega)
   rw[if_neg k8] at j ⊢
   exact zqr g S m i _ _ _ _ _ _ w A I z Z O V X U Y (by simpa using J) (by simpa using M) (by simpa using N) (by simpa using k4) (by simpa using k5) (by simpa using k6) (by simpa using k7) (by simpa using k8)
theorem zee (j:Nat) (S:Sv) (m:Md) (i:Nat) (w:World) (I:zaR m.ex) (A:zb2 m.ex) (H:i<m.ex.length) (h:OwnMd w j S m) (z:wt m.ex i≤1099511627776):
  Calls Tryz.prog 117 #[zh S m,.int .i64 i] w fun e w'=>e= .returned (.string (prX m.ex i))∧Below w.heap.size w w':=zqv j S m I A (i+1) i w (Nat.lt_succ_self i) H h z
def zbe (e:Ep):Im:=⟨sNone,e.loc,e.name⟩
def zb9 (C:Cx) (exp:Bool) (q:PS):Except Nat (PS×Ep):=bd (zo C true q) fun a=>bd (asP C exp a) fun b=>.ok (b.1,⟨0,b.2,a.2,sNone⟩)
theorem zjV (C:Cx) (h:Bool) (q:PS) (acc:List Ep):za5 C h q acc=bd (zb9 C h q) fun x=>
  if isT C x.1.pos 4 zbD then za5 C h (adv x.1) (acc++[x.2]) else bd (ze C 4 zbz x.1) fun q'=>.ok (q',acc++[x.2]):=by
 rw[zfI,zb9,zO]
 refine zag fun a _=>?_
 rw[zO]
 rfl
theorem zqw {C:Cx} {q:PS} {a:PS×ByteArray} (j:zo C true q= .ok a) (h:isT C a.1.pos 1 sAs=true):zb9 C false q=bd (zo C false (adv a.1)) fun b=>.ok (b.1,⟨0,b.2,a.2,sNone⟩):=by
 rw[zb9,j,zB,asP,if_pos h]
theorem zqx {C:Cx} {q:PS} {a:PS×ByteArray} (w:zo C true q= .ok a) (h:isT C a.1.pos 1 sAs=false) (j:(a.2.toList==[100,101,102,97,117,108,116])=true):zb9 C false q= .error (zu C a.1.pos):=by
 rw[zb9,w,zB,asP,if_neg (by rw[h];decide),if_pos (by rw[j];rfl)]
 rfl
theorem zqy {C:Cx} {q:PS} {a:PS×ByteArray} (w:zo C true q= .ok a) (h:isT C a.1.pos 1 sAs=false) (j:(a.2.toList==[100,101,102,97,117,108,116])=false):zb9 C false q= .ok (a.1,⟨0,a.2,a.2,sNone⟩):=by
 rw[zb9,w,zB,asP,if_neg (by rw[h];decide),if_neg (by rw[j];decide)]
 rfl
theorem zbK {w:World} {b:Nat} {t:TypeId} {v0 v1 v2:Value} (h:w.heap[b]? =some (.cells #[v0,v1,v2] t (0,0))):
  w.cell? ⟨b,0,none⟩=some v0∧w.cell? ⟨b,1,none⟩=some v1∧w.cell? ⟨b,2,none⟩=some v2∧∀i,w.frozen? ⟨b,i,none⟩=false:=by
 refine⟨?_,?_,?_,fun i=>?_⟩<;>simp[World.cell?,World.frozen?,h]
theorem put3 {w:World} {b:Nat} {v0 v1 v2 x0 x1 x2:Value} {t:TypeId} (h:w.heap[b]? =some (.cells #[v0,v1,v2] t (0,0))):
  (((w.setCell ⟨b,0,none⟩ x0).setCell ⟨b,1,none⟩ x1).setCell ⟨b,2,none⟩ x2).heap[b]? =some (.cells #[x0,x1,x2] t (0,0)):=by
 have e:=zam (i:=2) (u:=x2) (zam (i:=1) (u:=x1) (zam (i:=0) (u:=x0) h))
 rw[e]
 simp
theorem zqz (C:Cx) (N A j L:Nat) (S:Sv) (q:PS) (w:World) (h:IM C N A j L S q w):
  Calls Tryz.prog 227 #[.pointer (some ⟨L,0,none⟩)] w (zR C N A j L (zb9 C false q) (·.1) (fun a=>imV (zbe a.2)) S w):=by
 have J:w.heap.size≠L:=by have:=h.lt;omega
 have I:w.heap.size≠N:=by have:=(zau h.mem.tok).1;omega
 go_enter Tryz.func227,Tryz.ntmps227
 go_wp2_with fail
 refine (zfc C N A j L S q _ (h.alloc _)).mono ?_
 cases M:zo C true q with
 |error p=>
  rintro e w1 ⟨rfl,hb⟩
  have HB:Below j w w1:=(h.back ((IS.refl _ _ _).alloc _)).trans hb
  have Z:Hid (zb9 C false q= .error p):=by show _=_;rw[zb9,M];rfl
  unfold Pan
  go_wp2
  refine⟨rfl,?_⟩
  rw[Z.out]
  exact⟨rfl,HB⟩
 |ok a=>
  rintro e w1 ⟨rfl,X,V,U⟩
  cases hi:isT C a.1.pos 1 sAs with
  |true=>
   have HY:=zc (zqw M hi)
   go_wp2_with fail
   refine (zN C N A j L X a.1 1 sAs _ V (by decide)).mono ?_
   rintro e w2 ⟨rfl,z,s⟩
   rw[hi] at z ⊢
   have H:=U.trans s
   clear s
   go_wp2_with fail
   refine (zdz C N A j L X (adv a.1) _ z).mono ?_
   cases aa:zo C false (adv a.1) with
   |error p=>
    rintro e w3 ⟨rfl,hb⟩
    have HB:=(h.back H.from).trans hb
    have Z:Hid (zb9 C false q= .error p):=bdE HY.out aa
    unfold Pan
    go_wp2
    refine⟨rfl,?_⟩
    rw[Z.out]
    exact⟨rfl,HB⟩
   |ok c=>
    rintro e w3 ⟨rfl,S3,ab,s⟩
    have Y:=H.trans s
    clear s
    have Z:=zc (bdO HY.out aa)
    have HG:Hid (w3.heap[w.heap.size]? =some (.cells #[.string sNone,.string sNone,.string sNone] 84 (0,0))):=IS.kept h Y rfl
    have O:Hid (¬S3.has w.heap.size):=IS.free h Y
    obtain⟨b0,b1,b2,bf⟩:=zbK HG.out
    go_wp2
    refine bodyPost_ret (results_cell_row rfl _ _ w.heap.size 84 _ (0,0) _ rfl (put3 HG.out) Tryz.underlying84 rfl (by kernel_rfl)) rfl ?_
    rw[Z.out]
    exact⟨rfl,S3,((ab.set J I O.out _ _).set J I O.out _ _).set J I O.out _ _,((Y.from.new (Nat.le_refl _) _ _).new (Nat.le_refl _) _ _).new (Nat.le_refl _) _ _⟩
  |false=>
   cases hd:(a.2.toList==[100,101,102,97,117,108,116]) with
   |true=>
    have HY:=zc (zqx M hi hd)
    go_wp2_with fail
    refine (zN C N A j L X a.1 1 sAs _ V (by decide)).mono ?_
    rintro e w2 ⟨rfl,z,s⟩
    rw[hi] at z ⊢
    have H:=U.trans s
    clear s
    go_wp2_with fail
    refine (zez C N A j L X a.1 _ z).mono ?_
    rintro e w3 ⟨rfl,hb⟩
    have HB:=(h.back H.from).trans (hb.mono z.mem.base)
    unfold Pan
    go_wp2
    refine⟨rfl,?_⟩
    rw[HY.out]
    exact⟨rfl,HB⟩
   |false=>
    have Z:=zc (zqy M hi hd)
    go_wp2_with fail
    refine (zN C N A j L X a.1 1 sAs _ V (by decide)).mono ?_
    rintro e w2 ⟨rfl,z,s⟩
    rw[hi] at z ⊢
    have H:=U.trans s
    clear s
    have HG:Hid (w2.heap[w.heap.size]? =some (.cells #[.string sNone,.string sNone,.string sNone] 84 (0,0))):=IS.kept h H rfl
    have O:Hid (¬X.has w.heap.size):=IS.free h H
    obtain⟨b0,b1,b2,bf⟩:=zbK HG.out
    go_wp2
    refine bodyPost_ret (results_cell_row rfl _ _ w.heap.size 84 _ (0,0) _ rfl (put3 HG.out) Tryz.underlying84 rfl (by kernel_rfl)) rfl ?_
    rw[Z.out]
    exact⟨rfl,X,((z.set J I O.out _ _).set J I O.out _ _).set J I O.out _ _,((H.from.new (Nat.le_refl _) _ _).new (Nat.le_refl _) _ _).new (Nat.le_refl _) _ _⟩
theorem zh6 (a b:ByteArray) (w:World) (z:a.size≤1099511627776) (A:b.size≤1099511627776):Calls Tryz.prog 116 #[.string a,.string b] w fun e w'=>e= .returned (.string (asT a b))∧w'=w:=by
 cases h:(a.toList==b.toList) with
 |true=>
  have j:Hid (asT a b=a):=by show _=_;rw[asT,h];rfl
  go_enter Tryz.func116,Tryz.ntmps116
  go_wp2
  go_ret
  exact⟨za1 j.out.symm,rfl⟩
 |false=>
  have j:Hid (asT a b=a++({data:=#[32,97,115,32]}:ByteArray)++b):=by show _=_;rw[asT,h];rfl
  go_enter Tryz.func116,Tryz.ntmps116
  go_wp2
  go_ret
  exact⟨za1 j.out.symm,rfl⟩
theorem zgy (s:ByteArray) (w:World) (j:s.size≤1099511627776):Calls Tryz.prog 81 #[.string s] w fun e w'=>e= .returned (.string (za0 s))∧w'=w:=by
 have h:Hid (za0 s=({data:=#[34]}:ByteArray)++s++({data:=#[34]}:ByteArray)):=rfl
 go_enter Tryz.func81,Tryz.ntmps81
 go_wp2
 go_ret
 exact⟨za1 h.out.symm,rfl⟩
theorem zh7 (s:ByteArray):(za0 s).size=s.size+2:=by
 rw[za0,ByteArray.size_append,ByteArray.size_append]
 show 1+s.size+1=_
 omega
theorem zjW (a b:ByteArray):(asT a b).size≤a.size+b.size+4:=by
 unfold asT
 split
 ·omega
 ·rw[ByteArray.size_append,ByteArray.size_append]
  show a.size+4+b.size≤_
  omega
theorem zq0 (x:Im) (w:World) (h1:x.spec.size≤4294967296) (h2:x.first.size≤4294967296) (h3:x.loc.size≤4294967296):Calls Tryz.prog 82 #[imV x] w fun e w'=>e= .returned (.string (zad x))∧Below w.heap.size w w':=by
 obtain⟨qt,A⟩: ∃t,za0 x.spec=t:=⟨_,rfl⟩
 obtain⟨at',hat⟩: ∃t,asT x.first x.loc=t:=⟨_,rfl⟩
 have hq:=zh7 x.spec
 have ha:=zjW x.first x.loc
 rw[A] at hq
 rw[hat] at ha
 have ab:qt.size≤8589934592:=by omega
 have aa:at'.size≤17179869184:=by omega
 have U:=zc A
 have AT:=zc hat
 have O: ∀d L,Calls Tryz.prog 81 #[.string x.spec] (grow (redrawn (w.alloc (.cells #[.string x.spec,.string x.first,.string x.loc] 84)) d) L) fun e H=>e= .returned (.string qt)∧∃p:Regrown,H=grow (redrawn (w.alloc (.cells #[.string x.spec,.string x.first,.string x.loc] 84)) p.d) p.os:=fun d L=>Calls.regrown_of (by rw[←A];exact (zgy x.spec _ (by omega)).mono (by rintro e w' ⟨rfl,rfl⟩;exact⟨rfl,Below.refl _ _⟩))
 have N: ∀d L,Calls Tryz.prog 116 #[.string x.first,.string x.loc] (grow (redrawn (w.alloc (.cells #[.string x.spec,.string x.first,.string x.loc] 84)) d) L) fun e H=>e= .returned (.string at')∧∃p:Regrown,H=grow (redrawn (w.alloc (.cells #[.string x.spec,.string x.first,.string x.loc] 84)) p.d) p.os:=fun d L=>Calls.regrown_of (by rw[←hat];exact (zh6 x.first x.loc _ (by omega) (by omega)).mono (by rintro e w' ⟨rfl,rfl⟩;exact⟨rfl,Below.refl _ _⟩))
 have X:=zc (zbK (heap_alloc_new w (.cells #[.string x.spec,.string x.first,.string x.loc] 84)))
 clear A hat hq ha
 unfold imV
 cases V:(x.first.toList==[42]) with
 |true=>
  have M:Hid (zad x=({data:=#[105,109,112,111,114,116,32,42,32,97,115,32]}:ByteArray)++x.loc++({data:=#[32,102,114,111,109,32]}:ByteArray)++za0 x.spec++({data:=#[59,10]}:ByteArray)):=by show _=_;rw[zad,V];rfl
  go_enter Tryz.func82,Tryz.ntmps82
  go_wp2_with fail
  have y0:=cell_regrown X.out.1
  have Z:=cell_regrown X.out.2.1
  have y2:=cell_regrown X.out.2.2.1
  refine wp_region_quiet_below (by kernel_rfl) (by kernel_rfl) ?_
  repeat (go_big_quiet_step (first|with_reducible exact O _ _|with_reducible exact N _ _))
  refine wpQuiet_nil ?_
  intro I j
  obtain⟨⟨Y,J⟩,h⟩:=j
  have z:Hid (Below w.heap.size w I):=by show Below _ _ _;rw[h];exact ((Below.refl _ _).alloc (Nat.le_refl _) _).trans ((below_regrown _ _ _).mono (by rw[zn];omega))
  clear h
  go_wp2
  go_ret
  exact⟨za1 (by rw[M.out,U.out]),z.out⟩
 |false=>
  cases e2:(x.first.toList==[100,101,102,97,117,108,116]) with
  |true=>
   have M:Hid (zad x=({data:=#[105,109,112,111,114,116,32]}:ByteArray)++x.loc++({data:=#[32,102,114,111,109,32]}:ByteArray)++za0 x.spec++({data:=#[59,10]}:ByteArray)):=by show _=_;rw[zad,V,e2];rfl
   go_enter Tryz.func82,Tryz.ntmps82
   go_wp2_with fail
   have y0:=cell_regrown X.out.1
   have Z:=cell_regrown X.out.2.1
   have y2:=cell_regrown X.out.2.2.1
   refine wp_region_quiet_below (by kernel_rfl) (by kernel_rfl) ?_
   repeat (go_big_quiet_step (first|with_reducible exact O _ _|with_reducible exact N _ _))
   refine wpQuiet_nil ?_
   intro I j
   obtain⟨⟨Y,J⟩,h⟩:=j
   have z:Hid (Below w.heap.size w I):=by show Below _ _ _;rw[h];exact ((Below.refl _ _).alloc (Nat.le_refl _) _).trans ((below_regrown _ _ _).mono (by rw[zn];omega))
   clear h
   go_wp2
   go_ret
   exact⟨za1 (by rw[M.out,U.out]),z.out⟩
  |false=>
   have M:Hid (zad x=({data:=#[105,109,112,111,114,116,32,123,32]}:ByteArray)++asT x.first x.loc++({data:=#[32,125,32,102,114,111,109,32]}:ByteArray)++za0 x.spec++({data:=#[59,10]}:ByteArray)):=by show _=_;rw[zad,V,e2];rfl
   go_enter Tryz.func82,Tryz.ntmps82
   go_wp2_with fail
   have y0:=cell_regrown X.out.1
   have Z:=cell_regrown X.out.2.1
   have y2:=cell_regrown X.out.2.2.1
   refine wp_region_quiet_below (by kernel_rfl) (by kernel_rfl) ?_
   repeat (go_big_quiet_step (first|with_reducible exact O _ _|with_reducible exact N _ _))
   refine wpQuiet_nil ?_
   intro I j
   obtain⟨⟨Y,J⟩,h⟩:=j
   have z:Hid (Below w.heap.size w I):=by show Below _ _ _;rw[h];exact ((Below.refl _ _).alloc (Nat.le_refl _) _).trans ((below_regrown _ _ _).mono (by rw[zn];omega))
   clear h
   go_wp2
   go_ret
   exact⟨za1 (by rw[M.out,U.out,AT.out]),z.out⟩
theorem zq1 (x:Ep) (w:World) (h1:x.spec.size≤4294967296) (h2:x.name.size≤4294967296) (h3:x.loc.size≤4294967296):Calls Tryz.prog 83 #[epV x] w fun e w'=>e= .returned (.string (zbq x))∧Below w.heap.size w w':=by
 obtain⟨N,h⟩: ∃t,za0 x.spec=t:=⟨_,rfl⟩
 obtain⟨at',hat⟩: ∃t,asT x.loc x.name=t:=⟨_,rfl⟩
 have Y:=zh7 x.spec
 have ha:=zjW x.loc x.name
 rw[h] at Y
 rw[hat] at ha
 have ac:N.size≤8589934592:=by omega
 have ab:at'.size≤17179869184:=by omega
 have QT:=zc h
 have AT:=zc hat
 have cQ: ∀d H,Calls Tryz.prog 81 #[.string x.spec] (grow (redrawn (w.alloc (.cells #[.int .i64 x.kind,.string x.name,.string x.loc,.string x.spec] 86)) d) H) fun e z=>e= .returned (.string N)∧∃p:Regrown,z=grow (redrawn (w.alloc (.cells #[.int .i64 x.kind,.string x.name,.string x.loc,.string x.spec] 86)) p.d) p.os:=fun d H=>Calls.regrown_of (by rw[←h];exact (zgy x.spec _ (by omega)).mono (by rintro e w' ⟨rfl,rfl⟩;exact⟨rfl,Below.refl _ _⟩))
 have cA: ∀d H,Calls Tryz.prog 116 #[.string x.loc,.string x.name] (grow (redrawn (w.alloc (.cells #[.int .i64 x.kind,.string x.name,.string x.loc,.string x.spec] 86)) d) H) fun e z=>e= .returned (.string at')∧∃p:Regrown,z=grow (redrawn (w.alloc (.cells #[.int .i64 x.kind,.string x.name,.string x.loc,.string x.spec] 86)) p.d) p.os:=fun d H=>Calls.regrown_of (by rw[←hat];exact (zh6 x.loc x.name _ (by omega) (by omega)).mono (by rintro e w' ⟨rfl,rfl⟩;exact⟨rfl,Below.refl _ _⟩))
 have V: ∀w:World,Calls Tryz.prog 81 #[.string x.spec] w fun e w'=>e= .returned (.string N)∧w'=w:=fun w=>by rw[←h];exact zgy x.spec w (by omega)
 have M: ∀w:World,Calls Tryz.prog 116 #[.string x.loc,.string x.name] w fun e w'=>e= .returned (.string at')∧w'=w:=fun w=>by rw[←hat];exact zh6 x.loc x.name w (by omega) (by omega)
 have X:=zc (zd9 (heap_alloc_new w (.cells #[.int .i64 x.kind,.string x.name,.string x.loc,.string x.spec] 86)))
 clear h hat Y ha
 unfold epV
 cases U:(x.kind==3) with
 |true=>
  have J:Hid (zbq x=({data:=#[101,120,112,111,114,116,32,42,32,102,114,111,109,32]}:ByteArray)++za0 x.spec++({data:=#[59,10]}:ByteArray)):=by show _=_;rw[zbq,U];rfl
  go_enter Tryz.func83,Tryz.ntmps83
  go_wp2_with fail
  refine (V _).mono ?_
  rintro e A ⟨rfl,I⟩
  rw[I]
  clear I A
  go_wp2
  go_ret
  exact⟨za1 (by rw[J.out,QT.out]),(Below.refl _ _).alloc (Nat.le_refl _) _⟩
 |false=>
  cases Z:(x.kind==2) with
  |true=>
   have J:Hid (zbq x=({data:=#[101,120,112,111,114,116,32,123,32]}:ByteArray)++asT x.loc x.name++({data:=#[32,125,32,102,114,111,109,32]}:ByteArray)++za0 x.spec++({data:=#[59,10]}:ByteArray)):=by show _=_;rw[zbq,U,Z];rfl
   go_enter Tryz.func83,Tryz.ntmps83
   go_wp2_with fail
   have y0:=cell_regrown X.out.1
   have y1:=cell_regrown X.out.2.1
   have y2:=cell_regrown X.out.2.2.1
   have y3:=cell_regrown X.out.2.2.2.1
   refine wp_region_quiet_below (by kernel_rfl) (by kernel_rfl) ?_
   repeat (go_big_quiet_step (first|with_reducible exact cQ _ _|with_reducible exact cA _ _))
   refine wpQuiet_nil ?_
   intro A L
   obtain⟨⟨dq,aa⟩,j⟩:=L
   have O:Hid (Below w.heap.size w A):=by show Below _ _ _;rw[j];exact ((Below.refl _ _).alloc (Nat.le_refl _) _).trans ((below_regrown _ _ _).mono (by rw[zn];omega))
   clear j
   go_wp2
   go_ret
   exact⟨za1 (by rw[J.out,QT.out,AT.out]),O.out⟩
  |false=>
   have J:Hid (zbq x=({data:=#[101,120,112,111,114,116,32,123,32]}:ByteArray)++asT x.loc x.name++({data:=#[32,125,59,10]}:ByteArray)):=by show _=_;rw[zbq,U,Z];rfl
   go_enter Tryz.func83,Tryz.ntmps83
   go_wp2_with fail
   refine (M _).mono ?_
   rintro e A ⟨rfl,I⟩
   rw[I]
   clear I A
   go_wp2
   go_ret
   exact⟨za1 (by rw[J.out,AT.out]),(Below.refl _ _).alloc (Nat.le_refl _) _⟩
theorem zq2 (j:Nat) (S:Sv) (m:Md) (k:Int) (n:ByteArray) (i:Nat) (w:World) (h:OwnMd w j S m) (U:i<m.ex.length) (V:zaR m.ex) (Z:zb2 m.ex) (J:wt m.ex i≤1099511627776) (_:n.size≤4294967296) (L:(k==1)=true) (O:(n.toList==[42,100,101,102,97,117,108,116])=true):
  Calls Tryz.prog 84 #[zh S m,.agg #[.int .i64 k,.string n,.int .i64 (i:Int)]] w fun e w'=>e= .returned (.string (za7 k n (prX m.ex i)))∧Below w.heap.size w w':=by
 have Y:=zc h
 have HV:Hid (za7 k n (prX m.ex i)=({data:=#[101,120,112,111,114,116,32,100,101,102,97,117,108,116,32]}:ByteArray)++prX m.ex i++({data:=#[59,10]}:ByteArray)):=by show _=_;rw[za7,L,O];rfl
 have z:=J
 unfold wt at z
 have X:=zc (And.intro (zcA (o':=.cells #[.int .i64 k,.string n,.int .i64 (i:Int)] 107) (heap_alloc_new w (.cells #[.slice S.rq.a m.rq.length S.rq.cap,.slice S.im.a m.im.length S.im.cap,.slice S.ep.a m.ep.length S.ep.cap,.slice S.st.a m.st.length S.st.cap,.slice S.ex.a m.ex.length S.ex.cap] 36))) (new2 w (.cells #[.slice S.rq.a m.rq.length S.rq.cap,.slice S.im.a m.im.length S.im.cap,.slice S.ep.a m.ep.length S.ep.cap,.slice S.st.a m.st.length S.st.cap,.slice S.ex.a m.ex.length S.ex.cap] 36) (.cells #[.int .i64 k,.string n,.int .i64 (i:Int)] 107)))
 clear h
 unfold zh
 go_enter Tryz.func84,Tryz.ntmps84
 go_wp2_with fail
 refine (zee j S m i _ V Z U ((Y.out.alloc _).alloc _) J).mono ?_
 rintro e M ⟨rfl,H⟩
 have N:Hid (Below w.heap.size w M):=(zba w _ _).trans (H.mono (by rw[zn,zn];omega))
 have I:=zc ((H.block _ (by rw[zn,zn];omega)).trans X.out.2)
 obtain⟨c0,c1,c2,cf⟩:=zbK I.out
 clear H
 obtain⟨t,A⟩: ∃t,prX m.ex i=t:=⟨_,rfl⟩
 rw[A] at z ⊢
 have HT:=zc A
 clear A
 go_wp2
 go_ret
 exact⟨za1 (by rw[HV.out,HT.out]),N.out⟩
theorem zq3 (j:Nat) (S:Sv) (m:Md) (k:Int) (n:ByteArray) (i:Nat) (w:World) (h:OwnMd w j S m) (U:i<m.ex.length) (V:zaR m.ex) (Z:zb2 m.ex) (J:wt m.ex i≤1099511627776) (hs:n.size≤4294967296) (L:(k==1)=true) (O:(n.toList==[42,100,101,102,97,117,108,116])=false):
  Calls Tryz.prog 84 #[zh S m,.agg #[.int .i64 k,.string n,.int .i64 (i:Int)]] w fun e w'=>e= .returned (.string (za7 k n (prX m.ex i)))∧Below w.heap.size w w':=by
 have Y:=zc h
 have HV:Hid (za7 k n (prX m.ex i)=({data:=#[108,101,116,32]}:ByteArray)++n++({data:=#[32,61,32]}:ByteArray)++prX m.ex i++({data:=#[59,10]}:ByteArray)):=by show _=_;rw[za7,L,O];rfl
 have z:=J
 unfold wt at z
 have X:=zc (And.intro (zcA (o':=.cells #[.int .i64 k,.string n,.int .i64 (i:Int)] 107) (heap_alloc_new w (.cells #[.slice S.rq.a m.rq.length S.rq.cap,.slice S.im.a m.im.length S.im.cap,.slice S.ep.a m.ep.length S.ep.cap,.slice S.st.a m.st.length S.st.cap,.slice S.ex.a m.ex.length S.ex.cap] 36))) (new2 w (.cells #[.slice S.rq.a m.rq.length S.rq.cap,.slice S.im.a m.im.length S.im.cap,.slice S.ep.a m.ep.length S.ep.cap,.slice S.st.a m.st.length S.st.cap,.slice S.ex.a m.ex.length S.ex.cap] 36) (.cells #[.int .i64 k,.string n,.int .i64 (i:Int)] 107)))
 clear h
 unfold zh
 go_enter Tryz.func84,Tryz.ntmps84
 go_wp2_with fail
 refine (zee j S m i _ V Z U ((Y.out.alloc _).alloc _) J).mono ?_
 rintro e M ⟨rfl,H⟩
 have N:Hid (Below w.heap.size w M):=(zba w _ _).trans (H.mono (by rw[zn,zn];omega))
 have I:=zc ((H.block _ (by rw[zn,zn];omega)).trans X.out.2)
 obtain⟨c0,c1,c2,cf⟩:=zbK I.out
 clear H
 obtain⟨t,A⟩: ∃t,prX m.ex i=t:=⟨_,rfl⟩
 rw[A] at z ⊢
 have HT:=zc A
 clear A
 go_wp2
 go_ret
 exact⟨za1 (by rw[HV.out,HT.out]),N.out⟩
theorem zq4 (j:Nat) (S:Sv) (m:Md) (k:Int) (n:ByteArray) (i:Nat) (w:World) (h:OwnMd w j S m) (O:i<m.ex.length) (U:zaR m.ex) (Z:zb2 m.ex) (J:wt m.ex i≤1099511627776) (hs:n.size≤4294967296) (L:(k==1)=false) (V:(k==2)=true):
  Calls Tryz.prog 84 #[zh S m,.agg #[.int .i64 k,.string n,.int .i64 (i:Int)]] w fun e w'=>e= .returned (.string (za7 k n (prX m.ex i)))∧Below w.heap.size w w':=by
 have Y:=zc h
 have HV:Hid (za7 k n (prX m.ex i)=({data:=#[102,117,110,99,116,105,111,110,32]}:ByteArray)++n++({data:=#[40,41,32,123,32,114,101,116,117,114,110,32]}:ByteArray)++prX m.ex i++({data:=#[59,32,125,10]}:ByteArray)):=by show _=_;rw[za7,L,V];rfl
 have z:=J
 unfold wt at z
 have X:=zc (And.intro (zcA (o':=.cells #[.int .i64 k,.string n,.int .i64 (i:Int)] 107) (heap_alloc_new w (.cells #[.slice S.rq.a m.rq.length S.rq.cap,.slice S.im.a m.im.length S.im.cap,.slice S.ep.a m.ep.length S.ep.cap,.slice S.st.a m.st.length S.st.cap,.slice S.ex.a m.ex.length S.ex.cap] 36))) (new2 w (.cells #[.slice S.rq.a m.rq.length S.rq.cap,.slice S.im.a m.im.length S.im.cap,.slice S.ep.a m.ep.length S.ep.cap,.slice S.st.a m.st.length S.st.cap,.slice S.ex.a m.ex.length S.ex.cap] 36) (.cells #[.int .i64 k,.string n,.int .i64 (i:Int)] 107)))
 clear h
 unfold zh
 go_enter Tryz.func84,Tryz.ntmps84
 go_wp2_with fail
 refine (zee j S m i _ U Z O ((Y.out.alloc _).alloc _) J).mono ?_
 rintro e M ⟨rfl,H⟩
 have N:Hid (Below w.heap.size w M):=(zba w _ _).trans (H.mono (by rw[zn,zn];omega))
 have I:=zc ((H.block _ (by rw[zn,zn];omega)).trans X.out.2)
 obtain⟨c0,c1,c2,cf⟩:=zbK I.out
 clear H
 obtain⟨t,A⟩: ∃t,prX m.ex i=t:=⟨_,rfl⟩
 rw[A] at z ⊢
 have HT:=zc A
 clear A
 go_wp2
 go_ret
 exact⟨za1 (by rw[HV.out,HT.out]),N.out⟩
theorem zq5 (j:Nat) (S:Sv) (m:Md) (k:Int) (n:ByteArray) (i:Nat) (w:World) (h:OwnMd w j S m) (U:i<m.ex.length) (V:zaR m.ex) (ha:zb2 m.ex) (J:wt m.ex i≤1099511627776) (hs:n.size≤4294967296) (L:(k==1)=false) (X:(k==2)=false) (N:(k==3)=true):
  Calls Tryz.prog 84 #[zh S m,.agg #[.int .i64 k,.string n,.int .i64 (i:Int)]] w fun e w'=>e= .returned (.string (za7 k n (prX m.ex i)))∧Below w.heap.size w w':=by
 have Z:=zc h
 have HV:Hid (za7 k n (prX m.ex i)=n++({data:=#[32,61,32]}:ByteArray)++prX m.ex i++({data:=#[59,10]}:ByteArray)):=by show _=_;rw[za7,L,X,N];rfl
 have z:=J
 unfold wt at z
 have Y:=zc (And.intro (zcA (o':=.cells #[.int .i64 k,.string n,.int .i64 (i:Int)] 107) (heap_alloc_new w (.cells #[.slice S.rq.a m.rq.length S.rq.cap,.slice S.im.a m.im.length S.im.cap,.slice S.ep.a m.ep.length S.ep.cap,.slice S.st.a m.st.length S.st.cap,.slice S.ex.a m.ex.length S.ex.cap] 36))) (new2 w (.cells #[.slice S.rq.a m.rq.length S.rq.cap,.slice S.im.a m.im.length S.im.cap,.slice S.ep.a m.ep.length S.ep.cap,.slice S.st.a m.st.length S.st.cap,.slice S.ex.a m.ex.length S.ex.cap] 36) (.cells #[.int .i64 k,.string n,.int .i64 (i:Int)] 107)))
 clear h
 unfold zh
 go_enter Tryz.func84,Tryz.ntmps84
 go_wp2_with fail
 refine (zee j S m i _ V ha U ((Z.out.alloc _).alloc _) J).mono ?_
 rintro e M ⟨rfl,H⟩
 have O:Hid (Below w.heap.size w M):=(zba w _ _).trans (H.mono (by rw[zn,zn];omega))
 have I:=zc ((H.block _ (by rw[zn,zn];omega)).trans Y.out.2)
 obtain⟨c0,c1,c2,cf⟩:=zbK I.out
 clear H
 obtain⟨t,A⟩: ∃t,prX m.ex i=t:=⟨_,rfl⟩
 rw[A] at z ⊢
 have HT:=zc A
 clear A
 go_wp2
 go_ret
 exact⟨za1 (by rw[HV.out,HT.out]),O.out⟩
theorem zq6 (j:Nat) (S:Sv) (m:Md) (k:Int) (n:ByteArray) (i:Nat) (w:World) (h:OwnMd w j S m) (U:i<m.ex.length) (V:zaR m.ex) (ha:zb2 m.ex) (J:wt m.ex i≤1099511627776) (_:n.size≤4294967296) (L:(k==1)=false) (X:(k==2)=false) (N:(k==3)=false) (k4:(k==4)=true):
  Calls Tryz.prog 84 #[zh S m,.agg #[.int .i64 k,.string n,.int .i64 (i:Int)]] w fun e w'=>e= .returned (.string (za7 k n (prX m.ex i)))∧Below w.heap.size w w':=by
 have Z:=zc h
 have HV:Hid (za7 k n (prX m.ex i)=({data:=#[112,114,105,110,116,40]}:ByteArray)++prX m.ex i++({data:=#[41,59,10]}:ByteArray)):=by show _=_;rw[za7,L,X,N,k4];rfl
 have z:=J
 unfold wt at z
 have Y:=zc (And.intro (zcA (o':=.cells #[.int .i64 k,.string n,.int .i64 (i:Int)] 107) (heap_alloc_new w (.cells #[.slice S.rq.a m.rq.length S.rq.cap,.slice S.im.a m.im.length S.im.cap,.slice S.ep.a m.ep.length S.ep.cap,.slice S.st.a m.st.length S.st.cap,.slice S.ex.a m.ex.length S.ex.cap] 36))) (new2 w (.cells #[.slice S.rq.a m.rq.length S.rq.cap,.slice S.im.a m.im.length S.im.cap,.slice S.ep.a m.ep.length S.ep.cap,.slice S.st.a m.st.length S.st.cap,.slice S.ex.a m.ex.length S.ex.cap] 36) (.cells #[.int .i64 k,.string n,.int .i64 (i:Int)] 107)))
 clear h
 unfold zh
 go_enter Tryz.func84,Tryz.ntmps84
 go_wp2_with fail
 refine (zee j S m i _ V ha U ((Z.out.alloc _).alloc _) J).mono ?_
 rintro e M ⟨rfl,H⟩
 have O:Hid (Below w.heap.size w M):=(zba w _ _).trans (H.mono (by rw[zn,zn];omega))
 have I:=zc ((H.block _ (by rw[zn,zn];omega)).trans Y.out.2)
 obtain⟨c0,c1,c2,cf⟩:=zbK I.out
 clear H
 obtain⟨t,A⟩: ∃t,prX m.ex i=t:=⟨_,rfl⟩
 rw[A] at z ⊢
 have HT:=zc A
 clear A
 go_wp2
 go_ret
 exact⟨za1 (by rw[HV.out,HT.out]),O.out⟩
theorem zq7 (j:Nat) (S:Sv) (m:Md) (k:Int) (n:ByteArray) (i:Nat) (w:World) (h:OwnMd w j S m) (X:i<m.ex.length) (Y:zaR m.ex) (ha:zb2 m.ex) (J:wt m.ex i≤1099511627776) (_:n.size≤4294967296) (L:(k==1)=false) (Z:(k==2)=false) (O:(k==3)=false) (k4:(k==4)=false) (V:(k==5)=true):
  Calls Tryz.prog 84 #[zh S m,.agg #[.int .i64 k,.string n,.int .i64 (i:Int)]] w fun e w'=>e= .returned (.string (za7 k n (prX m.ex i)))∧Below w.heap.size w w':=by
 have HH:=zc h
 have HV:Hid (za7 k n (prX m.ex i)=({data:=#[116,104,114,111,119,32]}:ByteArray)++prX m.ex i++({data:=#[59,10]}:ByteArray)):=by show _=_;rw[za7,L,Z,O,k4,V];rfl
 have z:=J
 unfold wt at z
 have HX:=zc (And.intro (zcA (o':=.cells #[.int .i64 k,.string n,.int .i64 (i:Int)] 107) (heap_alloc_new w (.cells #[.slice S.rq.a m.rq.length S.rq.cap,.slice S.im.a m.im.length S.im.cap,.slice S.ep.a m.ep.length S.ep.cap,.slice S.st.a m.st.length S.st.cap,.slice S.ex.a m.ex.length S.ex.cap] 36))) (new2 w (.cells #[.slice S.rq.a m.rq.length S.rq.cap,.slice S.im.a m.im.length S.im.cap,.slice S.ep.a m.ep.length S.ep.cap,.slice S.st.a m.st.length S.st.cap,.slice S.ex.a m.ex.length S.ex.cap] 36) (.cells #[.int .i64 k,.string n,.int .i64 (i:Int)] 107)))
 clear h
 unfold zh
 go_enter Tryz.func84,Tryz.ntmps84
 go_wp2_with fail
 refine (zee j S m i _ Y ha X ((HH.out.alloc _).alloc _) J).mono ?_
 rintro e M ⟨rfl,H⟩
 have U:Hid (Below w.heap.size w M):=(zba w _ _).trans (H.mono (by rw[zn,zn];omega))
 have I:=zc ((H.block _ (by rw[zn,zn];omega)).trans HX.out.2)
 obtain⟨c0,c1,c2,cf⟩:=zbK I.out
 clear H
 obtain⟨t,A⟩: ∃t,prX m.ex i=t:=⟨_,rfl⟩
 rw[A] at z ⊢
 have N:=zc A
 clear A
 go_wp2
 go_ret
 exact⟨za1 (by rw[HV.out,N.out]),U.out⟩
theorem zq8 (j:Nat) (S:Sv) (m:Md) (k:Int) (n:ByteArray) (i:Nat) (w:World) (h:OwnMd w j S m) (X:i<m.ex.length) (Y:zaR m.ex) (ha:zb2 m.ex) (J:wt m.ex i≤1099511627776) (_:n.size≤4294967296) (L:(k==1)=false) (Z:(k==2)=false) (O:(k==3)=false) (k4:(k==4)=false) (V:(k==5)=false):
  Calls Tryz.prog 84 #[zh S m,.agg #[.int .i64 k,.string n,.int .i64 (i:Int)]] w fun e w'=>e= .returned (.string (za7 k n (prX m.ex i)))∧Below w.heap.size w w':=by
 have HH:=zc h
 have HV:Hid (za7 k n (prX m.ex i)=({data:=#[102,97,105,108,32]}:ByteArray)++prX m.ex i++({data:=#[59,10]}:ByteArray)):=by show _=_;rw[za7,L,Z,O,k4,V];rfl
 have z:=J
 unfold wt at z
 have HX:=zc (And.intro (zcA (o':=.cells #[.int .i64 k,.string n,.int .i64 (i:Int)] 107) (heap_alloc_new w (.cells #[.slice S.rq.a m.rq.length S.rq.cap,.slice S.im.a m.im.length S.im.cap,.slice S.ep.a m.ep.length S.ep.cap,.slice S.st.a m.st.length S.st.cap,.slice S.ex.a m.ex.length S.ex.cap] 36))) (new2 w (.cells #[.slice S.rq.a m.rq.length S.rq.cap,.slice S.im.a m.im.length S.im.cap,.slice S.ep.a m.ep.length S.ep.cap,.slice S.st.a m.st.length S.st.cap,.slice S.ex.a m.ex.length S.ex.cap] 36) (.cells #[.int .i64 k,.string n,.int .i64 (i:Int)] 107)))
 clear h
 unfold zh
 go_enter Tryz.func84,Tryz.ntmps84
 go_wp2_with fail
 refine (zee j S m i _ Y ha X ((HH.out.alloc _).alloc _) J).mono ?_
 rintro e M ⟨rfl,H⟩
 have U:Hid (Below w.heap.size w M):=(zba w _ _).trans (H.mono (by rw[zn,zn];omega))
 have I:=zc ((H.block _ (by rw[zn,zn];omega)).trans HX.out.2)
 obtain⟨c0,c1,c2,cf⟩:=zbK I.out
 clear H
 obtain⟨t,A⟩: ∃t,prX m.ex i=t:=⟨_,rfl⟩
 rw[A] at z ⊢
 have N:=zc A
 clear A
 go_wp2
 go_ret
 exact⟨za1 (by rw[HV.out,N.out]),U.out⟩
theorem zq9 (j:Nat) (S:Sv) (m:Md) (k:Int) (n:ByteArray) (i:Nat) (w:World) (h:OwnMd w j S m) (J:i<m.ex.length) (L:zaR m.ex) (H:zb2 m.ex) (A:wt m.ex i≤1099511627776) (I:n.size≤4294967296):
  Calls Tryz.prog 84 #[zh S m,.agg #[.int .i64 k,.string n,.int .i64 (i:Int)]] w fun e w'=>e= .returned (.string (za7 k n (prX m.ex i)))∧Below w.heap.size w w':=by
 cases z:(k==1) with
 |true=>
  cases U:(n.toList==[42,100,101,102,97,117,108,116]) with
  |true=>exact zq2 j S m k n i w h J L H A I z U
  |false=>exact zq3 j S m k n i w h J L H A I z U
 |false=>
  cases M:(k==2) with
  |true=>exact zq4 j S m k n i w h J L H A I z M
  |false=>
   cases N:(k==3) with
   |true=>exact zq5 j S m k n i w h J L H A I z M N
   |false=>
    cases O:(k==4) with
    |true=>exact zq6 j S m k n i w h J L H A I z M N O
    |false=>
     cases V:(k==5) with
     |true=>exact zq7 j S m k n i w h J L H A I z M N O V
     |false=>exact zq8 j S m k n i w h J L H A I z M N O V
theorem zjX (a b:List Ex) (k:Int):zat (a++b) k=zat a k+zat b k:=by simp[zat]
theorem zjY (a b:List Sm) (k:Int):zaN (a++b) k=zaN a k+zaN b k:=by simp[zaN]
theorem zjZ {ex:List Ex} {i:Nat} (h:i<ex.length) (k:Int):zat (ex.take (i+1)) k=zat (ex.take i) k+u1 ex[i] k:=by
 rw[List.take_succ_eq_append_getElem h,zjX]
 simp[zat,u1]
theorem zqA {h:List Sm} {i:Nat} (j:i<h.length) (k:Int):zaN (h.take (i+1)) k=zaN (h.take i) k+if h[i].expr==k then 1 else 0:=by
 rw[List.take_succ_eq_append_getElem j,zjY]
 simp[zaN]
theorem zgz (ex:List Ex) (k:Int):zat ex k≤2*ex.length:=by
 induction ex with
 |nil=>simp[zat]
 |cons x l h=>
  rw[show x::l=[x]++l from rfl,zjX]
  have:zat [x] k≤2:=by
   simp only[zat,List.map_cons,List.map_nil,List.sum_cons,List.sum_nil]
   split
   ·split<;>split<;>omega
   ·omega
  simp only[List.length_append,List.length_cons,List.length_nil]
  omega
theorem zka (h:List Sm) (k:Int):zaN h k≤h.length:=by
 induction h with
 |nil=>simp[zaN]
 |cons x l j=>
  rw[show x::l=[x]++l from rfl,zjY]
  have:zaN [x] k≤1:=by
   simp only[zaN,List.map_cons,List.map_nil,List.sum_cons,List.sum_nil]
   split<;>omega
  simp only[List.length_append,List.length_cons,List.length_nil]
  omega
def zas (n:Nat) (f:Nat→Nat):List Value:=(List.range n).map fun k=>.int .i64 (f k:Int)
theorem zh8 (n:Nat) (f:Nat→Nat):(zas n f).length=n:=by simp[zas]
theorem zg0 {n:Nat} (f:Nat→Nat) {k:Nat} (h:k<n):(zas n f)[k]? =some (.int .i64 (f k:Int)):=by
 unfold zas
 rw[List.getElem?_map,List.getElem?_range h]
 rfl
theorem zqB {n l:Nat} (f g:Nat→Nat) (v:Nat) (w:g l=v) (h: ∀k,k≠l→g k=f k):(zas n f).set l (.int .i64 (v:Int))=zas n g:=by
 apply List.ext_getElem?
 intro k
 by_cases j:k<n
 ·by_cases e:k=l
  ·subst e
   rw[List.getElem?_set_self (by rw[zh8];exact j),zg0 g j,w]
  ·rw[List.getElem?_set_ne (fun x=>e x.symm),zg0 f j,zg0 g j,h k e]
 ·rw[List.getElem?_eq_none (by rw[List.length_set,zh8];omega),List.getElem?_eq_none (by rw[zh8];omega)]
theorem zef {n:Nat} {f g:Nat→Nat} (h: ∀k,k<n→f k=g k):zas n f=zas n g:=by
 unfold zas
 refine List.map_congr_left fun k j=>?_
 rw[h k (List.mem_range.1 j)]
def zaK (f:Nat→Nat) (l:Nat):Nat→Nat:=fun k=>f k+if k=l then 1 else 0
theorem zqC (f:Nat→Nat) (l:Nat):zaK f l l=f l+1:=by simp[zaK]
theorem zqD (f:Nat→Nat) {l k:Nat} (h:k≠l):zaK f l k=f k:=by simp[zaK,h]
theorem zkb {ex:List Ex} {i:Nat} (z:i<ex.length) (w:zaa ex[i].kind=true) (H:0≤ex[i].l) (A:0≤ex[i].r) (k:Nat):zaK (zaK (fun k=>zat (ex.take i) (k:Int)) ex[i].l.toNat) ex[i].r.toNat k=zat (ex.take (i+1)) (k:Int):=by
 rw[zjZ z,u1,if_pos w]
 unfold zaK
 have h:(ex[i].l==(k:Int))=decide (k=ex[i].l.toNat):=by
  rw[Bool.eq_iff_iff,beq_iff_eq,decide_eq_true_iff];omega
 have j:(ex[i].r==(k:Int))=decide (k=ex[i].r.toNat):=by
  rw[Bool.eq_iff_iff,beq_iff_eq,decide_eq_true_iff];omega
 rw[h,j]
 simp only[decide_eq_true_eq]
 omega
theorem zkc {ex:List Ex} {i:Nat} (h:i<ex.length) (j:zaa ex[i].kind=false) (k:Nat):zat (ex.take i) (k:Int)=zat (ex.take (i+1)) (k:Int):=by
 rw[zjZ h,u1,if_neg (by rw[j];decide),Nat.add_zero]
theorem zkd {h:List Sm} {ex:List Ex} {i:Nat} (j:i<h.length) (z:0≤h[i].expr) (k:Nat):zaK (fun k=>zat ex (k:Int)+zaN (h.take i) (k:Int)) h[i].expr.toNat k=zat ex (k:Int)+zaN (h.take (i+1)) (k:Int):=by
 rw[zqA j]
 unfold zaK
 have w:(h[i].expr==(k:Int))=decide (k=h[i].expr.toNat):=by
  rw[Bool.eq_iff_iff,beq_iff_eq,decide_eq_true_iff];omega
 rw[w]
 simp only[decide_eq_true_eq]
 omega
def AheadTo (ex:List Ex) (n:Nat):Prop:=∀(i:Nat) (x:Ex),i<n→ex[i]? =some x→zaa x.kind=true→0≤x.l∧x.l<(i:Int)∧0≤x.r∧x.r<(i:Int)
theorem AheadTo.all {ex:List Ex} (h:AheadTo ex ex.length):zb2 ex:=fun i x j=>h i x (List.getElem?_eq_some_iff.1 j).1 j
theorem AheadTo.next {ex:List Ex} {i:Nat} (h:AheadTo ex i) (I:i<ex.length) (A:zaa ex[i].kind=true→0≤ex[i].l∧ex[i].l<(i:Int)∧0≤ex[i].r∧ex[i].r<(i:Int)):AheadTo ex (i+1):=by
 intro j x H w z
 by_cases e:j=i
 ·subst e
  obtain⟨_,rfl⟩:=List.getElem?_eq_some_iff.1 w
  exact A z
 ·exact h j x (by omega) w z
theorem AheadTo.not {ex:List Ex} {i:Nat} (j:i<ex.length) (w:zaa ex[i].kind=true) (z: ¬(0≤ex[i].l∧ex[i].l<(i:Int)∧0≤ex[i].r∧ex[i].r<(i:Int))): ¬zb2 ex:=fun h=>z (h i _ (List.getElem?_eq_getElem j) w)
end Go.Proofs.YtjdddblpfbmpaaaGreat
