/-
  What impl's isSameMod answers: the walk.
  How often expressions are used,counted in a row of numbers. No program is spoken of.
  What impl.Dec and spec.Dec answer,at every number: the walks.
  What l5Two,l5Sum,l5Side and l5Expr of the specification answer: the walks.
  What importedName and importList of impl's parser answer: the walks.
-/
import Derived.Laws.StructEq
import Derived.Test.YticdggnnpjachaaGreatCcTwoModToSameSpec
namespace Go.Proofs.YticdggnnpjachaaGreat
set_option maxRecDepth 100000
set_option maxHeartbeats 12800000
open Go.RowKit Go.PlainAid Go.Sort
theorem zh9 (x y:Im) (w:World):Sem.run Tryz.prog (binOp .neq 100 (.agg #[.string x.spec,.string x.first,.string x.loc]) (.agg #[.string y.spec,.string y.first,.string y.loc])) w= .ok (.bool (!zc7 x y)) w:=by
 have z:=Tryz.underlying9
 have I:=Tryz.isAgg9
 have H:=Tryz.sizeOf9
 have E:=Tryz.underlying3
 have A:=Tryz.isAgg3
 have D:=Tryz.sizeOf3
 have q:Tryz.prog.underlying 100=some (.struct (Tryz.prog.fieldsOf 100)):=by kernel_rfl
 have j:Tryz.prog.stoodInHeld 100=false:=by kernel_rfl
 rw[run_neq_struct,show (10000:Nat)=9999+1 from rfl,run_equalIn_agg w 9999 100 _ _ q j]
 simp only[Program.fieldsOf,Tryz.underlying100]
 go_simp
 by_cases h:x.spec.toList=y.spec.toList<;>by_cases n:x.first.toList=y.first.toList<;>by_cases o:x.loc.toList=y.loc.toList<;>simp[zc7,h,n,o]
theorem zhA (h:BinOp) (a b:Operand) (x y:Im) (w:World):Sem.run Tryz.prog (eqGuard h 100 a b (.agg #[.string x.spec,.string x.first,.string x.loc]) (.agg #[.string y.spec,.string y.first,.string y.loc])) w= .ok () w:=run_eqGuard_agg w h 100 a b _ _ (by kernel_rfl)
theorem zhB (x y:Ep) (w:World):Sem.run Tryz.prog (binOp .neq 102 (.agg #[.int .i64 x.kind,.string x.name,.string x.loc,.string x.spec]) (.agg #[.int .i64 y.kind,.string y.name,.string y.loc,.string y.spec])) w= .ok (.bool (!zc8 x y)) w:=by
 have A:=Tryz.underlying9
 have J:=Tryz.isAgg9
 have I:=Tryz.sizeOf9
 have H:=Tryz.underlying3
 have D:=Tryz.isAgg3
 have E:=Tryz.sizeOf3
 have z:Tryz.prog.underlying 102=some (.struct (Tryz.prog.fieldsOf 102)):=by kernel_rfl
 have n:Tryz.prog.stoodInHeld 102=false:=by kernel_rfl
 rw[run_neq_struct,show (10000:Nat)=9999+1 from rfl,run_equalIn_agg w 9999 102 _ _ z n]
 simp only[Program.fieldsOf,Tryz.underlying102]
 go_simp
 by_cases h:x.kind=y.kind<;>by_cases o:x.name.toList=y.name.toList<;>by_cases q:x.loc.toList=y.loc.toList<;>by_cases j:x.spec.toList=y.spec.toList<;>simp[zc8,h,o,q,j]
theorem zhC (h:BinOp) (a b:Operand) (x y:Ep) (w:World):Sem.run Tryz.prog (eqGuard h 102 a b (.agg #[.int .i64 x.kind,.string x.name,.string x.loc,.string x.spec]) (.agg #[.int .i64 y.kind,.string y.name,.string y.loc,.string y.spec])) w= .ok () w:=run_eqGuard_agg w h 102 a b _ _ (by kernel_rfl)
theorem zhD (x y:Sm) (w:World):Sem.run Tryz.prog (binOp .neq 106 (.agg #[.int .i64 x.kind,.string x.name,.int .i64 x.expr]) (.agg #[.int .i64 y.kind,.string y.name,.int .i64 y.expr])) w= .ok (.bool (!zc9 x y)) w:=by
 have z:=Tryz.underlying9
 have I:=Tryz.isAgg9
 have H:=Tryz.sizeOf9
 have E:=Tryz.underlying3
 have A:=Tryz.isAgg3
 have D:=Tryz.sizeOf3
 have q:Tryz.prog.underlying 106=some (.struct (Tryz.prog.fieldsOf 106)):=by kernel_rfl
 have j:Tryz.prog.stoodInHeld 106=false:=by kernel_rfl
 rw[run_neq_struct,show (10000:Nat)=9999+1 from rfl,run_equalIn_agg w 9999 106 _ _ q j]
 simp only[Program.fieldsOf,Tryz.underlying106]
 go_simp
 by_cases h:x.kind=y.kind<;>by_cases n:x.name.toList=y.name.toList<;>by_cases o:x.expr=y.expr<;>simp[zc9,h,n,o]
theorem zhE (h:BinOp) (a b:Operand) (x y:Sm) (w:World):Sem.run Tryz.prog (eqGuard h 106 a b (.agg #[.int .i64 x.kind,.string x.name,.int .i64 x.expr]) (.agg #[.int .i64 y.kind,.string y.name,.int .i64 y.expr])) w= .ok () w:=run_eqGuard_agg w h 106 a b _ _ (by kernel_rfl)
theorem zhF (x y:Ex) (w:World):Sem.run Tryz.prog (binOp .neq 108 (.agg #[.int .i64 x.kind,.int .i64 x.num,.string x.name,.string x.field,.int .i64 x.l,.int .i64 x.r]) (.agg #[.int .i64 y.kind,.int .i64 y.num,.string y.name,.string y.field,.int .i64 y.l,.int .i64 y.r])) w= .ok (.bool (!zcA x y)) w:=by
 have E:=Tryz.underlying9
 have L:=Tryz.isAgg9
 have K:=Tryz.sizeOf9
 have J:=Tryz.underlying3
 have H:=Tryz.isAgg3
 have I:=Tryz.sizeOf3
 have D:Tryz.prog.underlying 108=some (.struct (Tryz.prog.fieldsOf 108)):=by kernel_rfl
 have o:Tryz.prog.stoodInHeld 108=false:=by kernel_rfl
 rw[run_neq_struct,show (10000:Nat)=9999+1 from rfl,run_equalIn_agg w 9999 108 _ _ D o]
 simp only[Program.fieldsOf,Tryz.underlying108]
 go_simp
 by_cases h:x.kind=y.kind<;>by_cases z:x.num=y.num<;>by_cases A:x.name.toList=y.name.toList<;>by_cases j:x.field.toList=y.field.toList<;>by_cases q:x.l=y.l<;>by_cases n:x.r=y.r<;>simp[zcA,h,z,A,j,q,n]
theorem zhG (h:BinOp) (a b:Operand) (x y:Ex) (w:World):Sem.run Tryz.prog (eqGuard h 108 a b (.agg #[.int .i64 x.kind,.int .i64 x.num,.string x.name,.string x.field,.int .i64 x.l,.int .i64 x.r]) (.agg #[.int .i64 y.kind,.int .i64 y.num,.string y.name,.string y.field,.int .i64 y.l,.int .i64 y.r])) w= .ok () w:=run_eqGuard_agg w h 108 a b _ _ (by kernel_rfl)
theorem zlG (X b2:Nat) (U V:Sv) (o A:Md) (w:World) (h1:OwnMd w X U o) (h2:OwnMd w b2 V A) (hf:zdM o):
  Calls Tryz.prog 51 #[zt U o,zt V A] w fun e w'=>zbR (o=A) e∧Below w.heap.size w w':=by
 have H1:=zc h1
 have H2:=zc h2
 have HF:=zc hf
 clear h1 h2 hf
 unfold zt
 go_enter Tryz.func51,Tryz.ntmps51
 go_upto_region 1 with fail
 refine zah (R:=TwoM w X b2 U V o A) (zfY w X b2 U V o A H1.out H2.out) ?_
 clear H1 H2
 intro w0 h
 have T0:=zc h
 clear h
 obtain⟨J,K,I,M,E,L⟩:=zk T0.out.1
 obtain⟨z,O,q,N,H,D⟩:=zk T0.out.2.1
 go_wp2_with fail
 refine (zlf X b2 U.rq V.rq o.rq A.rq w0 (by rw[←zdL];exact T0.out.2.2.1.rq) (by rw[←zdL];exact T0.out.2.2.2.1.rq) HF.out.1).mono ?_
 rintro e w1 ⟨⟨r,rfl,j⟩,n⟩
 have Y:=zc (T0.out.later n)
 have R0:=zc j
 clear n j J K I M E L z O q N H D
 obtain⟨J,K,I,M,E,L⟩:=zk Y.out.1
 obtain⟨z,O,q,N,H,D⟩:=zk Y.out.2.1
 cases r with
 |false=>
  go_wp2
  go_ret
  exact⟨⟨false,rfl,⟨fun k=>(by cases k),fun k=>(by have:=R0.out.2 (by rw[k]);cases this)⟩⟩,Y.out.2.2.2.2⟩
 |true=>
  go_wp2_with fail
  refine (zlj zh9 zhA X b2 U.im V.im o.im A.im w1 Y.out.2.2.1.im Y.out.2.2.2.1.im HF.out.2.1).mono ?_
  rintro e w2 ⟨⟨r,rfl,j⟩,n⟩
  have Z:=zc (Y.out.later n)
  have R1:=zc j
  clear n j J K I M E L z O q N H D
  obtain⟨J,K,I,M,E,L⟩:=zk Z.out.1
  obtain⟨z,O,q,N,H,D⟩:=zk Z.out.2.1
  cases r with
  |false=>
   go_wp2
   go_ret
   exact⟨⟨false,rfl,⟨fun k=>(by cases k),fun k=>(by have:=R1.out.2 (by rw[k]);cases this)⟩⟩,Z.out.2.2.2.2⟩
  |true=>
   go_wp2_with fail
   refine (zln zhB zhC X b2 U.ep V.ep o.ep A.ep w2 Z.out.2.2.1.ep Z.out.2.2.2.1.ep HF.out.2.2.1).mono ?_
   rintro e w3 ⟨⟨r,rfl,j⟩,n⟩
   have T3:=zc (Z.out.later n)
   have R2:=zc j
   clear n j J K I M E L z O q N H D
   obtain⟨J,K,I,M,E,L⟩:=zk T3.out.1
   obtain⟨z,O,q,N,H,D⟩:=zk T3.out.2.1
   cases r with
   |false=>
    go_wp2
    go_ret
    exact⟨⟨false,rfl,⟨fun k=>(by cases k),fun k=>(by have:=R2.out.2 (by rw[k]);cases this)⟩⟩,T3.out.2.2.2.2⟩
   |true=>
    go_wp2_with fail
    refine (zlr zhD zhE X b2 U.st V.st o.st A.st w3 T3.out.2.2.1.st T3.out.2.2.2.1.st HF.out.2.2.2.1).mono ?_
    rintro e w4 ⟨⟨r,rfl,j⟩,n⟩
    have T4:=zc (T3.out.later n)
    have R3:=zc j
    clear n j J K I M E L z O q N H D
    obtain⟨J,K,I,M,E,L⟩:=zk T4.out.1
    obtain⟨z,O,q,N,H,D⟩:=zk T4.out.2.1
    cases r with
    |false=>
     go_wp2
     go_ret
     exact⟨⟨false,rfl,⟨fun k=>(by cases k),fun k=>(by have:=R3.out.2 (by rw[k]);cases this)⟩⟩,T4.out.2.2.2.2⟩
    |true=>
     go_wp2_with fail
     refine (zlv zhF zhG X b2 U.ex V.ex o.ex A.ex w4 T4.out.2.2.1.ex T4.out.2.2.2.1.ex HF.out.2.2.2.2).mono ?_
     rintro e w5 ⟨⟨r,rfl,j⟩,n⟩
     have T5:=zc (T4.out.later n)
     have R4:=zc j
     clear n j J K I M E L z O q N H D
     obtain⟨J,K,I,M,E,L⟩:=zk T5.out.1
     obtain⟨z,O,q,N,H,D⟩:=zk T5.out.2.1
     cases r with
     |false=>
      go_wp2
      go_ret
      exact⟨⟨false,rfl,⟨fun k=>(by cases k),fun k=>(by have:=R4.out.2 (by rw[k]);cases this)⟩⟩,T5.out.2.2.2.2⟩
     |true=>
      go_wp2
      go_ret
      exact⟨⟨true,rfl,⟨fun _=>zhw (R0.out.1 (by simp)) (R1.out.1 (by simp)) (R2.out.1 (by simp)) (R3.out.1 (by simp)) (R4.out.1 (by simp)),fun _=>rfl⟩⟩,T5.out.2.2.2.2⟩
theorem zhH (a b:List Ex) (k:Int):zaj (a++b) k=zaj a k+zaj b k:=by simp[zaj]
theorem zhI (a b:List Sm) (k:Int):zaB (a++b) k=zaB a k+zaB b k:=by simp[zaB]
theorem zhJ {ex:List Ex} {i:Nat} (h:i<ex.length) (k:Int):zaj (ex.take (i+1)) k=zaj (ex.take i) k+u1 ex[i] k:=by
 rw[List.take_succ_eq_append_getElem h,zhH]
 simp[zaj,u1]
theorem zlH {h:List Sm} {i:Nat} (j:i<h.length) (k:Int):zaB (h.take (i+1)) k=zaB (h.take i) k+if h[i].expr==k then 1 else 0:=by
 rw[List.take_succ_eq_append_getElem j,zhI]
 simp[zaB]
theorem zfh (ex:List Ex) (k:Int):zaj ex k≤2*ex.length:=by
 induction ex with
 |nil=>simp[zaj]
 |cons x l h=>
  rw[show x::l=[x]++l from rfl,zhH]
  have:zaj [x] k≤2:=by
   simp only[zaj,List.map_cons,List.map_nil,List.sum_cons,List.sum_nil]
   split
   ·split<;>split<;>omega
   ·omega
  simp only[List.length_append,List.length_cons,List.length_nil]
  omega
theorem zhK (h:List Sm) (k:Int):zaB h k≤h.length:=by
 induction h with
 |nil=>simp[zaB]
 |cons x l j=>
  rw[show x::l=[x]++l from rfl,zhI]
  have:zaB [x] k≤1:=by
   simp only[zaB,List.map_cons,List.map_nil,List.sum_cons,List.sum_nil]
   split<;>omega
  simp only[List.length_append,List.length_cons,List.length_nil]
  omega
def zai (n:Nat) (f:Nat→Nat):List Value:=(List.range n).map fun k=>.int .i64 (f k:Int)
theorem zga (n:Nat) (f:Nat→Nat):(zai n f).length=n:=by simp[zai]
theorem zfi {n:Nat} (f:Nat→Nat) {k:Nat} (h:k<n):(zai n f)[k]? =some (.int .i64 (f k:Int)):=by
 unfold zai
 rw[List.getElem?_map,List.getElem?_range h]
 rfl
theorem zlI {n l:Nat} (f g:Nat→Nat) (v:Nat) (o:g l=v) (h: ∀k,k≠l→g k=f k):(zai n f).set l (.int .i64 (v:Int))=zai n g:=by
 apply List.ext_getElem?
 intro k
 by_cases j:k<n
 ·by_cases e:k=l
  ·subst e
   rw[List.getElem?_set_self (by rw[zga];exact j),zfi g j,o]
  ·rw[List.getElem?_set_ne (fun x=>e x.symm),zfi f j,zfi g j,h k e]
 ·rw[List.getElem?_eq_none (by rw[List.length_set,zga];omega),List.getElem?_eq_none (by rw[zga];omega)]
theorem zdq {n:Nat} {f g:Nat→Nat} (h: ∀k,k<n→f k=g k):zai n f=zai n g:=by
 unfold zai
 refine List.map_congr_left fun k j=>?_
 rw[h k (List.mem_range.1 j)]
def za9 (f:Nat→Nat) (l:Nat):Nat→Nat:=fun k=>f k+if k=l then 1 else 0
theorem zlJ (f:Nat→Nat) (l:Nat):za9 f l l=f l+1:=by simp[za9]
theorem zlK (f:Nat→Nat) {l k:Nat} (h:k≠l):za9 f l k=f k:=by simp[za9,h]
theorem zhL {ex:List Ex} {i:Nat} (h:i<ex.length) (n:zT ex[i].kind=true) (q:0≤ex[i].l) (w:0≤ex[i].r) (k:Nat):za9 (za9 (fun k=>zaj (ex.take i) (k:Int)) ex[i].l.toNat) ex[i].r.toNat k=zaj (ex.take (i+1)) (k:Int):=by
 rw[zhJ h,u1,if_pos n]
 unfold za9
 have j:(ex[i].l==(k:Int))=decide (k=ex[i].l.toNat):=by
  rw[Bool.eq_iff_iff,beq_iff_eq,decide_eq_true_iff];omega
 have o:(ex[i].r==(k:Int))=decide (k=ex[i].r.toNat):=by
  rw[Bool.eq_iff_iff,beq_iff_eq,decide_eq_true_iff];omega
 rw[j,o]
 simp only[decide_eq_true_eq]
 omega
theorem zhM {ex:List Ex} {i:Nat} (j:i<ex.length) (h:zT ex[i].kind=false) (k:Nat):zaj (ex.take i) (k:Int)=zaj (ex.take (i+1)) (k:Int):=by
 rw[zhJ j,u1,if_neg (by rw[h];decide),Nat.add_zero]
theorem zhN {h:List Sm} {ex:List Ex} {i:Nat} (j:i<h.length) (o:0≤h[i].expr) (k:Nat):za9 (fun k=>zaj ex (k:Int)+zaB (h.take i) (k:Int)) h[i].expr.toNat k=zaj ex (k:Int)+zaB (h.take (i+1)) (k:Int):=by
 rw[zlH j]
 unfold za9
 have n:(h[i].expr==(k:Int))=decide (k=h[i].expr.toNat):=by
  rw[Bool.eq_iff_iff,beq_iff_eq,decide_eq_true_iff];omega
 rw[n]
 simp only[decide_eq_true_eq]
 omega
def AheadTo (ex:List Ex) (n:Nat):Prop:=∀(i:Nat) (x:Ex),i<n→ex[i]? =some x→zT x.kind=true→0≤x.l∧x.l<(i:Int)∧0≤x.r∧x.r<(i:Int)
theorem AheadTo.all {ex:List Ex} (h:AheadTo ex ex.length):zbf ex:=fun i x j=>h i x (List.getElem?_eq_some_iff.1 j).1 j
theorem AheadTo.next {ex:List Ex} {i:Nat} (h:AheadTo ex i) (w:i<ex.length) (q:zT ex[i].kind=true→0≤ex[i].l∧ex[i].l<(i:Int)∧0≤ex[i].r∧ex[i].r<(i:Int)):AheadTo ex (i+1):=by
 intro j x z n o
 by_cases e:j=i
 ·subst e
  obtain⟨_,rfl⟩:=List.getElem?_eq_some_iff.1 n
  exact q o
 ·exact h j x (by omega) n o
theorem AheadTo.not {ex:List Ex} {i:Nat} (o:i<ex.length) (n:zT ex[i].kind=true) (j: ¬(0≤ex[i].l∧ex[i].l<(i:Int)∧0≤ex[i].r∧ex[i].r<(i:Int))): ¬zbf ex:=fun h=>j (h i _ (List.getElem?_eq_getElem o) n)
theorem Tryz.infoByte:(Tryz.prog.info? 5).map (fun i=>(i.zero,i.size,i.bytes))=some (some (.int .u8 0),1,1):=by kernel_rfl
theorem zhO (m:Int) (w:World) (z:0≤m) (D:m≤18446744073709551615):
  Calls Tryz.prog 203 #[.int .u64 m] w fun e E=>e= .returned (.int .i64 (dcn m))∧E=w:=by
 have o:=zcI m z D
 have H:dcn m≤20:=o.2.1
 have A:1≤dcn m:=o.1
 clear o
 go_enter Tryz.func203,Tryz.ntmps203
 go_wp2
 go_loop [0,3] (fun a c=>∃k:Nat,k+1≤dcn m∧a= .int .u64 (m/10^k)∧c= .int .i64 ((k:Int)+1)) (fun a _=>(intOf a).toNat)
 case atStart=>exact⟨0,A,by simp,rfl⟩
 case round=>
  obtain⟨k,J,rfl,rfl⟩:=hrel
  have I:=zd9 m k z
  have n:=zjG m z D k
  by_cases j:10≤m/10^k
  ·have q:=n.1 j
   clear n
   go_wp2
   go_round
   case rel=>exact⟨k+1,by omega,by rw[zd8],by go_num⟩
   case measure=>simp[intOf];omega
  ·have q: ¬(k+1<dcn m):=fun h=>j (n.2 h)
   clear n
   go_wp2
   go_ret
   exact⟨zeG (by omega),rfl⟩
theorem zlL (n:Int) (w:World) (O:0≤n) (h1:n≤9223372036854775807):
  Calls Tryz.prog 187 #[.int .i64 n] w fun e z=>e= .returned (.string (strOfNums (dgk n (dcn n))))∧Below w.heap.size w z:=by
 obtain⟨Y,X,K,L,I⟩:=info_parts Tryz.infoByte
 have E:=zcI n O (by omega)
 have U:dcn n≤20:=E.2.1
 have Z:1≤dcn n:=E.1
 clear E
 go_enter Tryz.func187,Tryz.ntmps187
 go_wp2_with (first|(go_at_call 203;refine (zhO _ _ (by omega) (by omega)).mono ?_;rintro e z ⟨rfl,rfl⟩)|(at_make;refine wpList_make_full _ rfl _ _ 44 rfl z.heap.size 5 Y (.int .u8 0) 1 Tryz.underlying44 X K L _ _ _ _ (dcn n) rfl rfl (by omega) (by omega) ?b2 ?b3 ?b4 ?_))
 case b2=>rw[I];omega
 case b3=>unfold maxLen;omega
 case b4=>exact Nat.le_refl _
 intro w1 o q
 have A:=(Below.refl z.heap.size z).grown q (Nat.le_refl _) (by intro k M;cases M)
 rw[toList_madeCells_one] at o
 clear q
 go_wp2
 go_loopw [3,7,21] (fun r _ i wr=>∃k:Nat,k≤dcn n∧i= .int .i64 k∧r= .int .u64 (n/10^k)∧zci wr z.heap.size 5 (.slice (some ⟨z.heap.size,0,none⟩) (dcn n) (dcn n)) (dcn n) (zcj (dgk n (dcn n)) k)∧Below z.heap.size z wr) (fun _ _ i _=>dcn n-(intOf i).toNat)
 case atStart=>exact⟨0,by omega,rfl,by simp,by unfold zci;rw[zg9,zcd,List.map_replicate];exact o,A⟩
 case round=>
  obtain⟨k,M,rfl,rfl,h,j⟩:=hrel
  clear o A
  have hb:=zd9 n k O
  by_cases D:k<dcn n
  ·obtain⟨v,hv⟩:=zf7 h (dcn n-1-k) (by omega)
   have hf:=zf8 h (dcn n-1-k)
   have N:=zf6 h (dcn n-1-k) (48+n/10^k%10)
   have H:=zgA (dgk n (dcn n)) k (48+n/10^k%10) (by rw[zcd];exact D) (by rw[zcd];exact zgK n _ k D)
   rw[zcd] at H
   rw[H] at N
   clear H h
   go_wp2
   go_roundw
   case rel=>exact⟨k+1,by omega,by go_num,by rw[zd8],N,j.setCell (Nat.le_refl _) _⟩
   case measure=>simp[intOf];omega
  ·have J:=zjH (dgk n (dcn n))
   rw[zcd] at J
   rw[show k=dcn n from by omega,J] at h
   clear J
   have V:=zg7 (P:=Tryz.prog) (src:=44) (dst:=9) Tryz.underlying44 Tryz.underlying5 Tryz.underlying9 h
   go_wp2
   go_ret
   exact⟨rfl,j⟩
theorem zlM (m:Int) (j:0<m) (h:m≤9223372036854775808):IntKind.u64.wrap (-IntKind.u64.wrap (-m))=m:=by
 rw[IntKind.wrap_u64,IntKind.wrap_u64];omega
theorem zlN (m:Int) (w:World) (h0:0<m) (h1:m≤9223372036854775808):
  Calls Tryz.prog 187 #[.int .i64 (-m)] w fun e q=>e= .returned (.string (strOfNums (45::dgk m (dcn m))))∧Below w.heap.size w q:=by
 obtain⟨Z,Y,L,M,J⟩:=info_parts Tryz.infoByte
 have E:=zcI m (by omega) (by omega)
 have V:dcn m≤20:=E.2.1
 have aa:1≤dcn m:=E.1
 clear E
 have hu:=zlM m h0 h1
 go_enter Tryz.func187,Tryz.ntmps187
 go_wp2_with (first|(go_at_call 203;refine (zhO _ _ (by omega) (by omega)).mono ?_;rintro e q ⟨rfl,rfl⟩)|(at_make;refine wpList_make_full _ rfl _ _ 44 rfl q.heap.size 5 Z (.int .u8 0) 1 Tryz.underlying44 Y L M _ _ _ _ (dcn m+1) rfl rfl (by omega) (by omega) ?b2 ?b3 ?b4 ?_))
 case b2=>rw[J];omega
 case b3=>unfold maxLen;omega
 case b4=>exact Nat.le_refl _
 intro w1 n o
 have z:=(Below.refl q.heap.size q).grown o (Nat.le_refl _) (by intro k O;cases O)
 rw[toList_madeCells_one] at n
 clear o
 have A:(45::dgk m (dcn m)).length=dcn m+1:=by rw[List.length_cons,zcd]
 have I:Hid ((45::dgk m (dcn m)).length=dcn m+1):=A
 clear A
 go_wp2
 go_loopw [3,7,21] (fun r _ i wr=>∃k:Nat,k≤dcn m∧i= .int .i64 k∧r= .int .u64 (m/10^k)∧zci wr q.heap.size 5 (.slice (some ⟨q.heap.size,0,none⟩) (dcn m+1) (dcn m+1)) (dcn m+1) (zcj (45::dgk m (dcn m)) k)∧Below q.heap.size q wr) (fun _ _ i _=>dcn m-(intOf i).toNat)
 case atStart=>exact⟨0,by omega,rfl,by simp,by unfold zci;rw[zg9,I.out,List.map_replicate];exact n,z⟩
 case round=>
  obtain⟨k,O,rfl,rfl,h,j⟩:=hrel
  clear n z hu
  have hb:=zd9 m k (by omega)
  by_cases N:k<dcn m
  ·obtain⟨v,hv⟩:=zf7 h (dcn m-k) (by omega)
   have U:=zf8 h (dcn m-k)
   have D:=zf6 h (dcn m-k) (48+m/10^k%10)
   have H:=zgA (45::dgk m (dcn m)) k (48+m/10^k%10) (by rw[I.out];omega) (zjJ [45] m (dcn m) k N)
   rw[I.out,show dcn m+1-1-k=dcn m-k from by omega] at H
   rw[H] at D
   clear H h
   go_wp2
   go_roundw
   case rel=>exact⟨k+1,by omega,by go_num,by rw[zd8],D,j.setCell (Nat.le_refl _) _⟩
   case measure=>simp[intOf];omega
  ·have K:=zjI 45 (dgk m (dcn m))
   rw[zcd] at K
   rw[show k=dcn m from by omega] at h
   obtain⟨v,hv⟩:=zf7 h 0 (by omega)
   have U:=zf8 h 0
   have D:=zf6 h 0 45
   rw[K] at D
   clear K h
   have X:=zg7 (P:=Tryz.prog) (src:=44) (dst:=9) Tryz.underlying44 Tryz.underlying5 Tryz.underlying9 D
   go_wp2
   go_ret
   exact⟨rfl,j.setCell (Nat.le_refl _) _⟩
theorem zlO (n:Int) (w:World) (j: -9223372036854775808≤n∧n≤9223372036854775807):
  Calls Tryz.prog 187 #[.int .i64 n] w fun e o=>e= .returned (.string (strOfNums (zb2 n)))∧Below w.heap.size w o:=by
 by_cases h:0≤n
 ·rw[zfB h]
  exact zlL n w h j.2
 ·obtain⟨m,rfl⟩: ∃m,n= -m:=⟨-n,by omega⟩
  rw[zfA (by omega),Int.neg_neg]
  exact zlN m w (by omega) (by omega)
theorem neg_tmod (q:Int) (h:0≤q):(-q).tmod 10= -(q%10):=by rw[Int.neg_tmod,Int.tmod_eq_emod_of_nonneg h]
theorem neg_tdiv (q:Int) (h:0≤q):(-q).tdiv 10= -(q/10):=by rw[Int.neg_tdiv,Int.tdiv_eq_ediv_of_nonneg h]
theorem zlP (n:Int) (w:World) (Z:0<n) (X:n≤9223372036854775807):
  Calls Tryz.prog 163 #[.int .i64 n] w fun e O=>e= .returned (.string (strOfNums (dgk n (dcn n))))∧Below w.heap.size w O:=by
 have A:=zcI n (by omega) (by omega)
 have J:dcn n≤20:=A.2.1
 have U:1≤dcn n:=A.1
 have M:(n==0)=false:=by simp;omega
 have I: ¬n<0:=by omega
 clear A
 go_enter Tryz.func163,Tryz.ntmps163
 go_wp2
 go_loopw [0,3,5] (fun a o _ wr=>∃k:Nat,k≤dcn n∧a= .int .i64 (n/10^k)∧o= .string (strOfNums (dgk n k))∧Below w.heap.size w wr) (fun a _ _ _=>(intOf a).toNat)
 case atStart=>exact⟨0,by omega,by simp,rfl,Below.refl _ _⟩
 case round=>
  obtain⟨k,V,rfl,rfl,j⟩:=hrel
  have Y:=zd9 n k (by omega)
  have z:=zgJ n (by omega) (by omega) k
  have L:(strOfNums (dgk n k)).size≤20:=by rw[strOfNums_size,zcd];omega
  by_cases q:n/10^k=0
  ·have E: ¬(k<dcn n):=fun h=>z.2 h q
   have D:(n/10^k !=0)=false:=by simpa using q
   clear z q
   go_wp2
   go_ret
   exact⟨zaF (by rw[show dcn n=k from by omega]),j⟩
  ·have E:=z.1 q
   have D:(n/10^k !=0)=true:=by simpa using q
   have N:0<n/10^k:=by omega
   clear z q
   have K:=fun (w:World) (x:Int)=>zg8 (P:=Tryz.prog) (src:=44) (dst:=9) Tryz.underlying44 Tryz.underlying5 Tryz.underlying9 w x
   have H:=fun x=>strOfNums_size [x]
   go_wp2
   go_roundw
   case rel=>exact⟨k+1,by omega,by rw[zd8],by rw[zeH];rfl,j.alloc j.size _⟩
   case measure=>simp[intOf];omega
theorem zlQ (m:Int) (w:World) (h0:0<m) (Z:m≤9223372036854775808):
  Calls Tryz.prog 163 #[.int .i64 (-m)] w fun e O=>e= .returned (.string (strOfNums (45::dgk m (dcn m))))∧Below w.heap.size w O:=by
 have q:=zcI m (by omega) (by omega)
 have J:dcn m≤20:=q.2.1
 have U:1≤dcn m:=q.1
 have M:(-m==0)=false:=by simp;omega
 clear q
 go_enter Tryz.func163,Tryz.ntmps163
 go_wp2
 go_loopw [0,3,5] (fun a o _ wr=>∃k:Nat,k≤dcn m∧a= .int .i64 (-(m/10^k))∧o= .string (strOfNums (dgk m k))∧Below w.heap.size w wr) (fun a _ _ _=>(-(intOf a)).toNat)
 case atStart=>exact⟨0,by omega,by simp,rfl,Below.refl _ _⟩
 case round=>
  obtain⟨k,X,rfl,rfl,j⟩:=hrel
  have I:=zd9 m k (by omega)
  have z:=zgJ m (by omega) (by omega) k
  have L:(strOfNums (dgk m k)).size≤20:=by rw[strOfNums_size,zcd];omega
  by_cases n:m/10^k=0
  ·have D: ¬(k<dcn m):=fun h=>z.2 h n
   have A:(-(m/10^k) !=0)=false:=by simpa using n
   have H:(strOfNums [45]).size=1:=strOfNums_size [45]
   clear z n
   go_wp2
   go_ret
   exact⟨zaF (by rw[show dcn m=k from by omega];exact zeH 45 _),j⟩
  ·have D:=z.1 n
   have A:(-(m/10^k) !=0)=true:=by simpa using n
   have N:0<m/10^k:=by omega
   clear z n
   have V:=neg_tmod (m/10^k) I.1
   have Y:=neg_tdiv (m/10^k) I.1
   have K:=fun (w:World) (x:Int)=>zg8 (P:=Tryz.prog) (src:=44) (dst:=9) Tryz.underlying44 Tryz.underlying5 Tryz.underlying9 w x
   have E:=fun x=>strOfNums_size [x]
   by_cases q:0<m/10^k%10
   ·go_wp2
    go_roundw
    case rel=>exact⟨k+1,by omega,by rw[zd8],by rw[zeH];rfl,j.alloc j.size _⟩
    case measure=>simp[intOf];omega
   ·go_wp2
    go_roundw
    case rel=>exact⟨k+1,by omega,by rw[zd8],by rw[zeH,show 48+ -(m/10^k%10)=48+m/10^k%10 from by omega];rfl,j.alloc j.size _⟩
    case measure=>simp[intOf];omega
theorem zlR (n:Int) (w:World) (j: -9223372036854775808≤n∧n≤9223372036854775807):
  Calls Tryz.prog 163 #[.int .i64 n] w fun e o=>e= .returned (.string (strOfNums (zb2 n)))∧Below w.heap.size w o:=by
 by_cases h:0<n
 ·rw[zfB (by omega)]
  exact zlP n w h j.2
 ·by_cases z:n=0
  ·subst z
   have q:Hid (zb2 0=[48]):=by show zb2 0=[48];decide
   go_enter Tryz.func163,Tryz.ntmps163
   go_wp2
   go_ret
   exact⟨zaF (by rw[q.out];rfl),Below.refl _ _⟩
  ·obtain⟨m,rfl⟩: ∃m,n= -m:=⟨-n,by omega⟩
   rw[zfA (by omega),Int.neg_neg]
   exact zlQ m w (by omega) (by omega)
theorem zhP (k:Int) (w:World):Calls Tryz.prog 121 #[.int .i64 k] w fun e o=>e= .returned (.bool (zT k))∧o=w:=by
 cases j:(k==6) with
 |true=>
  have h:Hid (zT k=true):=by show _=_;rw[zT,j];rfl
  go_enter Tryz.func121,Tryz.ntmps121
  go_wp2
  go_ret
  exact⟨zl h.out.symm,rfl⟩
 |false=>
  cases n:(k==7) with
  |true=>
   have h:Hid (zT k=true):=by show _=_;rw[zT,j,n];rfl
   go_enter Tryz.func121,Tryz.ntmps121
   go_wp2
   go_ret
   exact⟨zl h.out.symm,rfl⟩
  |false=>
   have h:Hid (zT k=(k==8)):=by show _=_;rw[zT,j,n];simp
   go_enter Tryz.func121,Tryz.ntmps121
   go_wp2
   go_ret
   exact⟨zl h.out.symm,rfl⟩
theorem zgb (j:Nat) (S:Sv) (m:Md) (i:Nat) (w:World) (h:OwnMd w j S m) (z:i<m.ex.length):
  Calls Tryz.prog 165 #[zt S m,.int .i64 i] w fun e q=>e= .returned (.bool (zL (m.ex.getD i zf).kind))∧Below w.heap.size w q:=by
 obtain⟨g,hg,hlt,c0,-,-,-,-,-⟩:=h.expr z
 have A:(i:Int)<(m.ex.length:Int):=by omega
 unfold zt
 rw[hg]
 generalize (m.ex.getD i zf).kind=k at c0 ⊢
 clear h hg
 cases o:(k==6) with
 |true=>
  have n:Hid (zL k=true):=by show _=_;rw[zL,o];rfl
  go_enter Tryz.func165,Tryz.ntmps165
  go_wp2
  go_ret
  exact⟨zl n.out.symm,(Below.refl _ _).alloc (Nat.le_refl _) _⟩
 |false=>
  have n:Hid (zL k=(k==7)):=by show _=_;rw[zL,o];simp
  go_enter Tryz.func165,Tryz.ntmps165
  go_wp2
  go_ret
  exact⟨zl n.out.symm,(Below.refl _ _).alloc (Nat.le_refl _) _⟩
def zdP (base:Nat) (S:Sv) (m:Md) (n:Nat):Prop:=∀(i:Nat) (w:World),i<n→i<m.ex.length→OwnMd w base S m→wt m.ex i≤1099511627776→
 Calls Tryz.prog 123 #[zt S m,.int .i64 i] w fun e w'=>e= .returned (.string (prX m.ex i))∧Below w.heap.size w w'
theorem zfj (j:Nat) (S:Sv) (m:Md) (n i:Nat) (b:Bool) (w:World) (E:zdP j S m n) (I:i<n) (H:i<m.ex.length) (h:OwnMd w j S m) (z:wt m.ex i≤1099511627776):
  Calls Tryz.prog 164 #[zt S m,.int .i64 i,.bool b] w fun e N=>e= .returned (.string (zC b (prX m.ex i)))∧Below w.heap.size w N:=by
 have L:=zc E
 have K:=zc h
 have M:=zc z
 unfold wt at z
 clear E h
 unfold zt
 cases b with
 |true=>
  have q:Hid (zC true (prX m.ex i)=zm++prX m.ex i++zay):=rfl
  go_enter Tryz.func164,Tryz.ntmps164
  go_wp2_with fail
  refine (L.out i _ I H (K.out.alloc _) M.out).mono ?_
  rintro e A ⟨rfl,o⟩
  have D:Hid (Below w.heap.size w A):=((Below.refl _ _).alloc (Nat.le_refl _) _).trans (o.mono (by rw[zj];omega))
  clear o
  generalize J:prX m.ex i=t at z q ⊢
  have O:=zc J
  clear J
  go_wp2
  go_ret
  exact⟨zaF (by rw[O.out];exact q.out.symm),D.out⟩
 |false=>
  have q:Hid (zC false (prX m.ex i)=prX m.ex i):=rfl
  go_enter Tryz.func164,Tryz.ntmps164
  go_wp2_with fail
  refine (L.out i _ I H (K.out.alloc _) M.out).mono ?_
  rintro e A ⟨rfl,o⟩
  have D:Hid (Below w.heap.size w A):=((Below.refl _ _).alloc (Nat.le_refl _) _).trans (o.mono (by rw[zj];omega))
  clear o
  go_wp2
  go_ret
  exact⟨zaF q.out.symm,D.out⟩
theorem zlS (g:Nat) (S:Sv) (m:Md) (i:Nat) (k h l r:Int) (D H:ByteArray) (w:World) (j:S.ex.a=some ⟨g,0,none⟩) (J:i<m.ex.length) (E:g<w.heap.size) (L:w.cell? ⟨g,i*6,none⟩=some (.int .i64 k)) (N:w.cell? ⟨g,i*6+1,none⟩=some (.int .i64 h)) (M:w.cell? ⟨g,i*6+2,none⟩=some (.string D)) (c3:w.cell? ⟨g,i*6+3,none⟩=some (.string H)) (c4:w.cell? ⟨g,i*6+4,none⟩=some (.int .i64 l)) (c5:w.cell? ⟨g,i*6+5,none⟩=some (.int .i64 r)) (K:(k==1)=true) (n: -9223372036854775808≤h∧h≤9223372036854775807):
  Calls Tryz.prog 123 #[zt S m,.int .i64 i] w fun e z=>e= .returned (.string (strOfNums (zb2 h)))∧Below w.heap.size w z:=by
 have A:(i:Int)<(m.ex.length:Int):=by omega
 unfold zt
 rw[j]
 clear j
 go_enter Tryz.func123,Tryz.ntmps123
 go_wp2_with fail
 refine (zlR h _ n).mono ?_
 rintro e q ⟨rfl,o⟩
 have I:Hid (Below w.heap.size w q):=(zaM w _ _).trans (o.mono (by rw[zj,zj];omega))
 clear o
 go_wp2
 go_ret
 exact⟨rfl,I.out⟩
theorem zlT (g:Nat) (S:Sv) (m:Md) (i:Nat) (k q l r:Int) (j A:ByteArray) (w:World) (h:S.ex.a=some ⟨g,0,none⟩) (D:i<m.ex.length) (z:g<w.heap.size) (I:w.cell? ⟨g,i*6,none⟩=some (.int .i64 k)) (K:w.cell? ⟨g,i*6+1,none⟩=some (.int .i64 q)) (H:w.cell? ⟨g,i*6+2,none⟩=some (.string j)) (c3:w.cell? ⟨g,i*6+3,none⟩=some (.string A)) (c4:w.cell? ⟨g,i*6+4,none⟩=some (.int .i64 l)) (c5:w.cell? ⟨g,i*6+5,none⟩=some (.int .i64 r)) (E:(k==1)=false) (J:(k==2)=true):
  Calls Tryz.prog 123 #[zt S m,.int .i64 i] w fun e n=>e= .returned (.string (j))∧Below w.heap.size w n:=by
 have o:(i:Int)<(m.ex.length:Int):=by omega
 unfold zt
 rw[h]
 clear h
 go_enter Tryz.func123,Tryz.ntmps123
 go_wp2
 go_ret
 exact⟨rfl,((Below.refl _ _).alloc (Nat.le_refl _) _).alloc (by show _≤(w.heap.push _).size;simp) _⟩
theorem zlU (g:Nat) (S:Sv) (m:Md) (i:Nat) (k A l r:Int) (n H:ByteArray) (w:World) (h:S.ex.a=some ⟨g,0,none⟩) (J:i<m.ex.length) (E:g<w.heap.size) (M:w.cell? ⟨g,i*6,none⟩=some (.int .i64 k)) (O:w.cell? ⟨g,i*6+1,none⟩=some (.int .i64 A)) (L:w.cell? ⟨g,i*6+2,none⟩=some (.string n)) (c3:w.cell? ⟨g,i*6+3,none⟩=some (.string H)) (c4:w.cell? ⟨g,i*6+4,none⟩=some (.int .i64 l)) (c5:w.cell? ⟨g,i*6+5,none⟩=some (.int .i64 r)) (K:(k==1)=false) (N:(k==2)=false) (I:(k==3)=true) (j:(n++cParens).size≤1099511627776):
  Calls Tryz.prog 123 #[zt S m,.int .i64 i] w fun e q=>e= .returned (.string (n++cParens))∧Below w.heap.size w q:=by
 have z:(i:Int)<(m.ex.length:Int):=by omega
 unfold zt
 rw[h]
 clear h
 simp only[ByteArray.size_append] at j
 have o:cParens.size=2:=rfl
 have D:n.size≤1099511627776:=by omega
 clear j o
 go_enter Tryz.func123,Tryz.ntmps123
 go_wp2
 go_ret
 exact⟨rfl,((Below.refl _ _).alloc (Nat.le_refl _) _).alloc (by show _≤(w.heap.push _).size;simp) _⟩
theorem zlV (g:Nat) (S:Sv) (m:Md) (i:Nat) (k A l r:Int) (n o:ByteArray) (w:World) (j:S.ex.a=some ⟨g,0,none⟩) (L:i<m.ex.length) (I:g<w.heap.size) (M:w.cell? ⟨g,i*6,none⟩=some (.int .i64 k)) (V:w.cell? ⟨g,i*6+1,none⟩=some (.int .i64 A)) (N:w.cell? ⟨g,i*6+2,none⟩=some (.string n)) (c3:w.cell? ⟨g,i*6+3,none⟩=some (.string o)) (c4:w.cell? ⟨g,i*6+4,none⟩=some (.int .i64 l)) (c5:w.cell? ⟨g,i*6+5,none⟩=some (.int .i64 r)) (U:(k==1)=false) (O:(k==2)=false) (K:(k==3)=false) (J:(k==4)=true) (h:(n++cPoint++o).size≤1099511627776):
  Calls Tryz.prog 123 #[zt S m,.int .i64 i] w fun e H=>e= .returned (.string (n++cPoint++o))∧Below w.heap.size w H:=by
 have z:(i:Int)<(m.ex.length:Int):=by omega
 unfold zt
 rw[j]
 clear j
 simp only[ByteArray.size_append] at h
 have q:cPoint.size=1:=rfl
 have D:n.size≤1099511627776:=by omega
 have E:o.size≤1099511627776:=by omega
 clear h q
 go_enter Tryz.func123,Tryz.ntmps123
 go_wp2
 go_ret
 exact⟨rfl,((Below.refl _ _).alloc (Nat.le_refl _) _).alloc (by show _≤(w.heap.push _).size;simp) _⟩
theorem zlW (g:Nat) (S:Sv) (m:Md) (i:Nat) (k D l r:Int) (n o:ByteArray) (w:World) (j:S.ex.a=some ⟨g,0,none⟩) (M:i<m.ex.length) (J:g<w.heap.size) (O:w.cell? ⟨g,i*6,none⟩=some (.int .i64 k)) (Y:w.cell? ⟨g,i*6+1,none⟩=some (.int .i64 D)) (U:w.cell? ⟨g,i*6+2,none⟩=some (.string n)) (c3:w.cell? ⟨g,i*6+3,none⟩=some (.string o)) (c4:w.cell? ⟨g,i*6+4,none⟩=some (.int .i64 l)) (c5:w.cell? ⟨g,i*6+5,none⟩=some (.int .i64 r)) (X:(k==1)=false) (V:(k==2)=false) (L:(k==3)=false) (K:(k==4)=false) (N:(k==5)=true) (h:(n++cPoint++o++cParens).size≤1099511627776):
  Calls Tryz.prog 123 #[zt S m,.int .i64 i] w fun e I=>e= .returned (.string (n++cPoint++o++cParens))∧Below w.heap.size w I:=by
 have A:(i:Int)<(m.ex.length:Int):=by omega
 unfold zt
 rw[j]
 clear j
 simp only[ByteArray.size_append] at h
 have z:cParens.size=2:=rfl
 have q:cPoint.size=1:=rfl
 have E:n.size≤1099511627776:=by omega
 have H:o.size≤1099511627776:=by omega
 clear h z q
 go_enter Tryz.func123,Tryz.ntmps123
 go_wp2
 go_ret
 exact⟨rfl,((Below.refl _ _).alloc (Nat.le_refl _) _).alloc (by show _≤(w.heap.push _).size;simp) _⟩
theorem zlX (g:Nat) (S:Sv) (m:Md) (i:Nat) (k n l r:Int) (o z:ByteArray) (w:World) (h:S.ex.a=some ⟨g,0,none⟩) (H:i<m.ex.length) (A:g<w.heap.size) (K:w.cell? ⟨g,i*6,none⟩=some (.int .i64 k)) (U:w.cell? ⟨g,i*6+1,none⟩=some (.int .i64 n)) (J:w.cell? ⟨g,i*6+2,none⟩=some (.string o)) (c3:w.cell? ⟨g,i*6+3,none⟩=some (.string z)) (c4:w.cell? ⟨g,i*6+4,none⟩=some (.int .i64 l)) (c5:w.cell? ⟨g,i*6+5,none⟩=some (.int .i64 r)) (O:(k==1)=false) (N:(k==2)=false) (E:(k==3)=false) (D:(k==4)=false) (I:(k==5)=false) (V:(k==6)=false) (L:(k==7)=false) (M:(k==8)=false):
  Calls Tryz.prog 123 #[zt S m,.int .i64 i] w fun e q=>e= .returned (.string (sNone))∧Below w.heap.size w q:=by
 have j:(i:Int)<(m.ex.length:Int):=by omega
 unfold zt
 rw[h]
 clear h
 go_enter Tryz.func123,Tryz.ntmps123
 go_wp2
 go_ret
 exact⟨rfl,((Below.refl _ _).alloc (Nat.le_refl _) _).alloc (by show _≤(w.heap.push _).size;simp) _⟩
theorem zlY (o g:Nat) (S:Sv) (m:Md) (i n j:Nat) (k q:Int) (z A:ByteArray) (w:World) (I:S.ex.a=some ⟨g,0,none⟩) (h:OwnMd w o S m) (hi:i<m.ex.length) (af:g<w.heap.size) (c0:w.cell? ⟨g,i*6,none⟩=some (.int .i64 k)) (c1:w.cell? ⟨g,i*6+1,none⟩=some (.int .i64 q)) (c2:w.cell? ⟨g,i*6+2,none⟩=some (.string z)) (c3:w.cell? ⟨g,i*6+3,none⟩=some (.string A)) (c4:w.cell? ⟨g,i*6+4,none⟩=some (.int .i64 (n:Int))) (c5:w.cell? ⟨g,i*6+5,none⟩=some (.int .i64 (j:Int))) (k1:(k==1)=false) (k2:(k==2)=false) (k3:(k==3)=false) (k4:(k==4)=false) (k5:(k==5)=false) (k6:(k==6)=true) (N:(prX m.ex n++tPlus++zC (zL (m.ex.getD j zf).kind) (prX m.ex j)).size≤1099511627776) (he:zdP o S m i) (hl:n<i) (hr:j<i) (ab:wt m.ex n≤1099511627776) (aa:wt m.ex j≤1099511627776):
  Calls Tryz.prog 123 #[zt S m,.int .i64 i] w fun e w'=>e= .returned (.string (prX m.ex n++tPlus++zC (zL (m.ex.getD j zf).kind) (prX m.ex j)))∧Below w.heap.size w w':=by
 have ah:(i:Int)<(m.ex.length:Int):=by omega
 have HA:Hid (OwnMd ((w.alloc (.cells #[.slice S.rq.a m.rq.length S.rq.cap,.slice S.im.a m.im.length S.im.cap,.slice S.ep.a m.ep.length S.ep.cap,.slice S.st.a m.st.length S.st.cap,.slice (some ⟨g,0,none⟩) m.ex.length S.ex.cap] 28)).alloc (.cells #[.int .i64 k,.int .i64 q,.string z,.string A,.int .i64 (n:Int),.int .i64 (j:Int)] 108)) o S m):=(h.alloc _).alloc _
 have HE:=zc he
 have H:Hid (zt S m= .agg #[.slice S.rq.a m.rq.length S.rq.cap,.slice S.im.a m.im.length S.im.cap,.slice S.ep.a m.ep.length S.ep.cap,.slice S.st.a m.st.length S.st.cap,.slice (some ⟨g,0,none⟩) m.ex.length S.ex.cap]):=by show _=_;rw[zt,I]
 have ak:(n:Int)<(m.ex.length:Int):=by omega
 have al:(j:Int)<(m.ex.length:Int):=by omega
 obtain⟨g2,hg2,-,d0,-,-,-,-,-⟩:=h.expr (i:=j) (by omega)
 have eg:g2=g:=by have:=hg2.symm.trans I;simpa using this
 rw[eg] at d0
 obtain⟨kr,O⟩: ∃kr,(m.ex.getD j zf).kind=kr:=⟨_,rfl⟩
 rw[O] at d0
 have V:=zc O
 obtain⟨Z,M⟩: ∃Z,prX m.ex n=Z:=⟨_,rfl⟩
 obtain⟨tr,U⟩: ∃tr,zC (zL (m.ex.getD j zf).kind) (prX m.ex j)=tr:=⟨_,rfl⟩
 rw[M,U] at N
 have L:=zc M
 have K:=zc U
 have cL: ∀d E,Calls Tryz.prog 123 #[.agg #[.slice S.rq.a m.rq.length S.rq.cap,.slice S.im.a m.im.length S.im.cap,.slice S.ep.a m.ep.length S.ep.cap,.slice S.st.a m.st.length S.st.cap,.slice (some ⟨g,0,none⟩) m.ex.length S.ex.cap],.int .i64 (n:Int)] (grow (redrawn ((w.alloc (.cells #[.slice S.rq.a m.rq.length S.rq.cap,.slice S.im.a m.im.length S.im.cap,.slice S.ep.a m.ep.length S.ep.cap,.slice S.st.a m.st.length S.st.cap,.slice (some ⟨g,0,none⟩) m.ex.length S.ex.cap] 28)).alloc (.cells #[.int .i64 k,.int .i64 q,.string z,.string A,.int .i64 (n:Int),.int .i64 (j:Int)] 108)) d) E) fun e D=>e= .returned (.string Z)∧∃p:Regrown,D=grow (redrawn ((w.alloc (.cells #[.slice S.rq.a m.rq.length S.rq.cap,.slice S.im.a m.im.length S.im.cap,.slice S.ep.a m.ep.length S.ep.cap,.slice S.st.a m.st.length S.st.cap,.slice (some ⟨g,0,none⟩) m.ex.length S.ex.cap] 28)).alloc (.cells #[.int .i64 k,.int .i64 q,.string z,.string A,.int .i64 (n:Int),.int .i64 (j:Int)] 108)) p.d) p.os:=fun d E=>Calls.regrown_of (by rw[←H.out,←L.out];exact HE.out n _ (by omega) (by omega) (HA.out.later (below_regrown _ d E)) ab)
 have cS: ∀d E,Calls Tryz.prog 165 #[.agg #[.slice S.rq.a m.rq.length S.rq.cap,.slice S.im.a m.im.length S.im.cap,.slice S.ep.a m.ep.length S.ep.cap,.slice S.st.a m.st.length S.st.cap,.slice (some ⟨g,0,none⟩) m.ex.length S.ex.cap],.int .i64 (j:Int)] (grow (redrawn ((w.alloc (.cells #[.slice S.rq.a m.rq.length S.rq.cap,.slice S.im.a m.im.length S.im.cap,.slice S.ep.a m.ep.length S.ep.cap,.slice S.st.a m.st.length S.st.cap,.slice (some ⟨g,0,none⟩) m.ex.length S.ex.cap] 28)).alloc (.cells #[.int .i64 k,.int .i64 q,.string z,.string A,.int .i64 (n:Int),.int .i64 (j:Int)] 108)) d) E) fun e D=>e= .returned (.bool (zL kr))∧∃p:Regrown,D=grow (redrawn ((w.alloc (.cells #[.slice S.rq.a m.rq.length S.rq.cap,.slice S.im.a m.im.length S.im.cap,.slice S.ep.a m.ep.length S.ep.cap,.slice S.st.a m.st.length S.st.cap,.slice (some ⟨g,0,none⟩) m.ex.length S.ex.cap] 28)).alloc (.cells #[.int .i64 k,.int .i64 q,.string z,.string A,.int .i64 (n:Int),.int .i64 (j:Int)] 108)) p.d) p.os:=fun d E=>Calls.regrown_of (by rw[←H.out,←V.out];exact zgb o S m j _ (HA.out.later (below_regrown _ d E)) (by omega))
 have cR: ∀d E,Calls Tryz.prog 164 #[.agg #[.slice S.rq.a m.rq.length S.rq.cap,.slice S.im.a m.im.length S.im.cap,.slice S.ep.a m.ep.length S.ep.cap,.slice S.st.a m.st.length S.st.cap,.slice (some ⟨g,0,none⟩) m.ex.length S.ex.cap],.int .i64 (j:Int),.bool (zL kr)] (grow (redrawn ((w.alloc (.cells #[.slice S.rq.a m.rq.length S.rq.cap,.slice S.im.a m.im.length S.im.cap,.slice S.ep.a m.ep.length S.ep.cap,.slice S.st.a m.st.length S.st.cap,.slice (some ⟨g,0,none⟩) m.ex.length S.ex.cap] 28)).alloc (.cells #[.int .i64 k,.int .i64 q,.string z,.string A,.int .i64 (n:Int),.int .i64 (j:Int)] 108)) d) E) fun e D=>e= .returned (.string tr)∧∃p:Regrown,D=grow (redrawn ((w.alloc (.cells #[.slice S.rq.a m.rq.length S.rq.cap,.slice S.im.a m.im.length S.im.cap,.slice S.ep.a m.ep.length S.ep.cap,.slice S.st.a m.st.length S.st.cap,.slice (some ⟨g,0,none⟩) m.ex.length S.ex.cap] 28)).alloc (.cells #[.int .i64 k,.int .i64 q,.string z,.string A,.int .i64 (n:Int),.int .i64 (j:Int)] 108)) p.d) p.os:=fun d E=>Calls.regrown_of (by rw[←H.out,←K.out,V.out];exact zfj o S m i j _ _ HE.out (by omega) (by omega) (HA.out.later (below_regrown _ d E)) aa)
 have X:Hid (Six ((w.alloc (.cells #[.slice S.rq.a m.rq.length S.rq.cap,.slice S.im.a m.im.length S.im.cap,.slice S.ep.a m.ep.length S.ep.cap,.slice S.st.a m.st.length S.st.cap,.slice (some ⟨g,0,none⟩) m.ex.length S.ex.cap] 28)).alloc (.cells #[.int .i64 k,.int .i64 q,.string z,.string A,.int .i64 (n:Int),.int .i64 (j:Int)] 108)) (w.heap.size+1) (.int .i64 k) (.int .i64 q) (.string z) (.string A) (.int .i64 (n:Int)) (.int .i64 (j:Int))):=zu (zbj w _ _)
 have Y:=zc (zk (zce (o':=.cells #[.int .i64 k,.int .i64 q,.string z,.string A,.int .i64 (n:Int),.int .i64 (j:Int)] 108) (heap_alloc_new w (.cells #[.slice S.rq.a m.rq.length S.rq.cap,.slice S.im.a m.im.length S.im.cap,.slice S.ep.a m.ep.length S.ep.cap,.slice S.st.a m.st.length S.st.cap,.slice (some ⟨g,0,none⟩) m.ex.length S.ex.cap] 28))))
 have D0:Hid (((w.alloc (.cells #[.slice S.rq.a m.rq.length S.rq.cap,.slice S.im.a m.im.length S.im.cap,.slice S.ep.a m.ep.length S.ep.cap,.slice S.st.a m.st.length S.st.cap,.slice (some ⟨g,0,none⟩) m.ex.length S.ex.cap] 28)).alloc (.cells #[.int .i64 k,.int .i64 q,.string z,.string A,.int .i64 (n:Int),.int .i64 (j:Int)] 108)).cell? ⟨g,j*6,none⟩=some (.int .i64 kr)):=by show _=_;rw[World.cell?_alloc_past _ _ _ (by rw[zj];omega),World.cell?_alloc_past _ _ _ af];exact d0
 simp only[ByteArray.size_append] at N
 have ae:tPlus.size=3:=rfl
 have aj:Z.size≤1099511627776:=by omega
 have ag:tr.size≤1099511627776:=by omega
 have HV:Hid ((prX m.ex n++tPlus++zC (zL (m.ex.getD j zf).kind) (prX m.ex j))=Z++tPlus++tr):=by show _=_;rw[L.out,K.out]
 unfold zt
 rw[I]
 clear I h HA HE H L K M U O V hg2 he N ae d0 eg
 go_enter Tryz.func123,Tryz.ntmps123
 go_wp2_with fail
 have x0:=cell_regrown X.out.c0
 have x4:=cell_regrown X.out.c4
 have x5:=cell_regrown X.out.c5
 have y0:=cell_regrown Y.out.1
 have y1:=cell_regrown Y.out.2.1
 have y2:=cell_regrown Y.out.2.2.1
 have y3:=cell_regrown Y.out.2.2.2.1
 have y4:=cell_regrown Y.out.2.2.2.2.1
 have e0:=cell_regrown D0.out
 refine wp_region_quiet_below (by kernel_rfl) (by kernel_rfl) ?_
 repeat (go_big_quiet_step (first|with_reducible exact cL _ _|with_reducible exact cS _ _|with_reducible exact cR _ _))
 refine wpQuiet_nil ?_
 intro w1 ac
 obtain⟨⟨dq,ai⟩,J⟩:=ac
 have ad:Hid (Below w.heap.size w w1):=by show Below _ _ _;rw[J];exact (zaM w _ _).trans ((below_regrown _ _ _).mono (by rw[zj,zj];omega))
 clear J
 go_wp2
 go_ret
 exact⟨zaF HV.out.symm,ad.out⟩
theorem zlZ (o g:Nat) (S:Sv) (m:Md) (i n j:Nat) (k q:Int) (z A:ByteArray) (w:World) (I:S.ex.a=some ⟨g,0,none⟩) (h:OwnMd w o S m) (hi:i<m.ex.length) (af:g<w.heap.size) (c0:w.cell? ⟨g,i*6,none⟩=some (.int .i64 k)) (c1:w.cell? ⟨g,i*6+1,none⟩=some (.int .i64 q)) (c2:w.cell? ⟨g,i*6+2,none⟩=some (.string z)) (c3:w.cell? ⟨g,i*6+3,none⟩=some (.string A)) (c4:w.cell? ⟨g,i*6+4,none⟩=some (.int .i64 (n:Int))) (c5:w.cell? ⟨g,i*6+5,none⟩=some (.int .i64 (j:Int))) (k1:(k==1)=false) (k2:(k==2)=false) (k3:(k==3)=false) (k4:(k==4)=false) (k5:(k==5)=false) (k6:(k==6)=false) (k7:(k==7)=true) (N:(prX m.ex n++tMinus++zC (zL (m.ex.getD j zf).kind) (prX m.ex j)).size≤1099511627776) (he:zdP o S m i) (hl:n<i) (hr:j<i) (ab:wt m.ex n≤1099511627776) (aa:wt m.ex j≤1099511627776):
  Calls Tryz.prog 123 #[zt S m,.int .i64 i] w fun e w'=>e= .returned (.string (prX m.ex n++tMinus++zC (zL (m.ex.getD j zf).kind) (prX m.ex j)))∧Below w.heap.size w w':=by
 have ah:(i:Int)<(m.ex.length:Int):=by omega
 have HA:Hid (OwnMd ((w.alloc (.cells #[.slice S.rq.a m.rq.length S.rq.cap,.slice S.im.a m.im.length S.im.cap,.slice S.ep.a m.ep.length S.ep.cap,.slice S.st.a m.st.length S.st.cap,.slice (some ⟨g,0,none⟩) m.ex.length S.ex.cap] 28)).alloc (.cells #[.int .i64 k,.int .i64 q,.string z,.string A,.int .i64 (n:Int),.int .i64 (j:Int)] 108)) o S m):=(h.alloc _).alloc _
 have HE:=zc he
 have H:Hid (zt S m= .agg #[.slice S.rq.a m.rq.length S.rq.cap,.slice S.im.a m.im.length S.im.cap,.slice S.ep.a m.ep.length S.ep.cap,.slice S.st.a m.st.length S.st.cap,.slice (some ⟨g,0,none⟩) m.ex.length S.ex.cap]):=by show _=_;rw[zt,I]
 have ak:(n:Int)<(m.ex.length:Int):=by omega
 have al:(j:Int)<(m.ex.length:Int):=by omega
 obtain⟨g2,hg2,-,d0,-,-,-,-,-⟩:=h.expr (i:=j) (by omega)
 have eg:g2=g:=by have:=hg2.symm.trans I;simpa using this
 rw[eg] at d0
 obtain⟨kr,O⟩: ∃kr,(m.ex.getD j zf).kind=kr:=⟨_,rfl⟩
 rw[O] at d0
 have V:=zc O
 obtain⟨Z,M⟩: ∃Z,prX m.ex n=Z:=⟨_,rfl⟩
 obtain⟨tr,U⟩: ∃tr,zC (zL (m.ex.getD j zf).kind) (prX m.ex j)=tr:=⟨_,rfl⟩
 rw[M,U] at N
 have L:=zc M
 have K:=zc U
 have cL: ∀d E,Calls Tryz.prog 123 #[.agg #[.slice S.rq.a m.rq.length S.rq.cap,.slice S.im.a m.im.length S.im.cap,.slice S.ep.a m.ep.length S.ep.cap,.slice S.st.a m.st.length S.st.cap,.slice (some ⟨g,0,none⟩) m.ex.length S.ex.cap],.int .i64 (n:Int)] (grow (redrawn ((w.alloc (.cells #[.slice S.rq.a m.rq.length S.rq.cap,.slice S.im.a m.im.length S.im.cap,.slice S.ep.a m.ep.length S.ep.cap,.slice S.st.a m.st.length S.st.cap,.slice (some ⟨g,0,none⟩) m.ex.length S.ex.cap] 28)).alloc (.cells #[.int .i64 k,.int .i64 q,.string z,.string A,.int .i64 (n:Int),.int .i64 (j:Int)] 108)) d) E) fun e D=>e= .returned (.string Z)∧∃p:Regrown,D=grow (redrawn ((w.alloc (.cells #[.slice S.rq.a m.rq.length S.rq.cap,.slice S.im.a m.im.length S.im.cap,.slice S.ep.a m.ep.length S.ep.cap,.slice S.st.a m.st.length S.st.cap,.slice (some ⟨g,0,none⟩) m.ex.length S.ex.cap] 28)).alloc (.cells #[.int .i64 k,.int .i64 q,.string z,.string A,.int .i64 (n:Int),.int .i64 (j:Int)] 108)) p.d) p.os:=fun d E=>Calls.regrown_of (by rw[←H.out,←L.out];exact HE.out n _ (by omega) (by omega) (HA.out.later (below_regrown _ d E)) ab)
 have cS: ∀d E,Calls Tryz.prog 165 #[.agg #[.slice S.rq.a m.rq.length S.rq.cap,.slice S.im.a m.im.length S.im.cap,.slice S.ep.a m.ep.length S.ep.cap,.slice S.st.a m.st.length S.st.cap,.slice (some ⟨g,0,none⟩) m.ex.length S.ex.cap],.int .i64 (j:Int)] (grow (redrawn ((w.alloc (.cells #[.slice S.rq.a m.rq.length S.rq.cap,.slice S.im.a m.im.length S.im.cap,.slice S.ep.a m.ep.length S.ep.cap,.slice S.st.a m.st.length S.st.cap,.slice (some ⟨g,0,none⟩) m.ex.length S.ex.cap] 28)).alloc (.cells #[.int .i64 k,.int .i64 q,.string z,.string A,.int .i64 (n:Int),.int .i64 (j:Int)] 108)) d) E) fun e D=>e= .returned (.bool (zL kr))∧∃p:Regrown,D=grow (redrawn ((w.alloc (.cells #[.slice S.rq.a m.rq.length S.rq.cap,.slice S.im.a m.im.length S.im.cap,.slice S.ep.a m.ep.length S.ep.cap,.slice S.st.a m.st.length S.st.cap,.slice (some ⟨g,0,none⟩) m.ex.length S.ex.cap] 28)).alloc (.cells #[.int .i64 k,.int .i64 q,.string z,.string A,.int .i64 (n:Int),.int .i64 (j:Int)] 108)) p.d) p.os:=fun d E=>Calls.regrown_of (by rw[←H.out,←V.out];exact zgb o S m j _ (HA.out.later (below_regrown _ d E)) (by omega))
 have cR: ∀d E,Calls Tryz.prog 164 #[.agg #[.slice S.rq.a m.rq.length S.rq.cap,.slice S.im.a m.im.length S.im.cap,.slice S.ep.a m.ep.length S.ep.cap,.slice S.st.a m.st.length S.st.cap,.slice (some ⟨g,0,none⟩) m.ex.length S.ex.cap],.int .i64 (j:Int),.bool (zL kr)] (grow (redrawn ((w.alloc (.cells #[.slice S.rq.a m.rq.length S.rq.cap,.slice S.im.a m.im.length S.im.cap,.slice S.ep.a m.ep.length S.ep.cap,.slice S.st.a m.st.length S.st.cap,.slice (some ⟨g,0,none⟩) m.ex.length S.ex.cap] 28)).alloc (.cells #[.int .i64 k,.int .i64 q,.string z,.string A,.int .i64 (n:Int),.int .i64 (j:Int)] 108)) d) E) fun e D=>e= .returned (.string tr)∧∃p:Regrown,D=grow (redrawn ((w.alloc (.cells #[.slice S.rq.a m.rq.length S.rq.cap,.slice S.im.a m.im.length S.im.cap,.slice S.ep.a m.ep.length S.ep.cap,.slice S.st.a m.st.length S.st.cap,.slice (some ⟨g,0,none⟩) m.ex.length S.ex.cap] 28)).alloc (.cells #[.int .i64 k,.int .i64 q,.string z,.string A,.int .i64 (n:Int),.int .i64 (j:Int)] 108)) p.d) p.os:=fun d E=>Calls.regrown_of (by rw[←H.out,←K.out,V.out];exact zfj o S m i j _ _ HE.out (by omega) (by omega) (HA.out.later (below_regrown _ d E)) aa)
 have X:Hid (Six ((w.alloc (.cells #[.slice S.rq.a m.rq.length S.rq.cap,.slice S.im.a m.im.length S.im.cap,.slice S.ep.a m.ep.length S.ep.cap,.slice S.st.a m.st.length S.st.cap,.slice (some ⟨g,0,none⟩) m.ex.length S.ex.cap] 28)).alloc (.cells #[.int .i64 k,.int .i64 q,.string z,.string A,.int .i64 (n:Int),.int .i64 (j:Int)] 108)) (w.heap.size+1) (.int .i64 k) (.int .i64 q) (.string z) (.string A) (.int .i64 (n:Int)) (.int .i64 (j:Int))):=zu (zbj w _ _)
 have Y:=zc (zk (zce (o':=.cells #[.int .i64 k,.int .i64 q,.string z,.string A,.int .i64 (n:Int),.int .i64 (j:Int)] 108) (heap_alloc_new w (.cells #[.slice S.rq.a m.rq.length S.rq.cap,.slice S.im.a m.im.length S.im.cap,.slice S.ep.a m.ep.length S.ep.cap,.slice S.st.a m.st.length S.st.cap,.slice (some ⟨g,0,none⟩) m.ex.length S.ex.cap] 28))))
 have D0:Hid (((w.alloc (.cells #[.slice S.rq.a m.rq.length S.rq.cap,.slice S.im.a m.im.length S.im.cap,.slice S.ep.a m.ep.length S.ep.cap,.slice S.st.a m.st.length S.st.cap,.slice (some ⟨g,0,none⟩) m.ex.length S.ex.cap] 28)).alloc (.cells #[.int .i64 k,.int .i64 q,.string z,.string A,.int .i64 (n:Int),.int .i64 (j:Int)] 108)).cell? ⟨g,j*6,none⟩=some (.int .i64 kr)):=by show _=_;rw[World.cell?_alloc_past _ _ _ (by rw[zj];omega),World.cell?_alloc_past _ _ _ af];exact d0
 simp only[ByteArray.size_append] at N
 have ae:tMinus.size=3:=rfl
 have aj:Z.size≤1099511627776:=by omega
 have ag:tr.size≤1099511627776:=by omega
 have HV:Hid ((prX m.ex n++tMinus++zC (zL (m.ex.getD j zf).kind) (prX m.ex j))=Z++tMinus++tr):=by show _=_;rw[L.out,K.out]
 unfold zt
 rw[I]
 clear I h HA HE H L K M U O V hg2 he N ae d0 eg
 go_enter Tryz.func123,Tryz.ntmps123
 go_wp2_with fail
 have x0:=cell_regrown X.out.c0
 have x4:=cell_regrown X.out.c4
 have x5:=cell_regrown X.out.c5
 have y0:=cell_regrown Y.out.1
 have y1:=cell_regrown Y.out.2.1
 have y2:=cell_regrown Y.out.2.2.1
 have y3:=cell_regrown Y.out.2.2.2.1
 have y4:=cell_regrown Y.out.2.2.2.2.1
 have e0:=cell_regrown D0.out
 refine wp_region_quiet_below (by kernel_rfl) (by kernel_rfl) ?_
 repeat (go_big_quiet_step (first|with_reducible exact cL _ _|with_reducible exact cS _ _|with_reducible exact cR _ _))
 refine wpQuiet_nil ?_
 intro w1 ac
 obtain⟨⟨dq,ai⟩,J⟩:=ac
 have ad:Hid (Below w.heap.size w w1):=by show Below _ _ _;rw[J];exact (zaM w _ _).trans ((below_regrown _ _ _).mono (by rw[zj,zj];omega))
 clear J
 go_wp2
 go_ret
 exact⟨zaF HV.out.symm,ad.out⟩
def zaN (e:Ep):Im:=⟨sNone,e.loc,e.name⟩
def zbl (C:Cx) (exp:Bool) (q:PS):Except Nat (PS×Ep):=bd (zh C true q) fun a=>bd (asP C exp a) fun b=>.ok (b.1,⟨0,b.2,a.2,sNone⟩)
theorem zhQ (C:Cx) (h:Bool) (q:PS) (acc:List Ep):zav C h q acc=bd (zbl C h q) fun x=>
  if isT C x.1.pos 4 zbp then zav C h (adv x.1) (acc++[x.2]) else bd (zd C 4 zbd x.1) fun q'=>.ok (q',acc++[x.2]):=by
 rw[zeO,zbl,zK]
 refine zZ fun a _=>?_
 rw[zK]
 rfl
theorem zma {C:Cx} {q:PS} {a:PS×ByteArray} (j:zh C true q= .ok a) (h:isT C a.1.pos 1 sAs=true):zbl C false q=bd (zh C false (adv a.1)) fun b=>.ok (b.1,⟨0,b.2,a.2,sNone⟩):=by
 rw[zbl,j,zx,asP,if_pos h]
theorem zmb {C:Cx} {q:PS} {a:PS×ByteArray} (n:zh C true q= .ok a) (h:isT C a.1.pos 1 sAs=false) (j:(a.2.toList==[100,101,102,97,117,108,116])=true):zbl C false q= .error (zq C a.1.pos):=by
 rw[zbl,n,zx,asP,if_neg (by rw[h];decide),if_pos (by rw[j];rfl)]
 rfl
theorem zmc {C:Cx} {q:PS} {a:PS×ByteArray} (n:zh C true q= .ok a) (h:isT C a.1.pos 1 sAs=false) (j:(a.2.toList==[100,101,102,97,117,108,116])=false):zbl C false q= .ok (a.1,⟨0,a.2,a.2,sNone⟩):=by
 rw[zbl,n,zx,asP,if_neg (by rw[h];decide),if_neg (by rw[j];decide)]
 rfl
theorem zbt {w:World} {b:Nat} {t:TypeId} {j o n:Value} (h:w.heap[b]? =some (.cells #[j,o,n] t (0,0))):
  w.cell? ⟨b,0,none⟩=some j∧w.cell? ⟨b,1,none⟩=some o∧w.cell? ⟨b,2,none⟩=some n∧∀i,w.frozen? ⟨b,i,none⟩=false:=by
 refine⟨?_,?_,?_,fun i=>?_⟩<;>simp[World.cell?,World.frozen?,h]
theorem zhR {w:World} {b:Nat} {z A q o n j:Value} {t:TypeId} (h:w.heap[b]? =some (.cells #[z,A,q] t (0,0))):
  (((w.setCell ⟨b,0,none⟩ o).setCell ⟨b,1,none⟩ n).setCell ⟨b,2,none⟩ j).heap[b]? =some (.cells #[o,n,j] t (0,0)):=by
 have e:=zas (i:=2) (u:=j) (zas (i:=1) (u:=n) (zas (i:=0) (u:=o) h))
 rw[e]
 simp
theorem zmd (C:Cx) (J n j z:Nat) (S:Sv) (q:PS) (w:World) (h:IM C J n j z S q w):
  Calls Tryz.prog 197 #[.pointer (some ⟨z,0,none⟩)] w (zN C J n j z (zbl C false q) (·.1) (fun a=>imV (zaN a.2)) S w):=by
 have K:=zc h
 have E:w.heap.size≠z:=by have:=h.lt;omega
 have D:w.heap.size≠J:=by have:=(zak h.mem.tok).1;omega
 clear h
 go_enter Tryz.func197,Tryz.ntmps197
 go_wp2_with fail
 refine (zep C J n j z S q _ (K.out.alloc _)).mono ?_
 cases I:zh C true q with
 |error p=>
  rintro e w1 ⟨rfl,hb⟩
  have HB:Hid (Below j w w1):=(K.out.back ((IS.refl _ _ _).alloc _)).trans hb
  have L:Hid (zbl C false q= .error p):=by show _=_;rw[zbl,I];rfl
  unfold Pan
  go_wp2
  refine⟨rfl,?_⟩
  rw[L.out]
  exact⟨rfl,HB.out⟩
 |ok a=>
  rintro e w1 ⟨rfl,H,m,s⟩
  have N:=zc m
  have M:=zc s
  clear m s
  cases X:isT C a.1.pos 1 sAs with
  |true=>
   have HY:=zc (zma I X)
   go_wp2_with fail
   refine (zH C J n j z H a.1 1 sAs _ N.out (by decide)).mono ?_
   rintro e Y ⟨rfl,m,s⟩
   rw[X] at m ⊢
   have A:=zc m
   have o:Hid (IS z S (w.alloc (.cells #[.string sNone,.string sNone,.string sNone] 100)) H Y):=M.out.trans s
   clear m s
   go_wp2_with fail
   refine (zcM C J n j z H (adv a.1) _ A.out).mono ?_
   cases Z:zh C false (adv a.1) with
   |error p=>
    rintro e V ⟨rfl,hb⟩
    have HB:Hid (Below j w V):=(K.out.back o.out.from).trans hb
    have L:Hid (zbl C false q= .error p):=bdE HY.out Z
    unfold Pan
    go_wp2
    refine⟨rfl,?_⟩
    rw[L.out]
    exact⟨rfl,HB.out⟩
   |ok c=>
    rintro e V ⟨rfl,S3,m,s⟩
    have aa:=zc m
    have U:Hid (IS z S (w.alloc (.cells #[.string sNone,.string sNone,.string sNone] 100)) S3 V):=o.out.trans s
    clear m s
    have L:=zc (bdO HY.out Z)
    have HG:Hid (V.heap[w.heap.size]? =some (.cells #[.string sNone,.string sNone,.string sNone] 100 (0,0))):=IS.kept K.out U.out rfl
    have O:Hid (¬S3.has w.heap.size):=IS.free K.out U.out
    obtain⟨b0,b1,b2,bf⟩:=zbt HG.out
    go_wp2
    refine bodyPost_ret (results_cell_row rfl _ _ w.heap.size 100 _ (0,0) _ rfl (zhR HG.out) Tryz.underlying100 rfl (by kernel_rfl)) rfl ?_
    rw[L.out]
    exact⟨rfl,S3,((aa.out.set E D O.out _ _).set E D O.out _ _).set E D O.out _ _,((U.out.from.new (Nat.le_refl _) _ _).new (Nat.le_refl _) _ _).new (Nat.le_refl _) _ _⟩
  |false=>
   cases hd:(a.2.toList==[100,101,102,97,117,108,116]) with
   |true=>
    have HY:=zc (zmb I X hd)
    go_wp2_with fail
    refine (zH C J n j z H a.1 1 sAs _ N.out (by decide)).mono ?_
    rintro e Y ⟨rfl,m,s⟩
    rw[X] at m ⊢
    have A:=zc m
    have o:Hid (IS z S (w.alloc (.cells #[.string sNone,.string sNone,.string sNone] 100)) H Y):=M.out.trans s
    clear m s
    go_wp2_with fail
    refine (zdG C J n j z H a.1 _ A.out).mono ?_
    rintro e V ⟨rfl,hb⟩
    have HB:Hid (Below j w V):=(K.out.back o.out.from).trans (hb.mono A.out.mem.base)
    unfold Pan
    go_wp2
    refine⟨rfl,?_⟩
    rw[HY.out]
    exact⟨rfl,HB.out⟩
   |false=>
    have L:=zc (zmc I X hd)
    go_wp2_with fail
    refine (zH C J n j z H a.1 1 sAs _ N.out (by decide)).mono ?_
    rintro e Y ⟨rfl,m,s⟩
    rw[X] at m ⊢
    have A:=zc m
    have o:Hid (IS z S (w.alloc (.cells #[.string sNone,.string sNone,.string sNone] 100)) H Y):=M.out.trans s
    clear m s
    have HG:Hid (Y.heap[w.heap.size]? =some (.cells #[.string sNone,.string sNone,.string sNone] 100 (0,0))):=IS.kept K.out o.out rfl
    have O:Hid (¬H.has w.heap.size):=IS.free K.out o.out
    obtain⟨b0,b1,b2,bf⟩:=zbt HG.out
    go_wp2
    refine bodyPost_ret (results_cell_row rfl _ _ w.heap.size 100 _ (0,0) _ rfl (zhR HG.out) Tryz.underlying100 rfl (by kernel_rfl)) rfl ?_
    rw[L.out]
    exact⟨rfl,H,((A.out.set E D O.out _ _).set E D O.out _ _).set E D O.out _ _,((o.out.from.new (Nat.le_refl _) _ _).new (Nat.le_refl _) _ _).new (Nat.le_refl _) _ _⟩
end Go.Proofs.YticdggnnpjachaaGreat
