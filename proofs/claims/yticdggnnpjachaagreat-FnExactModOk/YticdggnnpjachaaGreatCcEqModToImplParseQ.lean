/-
  What impl's isSameMod answers: the walk.
  How often expressions are used,counted in a row of numbers. No program is spoken of.
  What impl.Dec and spec.Dec answer,at every number: the walks.
  What l5Two,l5Sum,l5Side and l5Expr of the specification answer: the walks.
  What importedName and importList of impl's parser answer: the walks.
-/
import Derived.Laws.StructEq
import Derived.Test.YticdggnnpjachaaGreatCcTwoModToSameSpec
namespace Go.Proofs.YticdggnnpjachaaGreat
set_option maxRecDepth 100000
set_option maxHeartbeats 12800000
open Go.RowKit Go.PlainAid Go.Sort
theorem zh9 (x y:Im) (w:World):Sem.run Tryz.prog (binOp .neq 100 (.agg #[.string x.spec,.string x.first,.string x.loc]) (.agg #[.string y.spec,.string y.first,.string y.loc])) w= .ok (.bool (!zc7 x y)) w:=by
 have z:=Tryz.underlying9
 have D:=Tryz.isAgg9
 have E:=Tryz.sizeOf9
 have A:=Tryz.underlying3
 have H:=Tryz.isAgg3
 have I:=Tryz.sizeOf3
 have q:Tryz.prog.underlying 100=some (.struct (Tryz.prog.fieldsOf 100)):=by kernel_rfl
 have j:Tryz.prog.stoodInHeld 100=false:=by kernel_rfl
 rw[run_neq_struct,show (10000:Nat)=9999+1 from rfl,run_equalIn_agg w 9999 100 _ _ q j]
 simp only[Program.fieldsOf,Tryz.underlying100]
 go_simp
 by_cases n:x.spec.toList=y.spec.toList<;>by_cases h:x.first.toList=y.first.toList<;>by_cases o:x.loc.toList=y.loc.toList<;>simp[zc7,n,h,o]
theorem zhA (h:BinOp) (a b:Operand) (x y:Im) (w:World):Sem.run Tryz.prog (eqGuard h 100 a b (.agg #[.string x.spec,.string x.first,.string x.loc]) (.agg #[.string y.spec,.string y.first,.string y.loc])) w= .ok () w:=run_eqGuard_agg w h 100 a b _ _ (by kernel_rfl)
theorem zhB (x y:Ep) (w:World):Sem.run Tryz.prog (binOp .neq 102 (.agg #[.int .i64 x.kind,.string x.name,.string x.loc,.string x.spec]) (.agg #[.int .i64 y.kind,.string y.name,.string y.loc,.string y.spec])) w= .ok (.bool (!zc8 x y)) w:=by
 have A:=Tryz.underlying9
 have E:=Tryz.isAgg9
 have H:=Tryz.sizeOf9
 have D:=Tryz.underlying3
 have I:=Tryz.isAgg3
 have J:=Tryz.sizeOf3
 have z:Tryz.prog.underlying 102=some (.struct (Tryz.prog.fieldsOf 102)):=by kernel_rfl
 have n:Tryz.prog.stoodInHeld 102=false:=by kernel_rfl
 rw[run_neq_struct,show (10000:Nat)=9999+1 from rfl,run_equalIn_agg w 9999 102 _ _ z n]
 simp only[Program.fieldsOf,Tryz.underlying102]
 go_simp
 by_cases j:x.kind=y.kind<;>by_cases h:x.name.toList=y.name.toList<;>by_cases q:x.loc.toList=y.loc.toList<;>by_cases o:x.spec.toList=y.spec.toList<;>simp[zc8,j,h,q,o]
theorem zhC (h:BinOp) (a b:Operand) (x y:Ep) (w:World):Sem.run Tryz.prog (eqGuard h 102 a b (.agg #[.int .i64 x.kind,.string x.name,.string x.loc,.string x.spec]) (.agg #[.int .i64 y.kind,.string y.name,.string y.loc,.string y.spec])) w= .ok () w:=run_eqGuard_agg w h 102 a b _ _ (by kernel_rfl)
theorem zhD (x y:Sm) (w:World):Sem.run Tryz.prog (binOp .neq 106 (.agg #[.int .i64 x.kind,.string x.name,.int .i64 x.expr]) (.agg #[.int .i64 y.kind,.string y.name,.int .i64 y.expr])) w= .ok (.bool (!zc9 x y)) w:=by
 have z:=Tryz.underlying9
 have D:=Tryz.isAgg9
 have E:=Tryz.sizeOf9
 have A:=Tryz.underlying3
 have H:=Tryz.isAgg3
 have I:=Tryz.sizeOf3
 have q:Tryz.prog.underlying 106=some (.struct (Tryz.prog.fieldsOf 106)):=by kernel_rfl
 have j:Tryz.prog.stoodInHeld 106=false:=by kernel_rfl
 rw[run_neq_struct,show (10000:Nat)=9999+1 from rfl,run_equalIn_agg w 9999 106 _ _ q j]
 simp only[Program.fieldsOf,Tryz.underlying106]
 go_simp
 by_cases n:x.kind=y.kind<;>by_cases h:x.name.toList=y.name.toList<;>by_cases o:x.expr=y.expr<;>simp[zc9,n,h,o]
theorem zhE (h:BinOp) (a b:Operand) (x y:Sm) (w:World):Sem.run Tryz.prog (eqGuard h 106 a b (.agg #[.int .i64 x.kind,.string x.name,.int .i64 x.expr]) (.agg #[.int .i64 y.kind,.string y.name,.int .i64 y.expr])) w= .ok () w:=run_eqGuard_agg w h 106 a b _ _ (by kernel_rfl)
theorem zhF (x y:Ex) (w:World):Sem.run Tryz.prog (binOp .neq 108 (.agg #[.int .i64 x.kind,.int .i64 x.num,.string x.name,.string x.field,.int .i64 x.l,.int .i64 x.r]) (.agg #[.int .i64 y.kind,.int .i64 y.num,.string y.name,.string y.field,.int .i64 y.l,.int .i64 y.r])) w= .ok (.bool (!zcA x y)) w:=by
 have E:=Tryz.underlying9
 have I:=Tryz.isAgg9
 have J:=Tryz.sizeOf9
 have H:=Tryz.underlying3
 have K:=Tryz.isAgg3
 have L:=Tryz.sizeOf3
 have D:Tryz.prog.underlying 108=some (.struct (Tryz.prog.fieldsOf 108)):=by kernel_rfl
 have o:Tryz.prog.stoodInHeld 108=false:=by kernel_rfl
 rw[run_neq_struct,show (10000:Nat)=9999+1 from rfl,run_equalIn_agg w 9999 108 _ _ D o]
 simp only[Program.fieldsOf,Tryz.underlying108]
 go_simp
 by_cases n:x.kind=y.kind<;>by_cases j:x.num=y.num<;>by_cases A:x.name.toList=y.name.toList<;>by_cases q:x.field.toList=y.field.toList<;>by_cases h:x.l=y.l<;>by_cases z:x.r=y.r<;>simp[zcA,n,j,A,q,h,z]
theorem zhG (h:BinOp) (a b:Operand) (x y:Ex) (w:World):Sem.run Tryz.prog (eqGuard h 108 a b (.agg #[.int .i64 x.kind,.int .i64 x.num,.string x.name,.string x.field,.int .i64 x.l,.int .i64 x.r]) (.agg #[.int .i64 y.kind,.int .i64 y.num,.string y.name,.string y.field,.int .i64 y.l,.int .i64 y.r])) w= .ok () w:=run_eqGuard_agg w h 108 a b _ _ (by kernel_rfl)
theorem zlG (X b2:Nat) (V U:Sv) (o L:Md) (w:World) (h1:OwnMd w X V o) (h2:OwnMd w b2 U L) (hf:zdM o):
  Calls Tryz.prog 51 #[zt V o,zt U L] w fun e w'=>zbR (o=L) e∧Below w.heap.size w w':=by
 have H1:=zc h1
 have H2:=zc h2
 have HF:=zc hf
 clear h1 h2 hf
 unfold zt
 go_enter Tryz.func51,Tryz.ntmps51
 go_upto_region 1 with fail
 refine zah (R:=TwoM w X b2 V U o L) (zfY w X b2 V U o L H1.out H2.out) ?_
 clear H1 H2
 intro w0 h
 have T0:=zc h
 clear h
 obtain⟨z,I,E,J,q,M⟩:=zk T0.out.1
 obtain⟨N,O,D,H,A,K⟩:=zk T0.out.2.1
 go_wp2_with fail
 refine (zlf X b2 V.rq U.rq o.rq L.rq w0 (by rw[←zdL];exact T0.out.2.2.1.rq) (by rw[←zdL];exact T0.out.2.2.2.1.rq) HF.out.1).mono ?_
 rintro e w1 ⟨⟨r,rfl,n⟩,j⟩
 have Y:=zc (T0.out.later j)
 have R0:=zc n
 clear j n z I E J q M N O D H A K
 obtain⟨z,I,E,J,q,M⟩:=zk Y.out.1
 obtain⟨N,O,D,H,A,K⟩:=zk Y.out.2.1
 cases r with
 |false=>
  go_wp2
  go_ret
  exact⟨⟨false,rfl,⟨fun k=>(by cases k),fun k=>(by have:=R0.out.2 (by rw[k]);cases this)⟩⟩,Y.out.2.2.2.2⟩
 |true=>
  go_wp2_with fail
  refine (zlj zh9 zhA X b2 V.im U.im o.im L.im w1 Y.out.2.2.1.im Y.out.2.2.2.1.im HF.out.2.1).mono ?_
  rintro e w2 ⟨⟨r,rfl,n⟩,j⟩
  have T2:=zc (Y.out.later j)
  have R1:=zc n
  clear j n z I E J q M N O D H A K
  obtain⟨z,I,E,J,q,M⟩:=zk T2.out.1
  obtain⟨N,O,D,H,A,K⟩:=zk T2.out.2.1
  cases r with
  |false=>
   go_wp2
   go_ret
   exact⟨⟨false,rfl,⟨fun k=>(by cases k),fun k=>(by have:=R1.out.2 (by rw[k]);cases this)⟩⟩,T2.out.2.2.2.2⟩
  |true=>
   go_wp2_with fail
   refine (zln zhB zhC X b2 V.ep U.ep o.ep L.ep w2 T2.out.2.2.1.ep T2.out.2.2.2.1.ep HF.out.2.2.1).mono ?_
   rintro e w3 ⟨⟨r,rfl,n⟩,j⟩
   have Z:=zc (T2.out.later j)
   have R2:=zc n
   clear j n z I E J q M N O D H A K
   obtain⟨z,I,E,J,q,M⟩:=zk Z.out.1
   obtain⟨N,O,D,H,A,K⟩:=zk Z.out.2.1
   cases r with
   |false=>
    go_wp2
    go_ret
    exact⟨⟨false,rfl,⟨fun k=>(by cases k),fun k=>(by have:=R2.out.2 (by rw[k]);cases this)⟩⟩,Z.out.2.2.2.2⟩
   |true=>
    go_wp2_with fail
    refine (zlr zhD zhE X b2 V.st U.st o.st L.st w3 Z.out.2.2.1.st Z.out.2.2.2.1.st HF.out.2.2.2.1).mono ?_
    rintro e w4 ⟨⟨r,rfl,n⟩,j⟩
    have T4:=zc (Z.out.later j)
    have R3:=zc n
    clear j n z I E J q M N O D H A K
    obtain⟨z,I,E,J,q,M⟩:=zk T4.out.1
    obtain⟨N,O,D,H,A,K⟩:=zk T4.out.2.1
    cases r with
    |false=>
     go_wp2
     go_ret
     exact⟨⟨false,rfl,⟨fun k=>(by cases k),fun k=>(by have:=R3.out.2 (by rw[k]);cases this)⟩⟩,T4.out.2.2.2.2⟩
    |true=>
     go_wp2_with fail
     refine (zlv zhF zhG X b2 V.ex U.ex o.ex L.ex w4 T4.out.2.2.1.ex T4.out.2.2.2.1.ex HF.out.2.2.2.2).mono ?_
     rintro e w5 ⟨⟨r,rfl,n⟩,j⟩
     have T5:=zc (T4.out.later j)
     have R4:=zc n
     clear j n z I E J q M N O D H A K
     obtain⟨z,I,E,J,q,M⟩:=zk T5.out.1
     obtain⟨N,O,D,H,A,K⟩:=zk T5.out.2.1
     cases r with
     |false=>
      go_wp2
      go_ret
      exact⟨⟨false,rfl,⟨fun k=>(by cases k),fun k=>(by have:=R4.out.2 (by rw[k]);cases this)⟩⟩,T5.out.2.2.2.2⟩
     |true=>
      go_wp2
      go_ret
      exact⟨⟨true,rfl,⟨fun _=>zhw (R0.out.1 (by simp)) (R1.out.1 (by simp)) (R2.out.1 (by simp)) (R3.out.1 (by simp)) (R4.out.1 (by simp)),fun _=>rfl⟩⟩,T5.out.2.2.2.2⟩
theorem zhH (a b:List Ex) (k:Int):zaj (a++b) k=zaj a k+zaj b k:=by simp[zaj]
theorem zhI (a b:List Sm) (k:Int):zaB (a++b) k=zaB a k+zaB b k:=by simp[zaB]
theorem zhJ {ex:List Ex} {i:Nat} (h:i<ex.length) (k:Int):zaj (ex.take (i+1)) k=zaj (ex.take i) k+u1 ex[i] k:=by
 rw[List.take_succ_eq_append_getElem h,zhH]
 simp[zaj,u1]
theorem zlH {h:List Sm} {i:Nat} (j:i<h.length) (k:Int):zaB (h.take (i+1)) k=zaB (h.take i) k+if h[i].expr==k then 1 else 0:=by
 rw[List.take_succ_eq_append_getElem j,zhI]
 simp[zaB]
theorem zfh (ex:List Ex) (k:Int):zaj ex k≤2*ex.length:=by
 induction ex with
 |nil=>simp[zaj]
 |cons x l h=>
  rw[show x::l=[x]++l from rfl,zhH]
  have:zaj [x] k≤2:=by
   simp only[zaj,List.map_cons,List.map_nil,List.sum_cons,List.sum_nil]
   split
   ·split<;>split<;>omega
   ·omega
  simp only[List.length_append,List.length_cons,List.length_nil]
  omega
theorem zhK (h:List Sm) (k:Int):zaB h k≤h.length:=by
 induction h with
 |nil=>simp[zaB]
 |cons x l j=>
  rw[show x::l=[x]++l from rfl,zhI]
  have:zaB [x] k≤1:=by
   simp only[zaB,List.map_cons,List.map_nil,List.sum_cons,List.sum_nil]
   split<;>omega
  simp only[List.length_append,List.length_cons,List.length_nil]
  omega
def zai (n:Nat) (f:Nat→Nat):List Value:=(List.range n).map fun k=>.int .i64 (f k:Int)
theorem zga (n:Nat) (f:Nat→Nat):(zai n f).length=n:=by simp[zai]
theorem zfi {n:Nat} (f:Nat→Nat) {k:Nat} (h:k<n):(zai n f)[k]? =some (.int .i64 (f k:Int)):=by
 unfold zai
 rw[List.getElem?_map,List.getElem?_range h]
 rfl
theorem zlI {n l:Nat} (f g:Nat→Nat) (v:Nat) (o:g l=v) (h: ∀k,k≠l→g k=f k):(zai n f).set l (.int .i64 (v:Int))=zai n g:=by
 apply List.ext_getElem?
 intro k
 by_cases j:k<n
 ·by_cases e:k=l
  ·subst e
   rw[List.getElem?_set_self (by rw[zga];exact j),zfi g j,o]
  ·rw[List.getElem?_set_ne (fun x=>e x.symm),zfi f j,zfi g j,h k e]
 ·rw[List.getElem?_eq_none (by rw[List.length_set,zga];omega),List.getElem?_eq_none (by rw[zga];omega)]
theorem zdq {n:Nat} {f g:Nat→Nat} (h: ∀k,k<n→f k=g k):zai n f=zai n g:=by
 unfold zai
 refine List.map_congr_left fun k j=>?_
 rw[h k (List.mem_range.1 j)]
def za9 (f:Nat→Nat) (l:Nat):Nat→Nat:=fun k=>f k+if k=l then 1 else 0
theorem zlJ (f:Nat→Nat) (l:Nat):za9 f l l=f l+1:=by simp[za9]
theorem zlK (f:Nat→Nat) {l k:Nat} (h:k≠l):za9 f l k=f k:=by simp[za9,h]
theorem zhL {ex:List Ex} {i:Nat} (j:i<ex.length) (o:zT ex[i].kind=true) (w:0≤ex[i].l) (q:0≤ex[i].r) (k:Nat):za9 (za9 (fun k=>zaj (ex.take i) (k:Int)) ex[i].l.toNat) ex[i].r.toNat k=zaj (ex.take (i+1)) (k:Int):=by
 rw[zhJ j,u1,if_pos o]
 unfold za9
 have n:(ex[i].l==(k:Int))=decide (k=ex[i].l.toNat):=by
  rw[Bool.eq_iff_iff,beq_iff_eq,decide_eq_true_iff];omega
 have h:(ex[i].r==(k:Int))=decide (k=ex[i].r.toNat):=by
  rw[Bool.eq_iff_iff,beq_iff_eq,decide_eq_true_iff];omega
 rw[n,h]
 simp only[decide_eq_true_eq]
 omega
theorem zhM {ex:List Ex} {i:Nat} (h:i<ex.length) (j:zT ex[i].kind=false) (k:Nat):zaj (ex.take i) (k:Int)=zaj (ex.take (i+1)) (k:Int):=by
 rw[zhJ h,u1,if_neg (by rw[j];decide),Nat.add_zero]
theorem zhN {h:List Sm} {ex:List Ex} {i:Nat} (n:i<h.length) (o:0≤h[i].expr) (k:Nat):za9 (fun k=>zaj ex (k:Int)+zaB (h.take i) (k:Int)) h[i].expr.toNat k=zaj ex (k:Int)+zaB (h.take (i+1)) (k:Int):=by
 rw[zlH n]
 unfold za9
 have j:(h[i].expr==(k:Int))=decide (k=h[i].expr.toNat):=by
  rw[Bool.eq_iff_iff,beq_iff_eq,decide_eq_true_iff];omega
 rw[j]
 simp only[decide_eq_true_eq]
 omega
def AheadTo (ex:List Ex) (n:Nat):Prop:=∀(i:Nat) (x:Ex),i<n→ex[i]? =some x→zT x.kind=true→0≤x.l∧x.l<(i:Int)∧0≤x.r∧x.r<(i:Int)
theorem AheadTo.all {ex:List Ex} (h:AheadTo ex ex.length):zbf ex:=fun i x j=>h i x (List.getElem?_eq_some_iff.1 j).1 j
theorem AheadTo.next {ex:List Ex} {i:Nat} (h:AheadTo ex i) (z:i<ex.length) (q:zT ex[i].kind=true→0≤ex[i].l∧ex[i].l<(i:Int)∧0≤ex[i].r∧ex[i].r<(i:Int)):AheadTo ex (i+1):=by
 intro j x w o n
 by_cases e:j=i
 ·subst e
  obtain⟨_,rfl⟩:=List.getElem?_eq_some_iff.1 o
  exact q n
 ·exact h j x (by omega) o n
theorem AheadTo.not {ex:List Ex} {i:Nat} (j:i<ex.length) (o:zT ex[i].kind=true) (n: ¬(0≤ex[i].l∧ex[i].l<(i:Int)∧0≤ex[i].r∧ex[i].r<(i:Int))): ¬zbf ex:=fun h=>n (h i _ (List.getElem?_eq_getElem j) o)
theorem Tryz.infoByte:(Tryz.prog.info? 5).map (fun i=>(i.zero,i.size,i.bytes))=some (some (.int .u8 0),1,1):=by kernel_rfl
theorem zhO (m:Int) (w:World) (A:0≤m) (D:m≤18446744073709551615):
  Calls Tryz.prog 203 #[.int .u64 m] w fun e E=>e= .returned (.int .i64 (dcn m))∧E=w:=by
 have z:=zcI m A D
 have H:dcn m≤20:=z.2.1
 have o:1≤dcn m:=z.1
 clear z
 go_enter Tryz.func203,Tryz.ntmps203
 go_wp2
 go_loop [0,3] (fun a c=>∃k:Nat,k+1≤dcn m∧a= .int .u64 (m/10^k)∧c= .int .i64 ((k:Int)+1)) (fun a _=>(intOf a).toNat)
 case atStart=>exact⟨0,o,by simp,rfl⟩
 case round=>
  obtain⟨k,I,rfl,rfl⟩:=hrel
  have J:=zd9 m k A
  have n:=zjG m A D k
  by_cases j:10≤m/10^k
  ·have q:=n.1 j
   clear n
   go_wp2
   go_round
   case rel=>exact⟨k+1,by omega,by rw[zd8],by go_num⟩
   case measure=>simp[intOf];omega
  ·have q: ¬(k+1<dcn m):=fun h=>j (n.2 h)
   clear n
   go_wp2
   go_ret
   exact⟨zeG (by omega),rfl⟩
theorem zlL (n:Int) (w:World) (M:0≤n) (h1:n≤9223372036854775807):
  Calls Tryz.prog 187 #[.int .i64 n] w fun e z=>e= .returned (.string (strOfNums (dgk n (dcn n))))∧Below w.heap.size w z:=by
 obtain⟨Z,Y,I,K,H⟩:=info_parts Tryz.infoByte
 have J:=zcI n M (by omega)
 have U:dcn n≤20:=J.2.1
 have V:1≤dcn n:=J.1
 clear J
 go_enter Tryz.func187,Tryz.ntmps187
 go_wp2_with (first|(go_at_call 203;refine (zhO _ _ (by omega) (by omega)).mono ?_;rintro e z ⟨rfl,rfl⟩)|(at_make;refine wpList_make_full _ rfl _ _ 44 rfl z.heap.size 5 Z (.int .u8 0) 1 Tryz.underlying44 Y I K _ _ _ _ (dcn n) rfl rfl (by omega) (by omega) ?b2 ?b3 ?b4 ?_))
 case b2=>rw[H];omega
 case b3=>unfold maxLen;omega
 case b4=>exact Nat.le_refl _
 intro w1 o j
 have A:=(Below.refl z.heap.size z).grown j (Nat.le_refl _) (by intro k O;cases O)
 rw[toList_madeCells_one] at o
 clear j
 go_wp2
 go_loopw [3,7,21] (fun r _ i wr=>∃k:Nat,k≤dcn n∧i= .int .i64 k∧r= .int .u64 (n/10^k)∧zci wr z.heap.size 5 (.slice (some ⟨z.heap.size,0,none⟩) (dcn n) (dcn n)) (dcn n) (zcj (dgk n (dcn n)) k)∧Below z.heap.size z wr) (fun _ _ i _=>dcn n-(intOf i).toNat)
 case atStart=>exact⟨0,by omega,rfl,by simp,by unfold zci;rw[zg9,zcd,List.map_replicate];exact o,A⟩
 case round=>
  obtain⟨k,O,rfl,rfl,h,q⟩:=hrel
  clear o A
  have hb:=zd9 n k M
  by_cases D:k<dcn n
  ·obtain⟨v,hv⟩:=zf7 h (dcn n-1-k) (by omega)
   have hf:=zf8 h (dcn n-1-k)
   have N:=zf6 h (dcn n-1-k) (48+n/10^k%10)
   have E:=zgA (dgk n (dcn n)) k (48+n/10^k%10) (by rw[zcd];exact D) (by rw[zcd];exact zgK n _ k D)
   rw[zcd] at E
   rw[E] at N
   clear E h
   go_wp2
   go_roundw
   case rel=>exact⟨k+1,by omega,by go_num,by rw[zd8],N,q.setCell (Nat.le_refl _) _⟩
   case measure=>simp[intOf];omega
  ·have L:=zjH (dgk n (dcn n))
   rw[zcd] at L
   rw[show k=dcn n from by omega,L] at h
   clear L
   have X:=zg7 (P:=Tryz.prog) (src:=44) (dst:=9) Tryz.underlying44 Tryz.underlying5 Tryz.underlying9 h
   go_wp2
   go_ret
   exact⟨rfl,q⟩
theorem zlM (m:Int) (h:0<m) (j:m≤9223372036854775808):IntKind.u64.wrap (-IntKind.u64.wrap (-m))=m:=by
 rw[IntKind.wrap_u64,IntKind.wrap_u64];omega
theorem zlN (m:Int) (w:World) (V:0<m) (Y:m≤9223372036854775808):
  Calls Tryz.prog 187 #[.int .i64 (-m)] w fun e q=>e= .returned (.string (strOfNums (45::dgk m (dcn m))))∧Below w.heap.size w q:=by
 obtain⟨i0,hi,I,L,H⟩:=info_parts Tryz.infoByte
 have J:=zcI m (by omega) (by omega)
 have X:dcn m≤20:=J.2.1
 have aa:1≤dcn m:=J.1
 clear J
 have Z:=zlM m V Y
 go_enter Tryz.func187,Tryz.ntmps187
 go_wp2_with (first|(go_at_call 203;refine (zhO _ _ (by omega) (by omega)).mono ?_;rintro e q ⟨rfl,rfl⟩)|(at_make;refine wpList_make_full _ rfl _ _ 44 rfl q.heap.size 5 i0 (.int .u8 0) 1 Tryz.underlying44 hi I L _ _ _ _ (dcn m+1) rfl rfl (by omega) (by omega) ?b2 ?b3 ?b4 ?_))
 case b2=>rw[H];omega
 case b3=>unfold maxLen;omega
 case b4=>exact Nat.le_refl _
 intro w1 n j
 have A:=(Below.refl q.heap.size q).grown j (Nat.le_refl _) (by intro k O;cases O)
 rw[toList_madeCells_one] at n
 clear j
 have z:(45::dgk m (dcn m)).length=dcn m+1:=by rw[List.length_cons,zcd]
 have K:Hid ((45::dgk m (dcn m)).length=dcn m+1):=z
 clear z
 go_wp2
 go_loopw [3,7,21] (fun r _ i wr=>∃k:Nat,k≤dcn m∧i= .int .i64 k∧r= .int .u64 (m/10^k)∧zci wr q.heap.size 5 (.slice (some ⟨q.heap.size,0,none⟩) (dcn m+1) (dcn m+1)) (dcn m+1) (zcj (45::dgk m (dcn m)) k)∧Below q.heap.size q wr) (fun _ _ i _=>dcn m-(intOf i).toNat)
 case atStart=>exact⟨0,by omega,rfl,by simp,by unfold zci;rw[zg9,K.out,List.map_replicate];exact n,A⟩
 case round=>
  obtain⟨k,O,rfl,rfl,h,o⟩:=hrel
  clear n A Z
  have hb:=zd9 m k (by omega)
  by_cases N:k<dcn m
  ·obtain⟨v,U⟩:=zf7 h (dcn m-k) (by omega)
   have hf:=zf8 h (dcn m-k)
   have D:=zf6 h (dcn m-k) (48+m/10^k%10)
   have E:=zgA (45::dgk m (dcn m)) k (48+m/10^k%10) (by rw[K.out];omega) (zjJ [45] m (dcn m) k N)
   rw[K.out,show dcn m+1-1-k=dcn m-k from by omega] at E
   rw[E] at D
   clear E h
   go_wp2
   go_roundw
   case rel=>exact⟨k+1,by omega,by go_num,by rw[zd8],D,o.setCell (Nat.le_refl _) _⟩
   case measure=>simp[intOf];omega
  ·have M:=zjI 45 (dgk m (dcn m))
   rw[zcd] at M
   rw[show k=dcn m from by omega] at h
   obtain⟨v,U⟩:=zf7 h 0 (by omega)
   have hf:=zf8 h 0
   have D:=zf6 h 0 45
   rw[M] at D
   clear M h
   have ab:=zg7 (P:=Tryz.prog) (src:=44) (dst:=9) Tryz.underlying44 Tryz.underlying5 Tryz.underlying9 D
   go_wp2
   go_ret
   exact⟨rfl,o.setCell (Nat.le_refl _) _⟩
theorem zlO (n:Int) (w:World) (o: -9223372036854775808≤n∧n≤9223372036854775807):
  Calls Tryz.prog 187 #[.int .i64 n] w fun e j=>e= .returned (.string (strOfNums (zb2 n)))∧Below w.heap.size w j:=by
 by_cases h:0≤n
 ·rw[zfB h]
  exact zlL n w h o.2
 ·obtain⟨m,rfl⟩: ∃m,n= -m:=⟨-n,by omega⟩
  rw[zfA (by omega),Int.neg_neg]
  exact zlN m w (by omega) (by omega)
theorem neg_tmod (q:Int) (h:0≤q):(-q).tmod 10= -(q%10):=by rw[Int.neg_tmod,Int.tmod_eq_emod_of_nonneg h]
theorem neg_tdiv (q:Int) (h:0≤q):(-q).tdiv 10= -(q/10):=by rw[Int.neg_tdiv,Int.tdiv_eq_ediv_of_nonneg h]
theorem zlP (n:Int) (w:World) (V:0<n) (X:n≤9223372036854775807):
  Calls Tryz.prog 163 #[.int .i64 n] w fun e N=>e= .returned (.string (strOfNums (dgk n (dcn n))))∧Below w.heap.size w N:=by
 have D:=zcI n (by omega) (by omega)
 have L:dcn n≤20:=D.2.1
 have O:1≤dcn n:=D.1
 have M:(n==0)=false:=by simp;omega
 have I: ¬n<0:=by omega
 clear D
 go_enter Tryz.func163,Tryz.ntmps163
 go_wp2
 go_loopw [0,3,5] (fun a o _ wr=>∃k:Nat,k≤dcn n∧a= .int .i64 (n/10^k)∧o= .string (strOfNums (dgk n k))∧Below w.heap.size w wr) (fun a _ _ _=>(intOf a).toNat)
 case atStart=>exact⟨0,by omega,by simp,rfl,Below.refl _ _⟩
 case round=>
  obtain⟨k,Z,rfl,rfl,j⟩:=hrel
  have Y:=zd9 n k (by omega)
  have z:=zgJ n (by omega) (by omega) k
  have J:(strOfNums (dgk n k)).size≤20:=by rw[strOfNums_size,zcd];omega
  by_cases q:n/10^k=0
  ·have A: ¬(k<dcn n):=fun h=>z.2 h q
   have E:(n/10^k !=0)=false:=by simpa using q
   clear z q
   go_wp2
   go_ret
   exact⟨zaF (by rw[show dcn n=k from by omega]),j⟩
  ·have A:=z.1 q
   have E:(n/10^k !=0)=true:=by simpa using q
   have K:0<n/10^k:=by omega
   clear z q
   have U:=fun (w:World) (x:Int)=>zg8 (P:=Tryz.prog) (src:=44) (dst:=9) Tryz.underlying44 Tryz.underlying5 Tryz.underlying9 w x
   have H:=fun x=>strOfNums_size [x]
   go_wp2
   go_roundw
   case rel=>exact⟨k+1,by omega,by rw[zd8],by rw[zeH];rfl,j.alloc j.size _⟩
   case measure=>simp[intOf];omega
theorem zlQ (m:Int) (w:World) (V:0<m) (Y:m≤9223372036854775808):
  Calls Tryz.prog 163 #[.int .i64 (-m)] w fun e N=>e= .returned (.string (strOfNums (45::dgk m (dcn m))))∧Below w.heap.size w N:=by
 have q:=zcI m (by omega) (by omega)
 have L:dcn m≤20:=q.2.1
 have O:1≤dcn m:=q.1
 have M:(-m==0)=false:=by simp;omega
 clear q
 go_enter Tryz.func163,Tryz.ntmps163
 go_wp2
 go_loopw [0,3,5] (fun a o _ wr=>∃k:Nat,k≤dcn m∧a= .int .i64 (-(m/10^k))∧o= .string (strOfNums (dgk m k))∧Below w.heap.size w wr) (fun a _ _ _=>(-(intOf a)).toNat)
 case atStart=>exact⟨0,by omega,by simp,rfl,Below.refl _ _⟩
 case round=>
  obtain⟨k,Z,rfl,rfl,j⟩:=hrel
  have I:=zd9 m k (by omega)
  have z:=zgJ m (by omega) (by omega) k
  have J:(strOfNums (dgk m k)).size≤20:=by rw[strOfNums_size,zcd];omega
  by_cases n:m/10^k=0
  ·have A: ¬(k<dcn m):=fun h=>z.2 h n
   have D:(-(m/10^k) !=0)=false:=by simpa using n
   have H:(strOfNums [45]).size=1:=strOfNums_size [45]
   clear z n
   go_wp2
   go_ret
   exact⟨zaF (by rw[show dcn m=k from by omega];exact zeH 45 _),j⟩
  ·have A:=z.1 n
   have D:(-(m/10^k) !=0)=true:=by simpa using n
   have K:0<m/10^k:=by omega
   clear z n
   have X:=neg_tmod (m/10^k) I.1
   have e2:=neg_tdiv (m/10^k) I.1
   have U:=fun (w:World) (x:Int)=>zg8 (P:=Tryz.prog) (src:=44) (dst:=9) Tryz.underlying44 Tryz.underlying5 Tryz.underlying9 w x
   have E:=fun x=>strOfNums_size [x]
   by_cases q:0<m/10^k%10
   ·go_wp2
    go_roundw
    case rel=>exact⟨k+1,by omega,by rw[zd8],by rw[zeH];rfl,j.alloc j.size _⟩
    case measure=>simp[intOf];omega
   ·go_wp2
    go_roundw
    case rel=>exact⟨k+1,by omega,by rw[zd8],by rw[zeH,show 48+ -(m/10^k%10)=48+m/10^k%10 from by omega];rfl,j.alloc j.size _⟩
    case measure=>simp[intOf];omega
theorem zlR (n:Int) (w:World) (q: -9223372036854775808≤n∧n≤9223372036854775807):
  Calls Tryz.prog 163 #[.int .i64 n] w fun e j=>e= .returned (.string (strOfNums (zb2 n)))∧Below w.heap.size w j:=by
 by_cases h:0<n
 ·rw[zfB (by omega)]
  exact zlP n w h q.2
 ·by_cases z:n=0
  ·subst z
   have o:Hid (zb2 0=[48]):=by show zb2 0=[48];decide
   go_enter Tryz.func163,Tryz.ntmps163
   go_wp2
   go_ret
   exact⟨zaF (by rw[o.out];rfl),Below.refl _ _⟩
  ·obtain⟨m,rfl⟩: ∃m,n= -m:=⟨-n,by omega⟩
   rw[zfA (by omega),Int.neg_neg]
   exact zlQ m w (by omega) (by omega)
theorem zhP (k:Int) (w:World):Calls Tryz.prog 121 #[.int .i64 k] w fun e o=>e= .returned (.bool (zT k))∧o=w:=by
 cases j:(k==6) with
 |true=>
  have h:Hid (zT k=true):=by show _=_;rw[zT,j];rfl
  go_enter Tryz.func121,Tryz.ntmps121
  go_wp2
  go_ret
  exact⟨zl h.out.symm,rfl⟩
 |false=>
  cases n:(k==7) with
  |true=>
   have h:Hid (zT k=true):=by show _=_;rw[zT,j,n];rfl
   go_enter Tryz.func121,Tryz.ntmps121
   go_wp2
   go_ret
   exact⟨zl h.out.symm,rfl⟩
  |false=>
   have h:Hid (zT k=(k==8)):=by show _=_;rw[zT,j,n];simp
   go_enter Tryz.func121,Tryz.ntmps121
   go_wp2
   go_ret
   exact⟨zl h.out.symm,rfl⟩
theorem zgb (j:Nat) (S:Sv) (m:Md) (i:Nat) (w:World) (h:OwnMd w j S m) (A:i<m.ex.length):
  Calls Tryz.prog 165 #[zt S m,.int .i64 i] w fun e z=>e= .returned (.bool (zL (m.ex.getD i zf).kind))∧Below w.heap.size w z:=by
 obtain⟨g,hg,hlt,c0,-,-,-,-,-⟩:=h.expr A
 have q:(i:Int)<(m.ex.length:Int):=by omega
 unfold zt
 rw[hg]
 generalize (m.ex.getD i zf).kind=k at c0 ⊢
 clear h hg
 cases o:(k==6) with
 |true=>
  have n:Hid (zL k=true):=by show _=_;rw[zL,o];rfl
  go_enter Tryz.func165,Tryz.ntmps165
  go_wp2
  go_ret
  exact⟨zl n.out.symm,(Below.refl _ _).alloc (Nat.le_refl _) _⟩
 |false=>
  have n:Hid (zL k=(k==7)):=by show _=_;rw[zL,o];simp
  go_enter Tryz.func165,Tryz.ntmps165
  go_wp2
  go_ret
  exact⟨zl n.out.symm,(Below.refl _ _).alloc (Nat.le_refl _) _⟩
def zdP (base:Nat) (S:Sv) (m:Md) (n:Nat):Prop:=∀(i:Nat) (w:World),i<n→i<m.ex.length→OwnMd w base S m→wt m.ex i≤1099511627776→
 Calls Tryz.prog 123 #[zt S m,.int .i64 i] w fun e w'=>e= .returned (.string (prX m.ex i))∧Below w.heap.size w w'
theorem zfj (j:Nat) (S:Sv) (m:Md) (n i:Nat) (b:Bool) (w:World) (M:zdP j S m n) (H:i<n) (J:i<m.ex.length) (h:OwnMd w j S m) (D:wt m.ex i≤1099511627776):
  Calls Tryz.prog 164 #[zt S m,.int .i64 i,.bool b] w fun e O=>e= .returned (.string (zC b (prX m.ex i)))∧Below w.heap.size w O:=by
 have K:=zc M
 have I:=zc h
 have E:=zc D
 unfold wt at D
 clear M h
 unfold zt
 cases b with
 |true=>
  have q:Hid (zC true (prX m.ex i)=zm++prX m.ex i++zay):=rfl
  go_enter Tryz.func164,Tryz.ntmps164
  go_wp2_with fail
  refine (K.out i _ H J (I.out.alloc _) E.out).mono ?_
  rintro e A ⟨rfl,o⟩
  have z:Hid (Below w.heap.size w A):=((Below.refl _ _).alloc (Nat.le_refl _) _).trans (o.mono (by rw[zj];omega))
  clear o
  generalize L:prX m.ex i=t at D q ⊢
  have N:=zc L
  clear L
  go_wp2
  go_ret
  exact⟨zaF (by rw[N.out];exact q.out.symm),z.out⟩
 |false=>
  have q:Hid (zC false (prX m.ex i)=prX m.ex i):=rfl
  go_enter Tryz.func164,Tryz.ntmps164
  go_wp2_with fail
  refine (K.out i _ H J (I.out.alloc _) E.out).mono ?_
  rintro e A ⟨rfl,o⟩
  have z:Hid (Below w.heap.size w A):=((Below.refl _ _).alloc (Nat.le_refl _) _).trans (o.mono (by rw[zj];omega))
  clear o
  go_wp2
  go_ret
  exact⟨zaF q.out.symm,z.out⟩
theorem zlS (g:Nat) (S:Sv) (m:Md) (i:Nat) (k h l r:Int) (D H:ByteArray) (w:World) (j:S.ex.a=some ⟨g,0,none⟩) (M:i<m.ex.length) (E:g<w.heap.size) (L:w.cell? ⟨g,i*6,none⟩=some (.int .i64 k)) (J:w.cell? ⟨g,i*6+1,none⟩=some (.int .i64 h)) (K:w.cell? ⟨g,i*6+2,none⟩=some (.string D)) (c3:w.cell? ⟨g,i*6+3,none⟩=some (.string H)) (c4:w.cell? ⟨g,i*6+4,none⟩=some (.int .i64 l)) (c5:w.cell? ⟨g,i*6+5,none⟩=some (.int .i64 r)) (N:(k==1)=true) (n: -9223372036854775808≤h∧h≤9223372036854775807):
  Calls Tryz.prog 123 #[zt S m,.int .i64 i] w fun e z=>e= .returned (.string (strOfNums (zb2 h)))∧Below w.heap.size w z:=by
 have q:(i:Int)<(m.ex.length:Int):=by omega
 unfold zt
 rw[j]
 clear j
 go_enter Tryz.func123,Tryz.ntmps123
 go_wp2_with fail
 refine (zlR h _ n).mono ?_
 rintro e I ⟨rfl,o⟩
 have A:Hid (Below w.heap.size w I):=(zaM w _ _).trans (o.mono (by rw[zj,zj];omega))
 clear o
 go_wp2
 go_ret
 exact⟨rfl,A.out⟩
theorem zlT (g:Nat) (S:Sv) (m:Md) (i:Nat) (k q l r:Int) (j A:ByteArray) (w:World) (h:S.ex.a=some ⟨g,0,none⟩) (I:i<m.ex.length) (z:g<w.heap.size) (H:w.cell? ⟨g,i*6,none⟩=some (.int .i64 k)) (D:w.cell? ⟨g,i*6+1,none⟩=some (.int .i64 q)) (E:w.cell? ⟨g,i*6+2,none⟩=some (.string j)) (c3:w.cell? ⟨g,i*6+3,none⟩=some (.string A)) (c4:w.cell? ⟨g,i*6+4,none⟩=some (.int .i64 l)) (c5:w.cell? ⟨g,i*6+5,none⟩=some (.int .i64 r)) (J:(k==1)=false) (K:(k==2)=true):
  Calls Tryz.prog 123 #[zt S m,.int .i64 i] w fun e o=>e= .returned (.string (j))∧Below w.heap.size w o:=by
 have n:(i:Int)<(m.ex.length:Int):=by omega
 unfold zt
 rw[h]
 clear h
 go_enter Tryz.func123,Tryz.ntmps123
 go_wp2
 go_ret
 exact⟨rfl,((Below.refl _ _).alloc (Nat.le_refl _) _).alloc (by show _≤(w.heap.push _).size;simp) _⟩
theorem zlU (g:Nat) (S:Sv) (m:Md) (i:Nat) (k A l r:Int) (n E:ByteArray) (w:World) (j:S.ex.a=some ⟨g,0,none⟩) (L:i<m.ex.length) (D:g<w.heap.size) (K:w.cell? ⟨g,i*6,none⟩=some (.int .i64 k)) (I:w.cell? ⟨g,i*6+1,none⟩=some (.int .i64 A)) (J:w.cell? ⟨g,i*6+2,none⟩=some (.string n)) (c3:w.cell? ⟨g,i*6+3,none⟩=some (.string E)) (c4:w.cell? ⟨g,i*6+4,none⟩=some (.int .i64 l)) (c5:w.cell? ⟨g,i*6+5,none⟩=some (.int .i64 r)) (M:(k==1)=false) (N:(k==2)=false) (O:(k==3)=true) (h:(n++cParens).size≤1099511627776):
  Calls Tryz.prog 123 #[zt S m,.int .i64 i] w fun e z=>e= .returned (.string (n++cParens))∧Below w.heap.size w z:=by
 have q:(i:Int)<(m.ex.length:Int):=by omega
 unfold zt
 rw[j]
 clear j
 simp only[ByteArray.size_append] at h
 have o:cParens.size=2:=rfl
 have H:n.size≤1099511627776:=by omega
 clear h o
 go_enter Tryz.func123,Tryz.ntmps123
 go_wp2
 go_ret
 exact⟨rfl,((Below.refl _ _).alloc (Nat.le_refl _) _).alloc (by show _≤(w.heap.push _).size;simp) _⟩
theorem zlV (g:Nat) (S:Sv) (m:Md) (i:Nat) (k D l r:Int) (n o:ByteArray) (w:World) (j:S.ex.a=some ⟨g,0,none⟩) (O:i<m.ex.length) (E:g<w.heap.size) (J:w.cell? ⟨g,i*6,none⟩=some (.int .i64 k)) (N:w.cell? ⟨g,i*6+1,none⟩=some (.int .i64 D)) (L:w.cell? ⟨g,i*6+2,none⟩=some (.string n)) (c3:w.cell? ⟨g,i*6+3,none⟩=some (.string o)) (c4:w.cell? ⟨g,i*6+4,none⟩=some (.int .i64 l)) (c5:w.cell? ⟨g,i*6+5,none⟩=some (.int .i64 r)) (U:(k==1)=false) (V:(k==2)=false) (K:(k==3)=false) (M:(k==4)=true) (h:(n++cPoint++o).size≤1099511627776):
  Calls Tryz.prog 123 #[zt S m,.int .i64 i] w fun e A=>e= .returned (.string (n++cPoint++o))∧Below w.heap.size w A:=by
 have z:(i:Int)<(m.ex.length:Int):=by omega
 unfold zt
 rw[j]
 clear j
 simp only[ByteArray.size_append] at h
 have q:cPoint.size=1:=rfl
 have H:n.size≤1099511627776:=by omega
 have I:o.size≤1099511627776:=by omega
 clear h q
 go_enter Tryz.func123,Tryz.ntmps123
 go_wp2
 go_ret
 exact⟨rfl,((Below.refl _ _).alloc (Nat.le_refl _) _).alloc (by show _≤(w.heap.push _).size;simp) _⟩
theorem zlW (g:Nat) (S:Sv) (m:Md) (i:Nat) (k E l r:Int) (n o:ByteArray) (w:World) (j:S.ex.a=some ⟨g,0,none⟩) (U:i<m.ex.length) (H:g<w.heap.size) (K:w.cell? ⟨g,i*6,none⟩=some (.int .i64 k)) (O:w.cell? ⟨g,i*6+1,none⟩=some (.int .i64 E)) (M:w.cell? ⟨g,i*6+2,none⟩=some (.string n)) (c3:w.cell? ⟨g,i*6+3,none⟩=some (.string o)) (c4:w.cell? ⟨g,i*6+4,none⟩=some (.int .i64 l)) (c5:w.cell? ⟨g,i*6+5,none⟩=some (.int .i64 r)) (X:(k==1)=false) (Y:(k==2)=false) (L:(k==3)=false) (N:(k==4)=false) (V:(k==5)=true) (h:(n++cPoint++o++cParens).size≤1099511627776):
  Calls Tryz.prog 123 #[zt S m,.int .i64 i] w fun e D=>e= .returned (.string (n++cPoint++o++cParens))∧Below w.heap.size w D:=by
 have A:(i:Int)<(m.ex.length:Int):=by omega
 unfold zt
 rw[j]
 clear j
 simp only[ByteArray.size_append] at h
 have z:cParens.size=2:=rfl
 have q:cPoint.size=1:=rfl
 have I:n.size≤1099511627776:=by omega
 have J:o.size≤1099511627776:=by omega
 clear h z q
 go_enter Tryz.func123,Tryz.ntmps123
 go_wp2
 go_ret
 exact⟨rfl,((Below.refl _ _).alloc (Nat.le_refl _) _).alloc (by show _≤(w.heap.push _).size;simp) _⟩
theorem zlX (g:Nat) (S:Sv) (m:Md) (i:Nat) (k q l r:Int) (j A:ByteArray) (w:World) (h:S.ex.a=some ⟨g,0,none⟩) (N:i<m.ex.length) (z:g<w.heap.size) (D:w.cell? ⟨g,i*6,none⟩=some (.int .i64 k)) (L:w.cell? ⟨g,i*6+1,none⟩=some (.int .i64 q)) (H:w.cell? ⟨g,i*6+2,none⟩=some (.string j)) (c3:w.cell? ⟨g,i*6+3,none⟩=some (.string A)) (c4:w.cell? ⟨g,i*6+4,none⟩=some (.int .i64 l)) (c5:w.cell? ⟨g,i*6+5,none⟩=some (.int .i64 r)) (U:(k==1)=false) (V:(k==2)=false) (E:(k==3)=false) (I:(k==4)=false) (O:(k==5)=false) (J:(k==6)=false) (K:(k==7)=false) (M:(k==8)=false):
  Calls Tryz.prog 123 #[zt S m,.int .i64 i] w fun e o=>e= .returned (.string (sNone))∧Below w.heap.size w o:=by
 have n:(i:Int)<(m.ex.length:Int):=by omega
 unfold zt
 rw[h]
 clear h
 go_enter Tryz.func123,Tryz.ntmps123
 go_wp2
 go_ret
 exact⟨rfl,((Below.refl _ _).alloc (Nat.le_refl _) _).alloc (by show _≤(w.heap.push _).size;simp) _⟩
theorem zlY (o g:Nat) (S:Sv) (m:Md) (i n j:Nat) (k z:Int) (q A:ByteArray) (w:World) (I:S.ex.a=some ⟨g,0,none⟩) (h:OwnMd w o S m) (hi:i<m.ex.length) (ae:g<w.heap.size) (c0:w.cell? ⟨g,i*6,none⟩=some (.int .i64 k)) (c1:w.cell? ⟨g,i*6+1,none⟩=some (.int .i64 z)) (c2:w.cell? ⟨g,i*6+2,none⟩=some (.string q)) (c3:w.cell? ⟨g,i*6+3,none⟩=some (.string A)) (c4:w.cell? ⟨g,i*6+4,none⟩=some (.int .i64 (n:Int))) (c5:w.cell? ⟨g,i*6+5,none⟩=some (.int .i64 (j:Int))) (k1:(k==1)=false) (k2:(k==2)=false) (k3:(k==3)=false) (k4:(k==4)=false) (k5:(k==5)=false) (k6:(k==6)=true) (K:(prX m.ex n++tPlus++zC (zL (m.ex.getD j zf).kind) (prX m.ex j)).size≤1099511627776) (he:zdP o S m i) (hl:n<i) (hr:j<i) (aa:wt m.ex n≤1099511627776) (ac:wt m.ex j≤1099511627776):
  Calls Tryz.prog 123 #[zt S m,.int .i64 i] w fun e w'=>e= .returned (.string (prX m.ex n++tPlus++zC (zL (m.ex.getD j zf).kind) (prX m.ex j)))∧Below w.heap.size w w':=by
 have aj:(i:Int)<(m.ex.length:Int):=by omega
 have HA:Hid (OwnMd ((w.alloc (.cells #[.slice S.rq.a m.rq.length S.rq.cap,.slice S.im.a m.im.length S.im.cap,.slice S.ep.a m.ep.length S.ep.cap,.slice S.st.a m.st.length S.st.cap,.slice (some ⟨g,0,none⟩) m.ex.length S.ex.cap] 28)).alloc (.cells #[.int .i64 k,.int .i64 z,.string q,.string A,.int .i64 (n:Int),.int .i64 (j:Int)] 108)) o S m):=(h.alloc _).alloc _
 have HE:=zc he
 have H:Hid (zt S m= .agg #[.slice S.rq.a m.rq.length S.rq.cap,.slice S.im.a m.im.length S.im.cap,.slice S.ep.a m.ep.length S.ep.cap,.slice S.st.a m.st.length S.st.cap,.slice (some ⟨g,0,none⟩) m.ex.length S.ex.cap]):=by show _=_;rw[zt,I]
 have ah:(n:Int)<(m.ex.length:Int):=by omega
 have ai:(j:Int)<(m.ex.length:Int):=by omega
 obtain⟨g2,hg2,-,d0,-,-,-,-,-⟩:=h.expr (i:=j) (by omega)
 have eg:g2=g:=by have:=hg2.symm.trans I;simpa using this
 rw[eg] at d0
 obtain⟨kr,O⟩: ∃kr,(m.ex.getD j zf).kind=kr:=⟨_,rfl⟩
 rw[O] at d0
 have M:=zc O
 obtain⟨Z,V⟩: ∃Z,prX m.ex n=Z:=⟨_,rfl⟩
 obtain⟨tr,L⟩: ∃tr,zC (zL (m.ex.getD j zf).kind) (prX m.ex j)=tr:=⟨_,rfl⟩
 rw[V,L] at K
 have N:=zc V
 have U:=zc L
 have cL: ∀d D,Calls Tryz.prog 123 #[.agg #[.slice S.rq.a m.rq.length S.rq.cap,.slice S.im.a m.im.length S.im.cap,.slice S.ep.a m.ep.length S.ep.cap,.slice S.st.a m.st.length S.st.cap,.slice (some ⟨g,0,none⟩) m.ex.length S.ex.cap],.int .i64 (n:Int)] (grow (redrawn ((w.alloc (.cells #[.slice S.rq.a m.rq.length S.rq.cap,.slice S.im.a m.im.length S.im.cap,.slice S.ep.a m.ep.length S.ep.cap,.slice S.st.a m.st.length S.st.cap,.slice (some ⟨g,0,none⟩) m.ex.length S.ex.cap] 28)).alloc (.cells #[.int .i64 k,.int .i64 z,.string q,.string A,.int .i64 (n:Int),.int .i64 (j:Int)] 108)) d) D) fun e E=>e= .returned (.string Z)∧∃p:Regrown,E=grow (redrawn ((w.alloc (.cells #[.slice S.rq.a m.rq.length S.rq.cap,.slice S.im.a m.im.length S.im.cap,.slice S.ep.a m.ep.length S.ep.cap,.slice S.st.a m.st.length S.st.cap,.slice (some ⟨g,0,none⟩) m.ex.length S.ex.cap] 28)).alloc (.cells #[.int .i64 k,.int .i64 z,.string q,.string A,.int .i64 (n:Int),.int .i64 (j:Int)] 108)) p.d) p.os:=fun d D=>Calls.regrown_of (by rw[←H.out,←N.out];exact HE.out n _ (by omega) (by omega) (HA.out.later (below_regrown _ d D)) aa)
 have cS: ∀d D,Calls Tryz.prog 165 #[.agg #[.slice S.rq.a m.rq.length S.rq.cap,.slice S.im.a m.im.length S.im.cap,.slice S.ep.a m.ep.length S.ep.cap,.slice S.st.a m.st.length S.st.cap,.slice (some ⟨g,0,none⟩) m.ex.length S.ex.cap],.int .i64 (j:Int)] (grow (redrawn ((w.alloc (.cells #[.slice S.rq.a m.rq.length S.rq.cap,.slice S.im.a m.im.length S.im.cap,.slice S.ep.a m.ep.length S.ep.cap,.slice S.st.a m.st.length S.st.cap,.slice (some ⟨g,0,none⟩) m.ex.length S.ex.cap] 28)).alloc (.cells #[.int .i64 k,.int .i64 z,.string q,.string A,.int .i64 (n:Int),.int .i64 (j:Int)] 108)) d) D) fun e E=>e= .returned (.bool (zL kr))∧∃p:Regrown,E=grow (redrawn ((w.alloc (.cells #[.slice S.rq.a m.rq.length S.rq.cap,.slice S.im.a m.im.length S.im.cap,.slice S.ep.a m.ep.length S.ep.cap,.slice S.st.a m.st.length S.st.cap,.slice (some ⟨g,0,none⟩) m.ex.length S.ex.cap] 28)).alloc (.cells #[.int .i64 k,.int .i64 z,.string q,.string A,.int .i64 (n:Int),.int .i64 (j:Int)] 108)) p.d) p.os:=fun d D=>Calls.regrown_of (by rw[←H.out,←M.out];exact zgb o S m j _ (HA.out.later (below_regrown _ d D)) (by omega))
 have cR: ∀d D,Calls Tryz.prog 164 #[.agg #[.slice S.rq.a m.rq.length S.rq.cap,.slice S.im.a m.im.length S.im.cap,.slice S.ep.a m.ep.length S.ep.cap,.slice S.st.a m.st.length S.st.cap,.slice (some ⟨g,0,none⟩) m.ex.length S.ex.cap],.int .i64 (j:Int),.bool (zL kr)] (grow (redrawn ((w.alloc (.cells #[.slice S.rq.a m.rq.length S.rq.cap,.slice S.im.a m.im.length S.im.cap,.slice S.ep.a m.ep.length S.ep.cap,.slice S.st.a m.st.length S.st.cap,.slice (some ⟨g,0,none⟩) m.ex.length S.ex.cap] 28)).alloc (.cells #[.int .i64 k,.int .i64 z,.string q,.string A,.int .i64 (n:Int),.int .i64 (j:Int)] 108)) d) D) fun e E=>e= .returned (.string tr)∧∃p:Regrown,E=grow (redrawn ((w.alloc (.cells #[.slice S.rq.a m.rq.length S.rq.cap,.slice S.im.a m.im.length S.im.cap,.slice S.ep.a m.ep.length S.ep.cap,.slice S.st.a m.st.length S.st.cap,.slice (some ⟨g,0,none⟩) m.ex.length S.ex.cap] 28)).alloc (.cells #[.int .i64 k,.int .i64 z,.string q,.string A,.int .i64 (n:Int),.int .i64 (j:Int)] 108)) p.d) p.os:=fun d D=>Calls.regrown_of (by rw[←H.out,←U.out,M.out];exact zfj o S m i j _ _ HE.out (by omega) (by omega) (HA.out.later (below_regrown _ d D)) ac)
 have X:Hid (Six ((w.alloc (.cells #[.slice S.rq.a m.rq.length S.rq.cap,.slice S.im.a m.im.length S.im.cap,.slice S.ep.a m.ep.length S.ep.cap,.slice S.st.a m.st.length S.st.cap,.slice (some ⟨g,0,none⟩) m.ex.length S.ex.cap] 28)).alloc (.cells #[.int .i64 k,.int .i64 z,.string q,.string A,.int .i64 (n:Int),.int .i64 (j:Int)] 108)) (w.heap.size+1) (.int .i64 k) (.int .i64 z) (.string q) (.string A) (.int .i64 (n:Int)) (.int .i64 (j:Int))):=zu (zbj w _ _)
 have Y:=zc (zk (zce (o':=.cells #[.int .i64 k,.int .i64 z,.string q,.string A,.int .i64 (n:Int),.int .i64 (j:Int)] 108) (heap_alloc_new w (.cells #[.slice S.rq.a m.rq.length S.rq.cap,.slice S.im.a m.im.length S.im.cap,.slice S.ep.a m.ep.length S.ep.cap,.slice S.st.a m.st.length S.st.cap,.slice (some ⟨g,0,none⟩) m.ex.length S.ex.cap] 28))))
 have D0:Hid (((w.alloc (.cells #[.slice S.rq.a m.rq.length S.rq.cap,.slice S.im.a m.im.length S.im.cap,.slice S.ep.a m.ep.length S.ep.cap,.slice S.st.a m.st.length S.st.cap,.slice (some ⟨g,0,none⟩) m.ex.length S.ex.cap] 28)).alloc (.cells #[.int .i64 k,.int .i64 z,.string q,.string A,.int .i64 (n:Int),.int .i64 (j:Int)] 108)).cell? ⟨g,j*6,none⟩=some (.int .i64 kr)):=by show _=_;rw[World.cell?_alloc_past _ _ _ (by rw[zj];omega),World.cell?_alloc_past _ _ _ ae];exact d0
 simp only[ByteArray.size_append] at K
 have af:tPlus.size=3:=rfl
 have ak:Z.size≤1099511627776:=by omega
 have ag:tr.size≤1099511627776:=by omega
 have HV:Hid ((prX m.ex n++tPlus++zC (zL (m.ex.getD j zf).kind) (prX m.ex j))=Z++tPlus++tr):=by show _=_;rw[N.out,U.out]
 unfold zt
 rw[I]
 clear I h HA HE H N U V L O M hg2 he K af d0 eg
 go_enter Tryz.func123,Tryz.ntmps123
 go_wp2_with fail
 have x0:=cell_regrown X.out.c0
 have x4:=cell_regrown X.out.c4
 have x5:=cell_regrown X.out.c5
 have y0:=cell_regrown Y.out.1
 have y1:=cell_regrown Y.out.2.1
 have y2:=cell_regrown Y.out.2.2.1
 have y3:=cell_regrown Y.out.2.2.2.1
 have y4:=cell_regrown Y.out.2.2.2.2.1
 have e0:=cell_regrown D0.out
 refine wp_region_quiet_below (by kernel_rfl) (by kernel_rfl) ?_
 repeat (go_big_quiet_step (first|with_reducible exact cL _ _|with_reducible exact cS _ _|with_reducible exact cR _ _))
 refine wpQuiet_nil ?_
 intro w1 ab
 obtain⟨⟨dq,al⟩,J⟩:=ab
 have ad:Hid (Below w.heap.size w w1):=by show Below _ _ _;rw[J];exact (zaM w _ _).trans ((below_regrown _ _ _).mono (by rw[zj,zj];omega))
 clear J
 go_wp2
 go_ret
 exact⟨zaF HV.out.symm,ad.out⟩
theorem zlZ (o g:Nat) (S:Sv) (m:Md) (i n j:Nat) (k z:Int) (q A:ByteArray) (w:World) (I:S.ex.a=some ⟨g,0,none⟩) (h:OwnMd w o S m) (hi:i<m.ex.length) (ae:g<w.heap.size) (c0:w.cell? ⟨g,i*6,none⟩=some (.int .i64 k)) (c1:w.cell? ⟨g,i*6+1,none⟩=some (.int .i64 z)) (c2:w.cell? ⟨g,i*6+2,none⟩=some (.string q)) (c3:w.cell? ⟨g,i*6+3,none⟩=some (.string A)) (c4:w.cell? ⟨g,i*6+4,none⟩=some (.int .i64 (n:Int))) (c5:w.cell? ⟨g,i*6+5,none⟩=some (.int .i64 (j:Int))) (k1:(k==1)=false) (k2:(k==2)=false) (k3:(k==3)=false) (k4:(k==4)=false) (k5:(k==5)=false) (k6:(k==6)=false) (k7:(k==7)=true) (K:(prX m.ex n++tMinus++zC (zL (m.ex.getD j zf).kind) (prX m.ex j)).size≤1099511627776) (he:zdP o S m i) (hl:n<i) (hr:j<i) (aa:wt m.ex n≤1099511627776) (ac:wt m.ex j≤1099511627776):
  Calls Tryz.prog 123 #[zt S m,.int .i64 i] w fun e w'=>e= .returned (.string (prX m.ex n++tMinus++zC (zL (m.ex.getD j zf).kind) (prX m.ex j)))∧Below w.heap.size w w':=by
 have aj:(i:Int)<(m.ex.length:Int):=by omega
 have HA:Hid (OwnMd ((w.alloc (.cells #[.slice S.rq.a m.rq.length S.rq.cap,.slice S.im.a m.im.length S.im.cap,.slice S.ep.a m.ep.length S.ep.cap,.slice S.st.a m.st.length S.st.cap,.slice (some ⟨g,0,none⟩) m.ex.length S.ex.cap] 28)).alloc (.cells #[.int .i64 k,.int .i64 z,.string q,.string A,.int .i64 (n:Int),.int .i64 (j:Int)] 108)) o S m):=(h.alloc _).alloc _
 have HE:=zc he
 have H:Hid (zt S m= .agg #[.slice S.rq.a m.rq.length S.rq.cap,.slice S.im.a m.im.length S.im.cap,.slice S.ep.a m.ep.length S.ep.cap,.slice S.st.a m.st.length S.st.cap,.slice (some ⟨g,0,none⟩) m.ex.length S.ex.cap]):=by show _=_;rw[zt,I]
 have ah:(n:Int)<(m.ex.length:Int):=by omega
 have ai:(j:Int)<(m.ex.length:Int):=by omega
 obtain⟨g2,hg2,-,d0,-,-,-,-,-⟩:=h.expr (i:=j) (by omega)
 have eg:g2=g:=by have:=hg2.symm.trans I;simpa using this
 rw[eg] at d0
 obtain⟨kr,O⟩: ∃kr,(m.ex.getD j zf).kind=kr:=⟨_,rfl⟩
 rw[O] at d0
 have M:=zc O
 obtain⟨Z,V⟩: ∃Z,prX m.ex n=Z:=⟨_,rfl⟩
 obtain⟨tr,L⟩: ∃tr,zC (zL (m.ex.getD j zf).kind) (prX m.ex j)=tr:=⟨_,rfl⟩
 rw[V,L] at K
 have N:=zc V
 have U:=zc L
 have cL: ∀d D,Calls Tryz.prog 123 #[.agg #[.slice S.rq.a m.rq.length S.rq.cap,.slice S.im.a m.im.length S.im.cap,.slice S.ep.a m.ep.length S.ep.cap,.slice S.st.a m.st.length S.st.cap,.slice (some ⟨g,0,none⟩) m.ex.length S.ex.cap],.int .i64 (n:Int)] (grow (redrawn ((w.alloc (.cells #[.slice S.rq.a m.rq.length S.rq.cap,.slice S.im.a m.im.length S.im.cap,.slice S.ep.a m.ep.length S.ep.cap,.slice S.st.a m.st.length S.st.cap,.slice (some ⟨g,0,none⟩) m.ex.length S.ex.cap] 28)).alloc (.cells #[.int .i64 k,.int .i64 z,.string q,.string A,.int .i64 (n:Int),.int .i64 (j:Int)] 108)) d) D) fun e E=>e= .returned (.string Z)∧∃p:Regrown,E=grow (redrawn ((w.alloc (.cells #[.slice S.rq.a m.rq.length S.rq.cap,.slice S.im.a m.im.length S.im.cap,.slice S.ep.a m.ep.length S.ep.cap,.slice S.st.a m.st.length S.st.cap,.slice (some ⟨g,0,none⟩) m.ex.length S.ex.cap] 28)).alloc (.cells #[.int .i64 k,.int .i64 z,.string q,.string A,.int .i64 (n:Int),.int .i64 (j:Int)] 108)) p.d) p.os:=fun d D=>Calls.regrown_of (by rw[←H.out,←N.out];exact HE.out n _ (by omega) (by omega) (HA.out.later (below_regrown _ d D)) aa)
 have cS: ∀d D,Calls Tryz.prog 165 #[.agg #[.slice S.rq.a m.rq.length S.rq.cap,.slice S.im.a m.im.length S.im.cap,.slice S.ep.a m.ep.length S.ep.cap,.slice S.st.a m.st.length S.st.cap,.slice (some ⟨g,0,none⟩) m.ex.length S.ex.cap],.int .i64 (j:Int)] (grow (redrawn ((w.alloc (.cells #[.slice S.rq.a m.rq.length S.rq.cap,.slice S.im.a m.im.length S.im.cap,.slice S.ep.a m.ep.length S.ep.cap,.slice S.st.a m.st.length S.st.cap,.slice (some ⟨g,0,none⟩) m.ex.length S.ex.cap] 28)).alloc (.cells #[.int .i64 k,.int .i64 z,.string q,.string A,.int .i64 (n:Int),.int .i64 (j:Int)] 108)) d) D) fun e E=>e= .returned (.bool (zL kr))∧∃p:Regrown,E=grow (redrawn ((w.alloc (.cells #[.slice S.rq.a m.rq.length S.rq.cap,.slice S.im.a m.im.length S.im.cap,.slice S.ep.a m.ep.length S.ep.cap,.slice S.st.a m.st.length S.st.cap,.slice (some ⟨g,0,none⟩) m.ex.length S.ex.cap] 28)).alloc (.cells #[.int .i64 k,.int .i64 z,.string q,.string A,.int .i64 (n:Int),.int .i64 (j:Int)] 108)) p.d) p.os:=fun d D=>Calls.regrown_of (by rw[←H.out,←M.out];exact zgb o S m j _ (HA.out.later (below_regrown _ d D)) (by omega))
 have cR: ∀d D,Calls Tryz.prog 164 #[.agg #[.slice S.rq.a m.rq.length S.rq.cap,.slice S.im.a m.im.length S.im.cap,.slice S.ep.a m.ep.length S.ep.cap,.slice S.st.a m.st.length S.st.cap,.slice (some ⟨g,0,none⟩) m.ex.length S.ex.cap],.int .i64 (j:Int),.bool (zL kr)] (grow (redrawn ((w.alloc (.cells #[.slice S.rq.a m.rq.length S.rq.cap,.slice S.im.a m.im.length S.im.cap,.slice S.ep.a m.ep.length S.ep.cap,.slice S.st.a m.st.length S.st.cap,.slice (some ⟨g,0,none⟩) m.ex.length S.ex.cap] 28)).alloc (.cells #[.int .i64 k,.int .i64 z,.string q,.string A,.int .i64 (n:Int),.int .i64 (j:Int)] 108)) d) D) fun e E=>e= .returned (.string tr)∧∃p:Regrown,E=grow (redrawn ((w.alloc (.cells #[.slice S.rq.a m.rq.length S.rq.cap,.slice S.im.a m.im.length S.im.cap,.slice S.ep.a m.ep.length S.ep.cap,.slice S.st.a m.st.length S.st.cap,.slice (some ⟨g,0,none⟩) m.ex.length S.ex.cap] 28)).alloc (.cells #[.int .i64 k,.int .i64 z,.string q,.string A,.int .i64 (n:Int),.int .i64 (j:Int)] 108)) p.d) p.os:=fun d D=>Calls.regrown_of (by rw[←H.out,←U.out,M.out];exact zfj o S m i j _ _ HE.out (by omega) (by omega) (HA.out.later (below_regrown _ d D)) ac)
 have X:Hid (Six ((w.alloc (.cells #[.slice S.rq.a m.rq.length S.rq.cap,.slice S.im.a m.im.length S.im.cap,.slice S.ep.a m.ep.length S.ep.cap,.slice S.st.a m.st.length S.st.cap,.slice (some ⟨g,0,none⟩) m.ex.length S.ex.cap] 28)).alloc (.cells #[.int .i64 k,.int .i64 z,.string q,.string A,.int .i64 (n:Int),.int .i64 (j:Int)] 108)) (w.heap.size+1) (.int .i64 k) (.int .i64 z) (.string q) (.string A) (.int .i64 (n:Int)) (.int .i64 (j:Int))):=zu (zbj w _ _)
 have Y:=zc (zk (zce (o':=.cells #[.int .i64 k,.int .i64 z,.string q,.string A,.int .i64 (n:Int),.int .i64 (j:Int)] 108) (heap_alloc_new w (.cells #[.slice S.rq.a m.rq.length S.rq.cap,.slice S.im.a m.im.length S.im.cap,.slice S.ep.a m.ep.length S.ep.cap,.slice S.st.a m.st.length S.st.cap,.slice (some ⟨g,0,none⟩) m.ex.length S.ex.cap] 28))))
 have D0:Hid (((w.alloc (.cells #[.slice S.rq.a m.rq.length S.rq.cap,.slice S.im.a m.im.length S.im.cap,.slice S.ep.a m.ep.length S.ep.cap,.slice S.st.a m.st.length S.st.cap,.slice (some ⟨g,0,none⟩) m.ex.length S.ex.cap] 28)).alloc (.cells #[.int .i64 k,.int .i64 z,.string q,.string A,.int .i64 (n:Int),.int .i64 (j:Int)] 108)).cell? ⟨g,j*6,none⟩=some (.int .i64 kr)):=by show _=_;rw[World.cell?_alloc_past _ _ _ (by rw[zj];omega),World.cell?_alloc_past _ _ _ ae];exact d0
 simp only[ByteArray.size_append] at K
 have af:tMinus.size=3:=rfl
 have ak:Z.size≤1099511627776:=by omega
 have ag:tr.size≤1099511627776:=by omega
 have HV:Hid ((prX m.ex n++tMinus++zC (zL (m.ex.getD j zf).kind) (prX m.ex j))=Z++tMinus++tr):=by show _=_;rw[N.out,U.out]
 unfold zt
 rw[I]
 clear I h HA HE H N U V L O M hg2 he K af d0 eg
 go_enter Tryz.func123,Tryz.ntmps123
 go_wp2_with fail
 have x0:=cell_regrown X.out.c0
 have x4:=cell_regrown X.out.c4
 have x5:=cell_regrown X.out.c5
 have y0:=cell_regrown Y.out.1
 have y1:=cell_regrown Y.out.2.1
 have y2:=cell_regrown Y.out.2.2.1
 have y3:=cell_regrown Y.out.2.2.2.1
 have y4:=cell_regrown Y.out.2.2.2.2.1
 have e0:=cell_regrown D0.out
 refine wp_region_quiet_below (by kernel_rfl) (by kernel_rfl) ?_
 repeat (go_big_quiet_step (first|with_reducible exact cL _ _|with_reducible exact cS _ _|with_reducible exact cR _ _))
 refine wpQuiet_nil ?_
 intro w1 ab
 obtain⟨⟨dq,al⟩,J⟩:=ab
 have ad:Hid (Below w.heap.size w w1):=by show Below _ _ _;rw[J];exact (zaM w _ _).trans ((below_regrown _ _ _).mono (by rw[zj,zj];omega))
 clear J
 go_wp2
 go_ret
 exact⟨zaF HV.out.symm,ad.out⟩
def zaN (e:Ep):Im:=⟨sNone,e.loc,e.name⟩
def zbl (C:Cx) (exp:Bool) (q:PS):Except Nat (PS×Ep):=bd (zh C true q) fun a=>bd (asP C exp a) fun b=>.ok (b.1,⟨0,b.2,a.2,sNone⟩)
theorem zhQ (C:Cx) (h:Bool) (q:PS) (acc:List Ep):zav C h q acc=bd (zbl C h q) fun x=>
  if isT C x.1.pos 4 zbp then zav C h (adv x.1) (acc++[x.2]) else bd (zd C 4 zbd x.1) fun q'=>.ok (q',acc++[x.2]):=by
 rw[zeO,zbl,zK]
 refine zZ fun a _=>?_
 rw[zK]
 rfl
theorem zma {C:Cx} {q:PS} {a:PS×ByteArray} (j:zh C true q= .ok a) (h:isT C a.1.pos 1 sAs=true):zbl C false q=bd (zh C false (adv a.1)) fun b=>.ok (b.1,⟨0,b.2,a.2,sNone⟩):=by
 rw[zbl,j,zx,asP,if_pos h]
theorem zmb {C:Cx} {q:PS} {a:PS×ByteArray} (j:zh C true q= .ok a) (h:isT C a.1.pos 1 sAs=false) (n:(a.2.toList==[100,101,102,97,117,108,116])=true):zbl C false q= .error (zq C a.1.pos):=by
 rw[zbl,j,zx,asP,if_neg (by rw[h];decide),if_pos (by rw[n];rfl)]
 rfl
theorem zmc {C:Cx} {q:PS} {a:PS×ByteArray} (j:zh C true q= .ok a) (h:isT C a.1.pos 1 sAs=false) (n:(a.2.toList==[100,101,102,97,117,108,116])=false):zbl C false q= .ok (a.1,⟨0,a.2,a.2,sNone⟩):=by
 rw[zbl,j,zx,asP,if_neg (by rw[h];decide),if_neg (by rw[n];decide)]
 rfl
theorem zbt {w:World} {b:Nat} {t:TypeId} {n j o:Value} (h:w.heap[b]? =some (.cells #[n,j,o] t (0,0))):
  w.cell? ⟨b,0,none⟩=some n∧w.cell? ⟨b,1,none⟩=some j∧w.cell? ⟨b,2,none⟩=some o∧∀i,w.frozen? ⟨b,i,none⟩=false:=by
 refine⟨?_,?_,?_,fun i=>?_⟩<;>simp[World.cell?,World.frozen?,h]
theorem zhR {w:World} {b:Nat} {z q A j o n:Value} {t:TypeId} (h:w.heap[b]? =some (.cells #[z,q,A] t (0,0))):
  (((w.setCell ⟨b,0,none⟩ j).setCell ⟨b,1,none⟩ o).setCell ⟨b,2,none⟩ n).heap[b]? =some (.cells #[j,o,n] t (0,0)):=by
 have e:=zas (i:=2) (u:=n) (zas (i:=1) (u:=o) (zas (i:=0) (u:=j) h))
 rw[e]
 simp
theorem zmd (C:Cx) (J n j z:Nat) (S:Sv) (q:PS) (w:World) (h:IM C J n j z S q w):
  Calls Tryz.prog 197 #[.pointer (some ⟨z,0,none⟩)] w (zN C J n j z (zbl C false q) (·.1) (fun a=>imV (zaN a.2)) S w):=by
 have K:=zc h
 have A:w.heap.size≠z:=by have:=h.lt;omega
 have E:w.heap.size≠J:=by have:=(zak h.mem.tok).1;omega
 clear h
 go_enter Tryz.func197,Tryz.ntmps197
 go_wp2_with fail
 refine (zep C J n j z S q _ (K.out.alloc _)).mono ?_
 cases I:zh C true q with
 |error p=>
  rintro e w1 ⟨rfl,hb⟩
  have Z:Hid (Below j w w1):=(K.out.back ((IS.refl _ _ _).alloc _)).trans hb
  have O:Hid (zbl C false q= .error p):=by show _=_;rw[zbl,I];rfl
  unfold Pan
  go_wp2
  refine⟨rfl,?_⟩
  rw[O.out]
  exact⟨rfl,Z.out⟩
 |ok a=>
  rintro e w1 ⟨rfl,H,m,s⟩
  have M:=zc m
  have L:=zc s
  clear m s
  cases X:isT C a.1.pos 1 sAs with
  |true=>
   have HY:=zc (zma I X)
   go_wp2_with fail
   refine (zH C J n j z H a.1 1 sAs _ M.out (by decide)).mono ?_
   rintro e Y ⟨rfl,m,s⟩
   rw[X] at m ⊢
   have D:=zc m
   have o:Hid (IS z S (w.alloc (.cells #[.string sNone,.string sNone,.string sNone] 100)) H Y):=L.out.trans s
   clear m s
   go_wp2_with fail
   refine (zcM C J n j z H (adv a.1) _ D.out).mono ?_
   cases aa:zh C false (adv a.1) with
   |error p=>
    rintro e V ⟨rfl,hb⟩
    have Z:Hid (Below j w V):=(K.out.back o.out.from).trans hb
    have O:Hid (zbl C false q= .error p):=bdE HY.out aa
    unfold Pan
    go_wp2
    refine⟨rfl,?_⟩
    rw[O.out]
    exact⟨rfl,Z.out⟩
   |ok c=>
    rintro e V ⟨rfl,S3,m,s⟩
    have ab:=zc m
    have U:Hid (IS z S (w.alloc (.cells #[.string sNone,.string sNone,.string sNone] 100)) S3 V):=o.out.trans s
    clear m s
    have O:=zc (bdO HY.out aa)
    have HG:Hid (V.heap[w.heap.size]? =some (.cells #[.string sNone,.string sNone,.string sNone] 100 (0,0))):=IS.kept K.out U.out rfl
    have N:Hid (¬S3.has w.heap.size):=IS.free K.out U.out
    obtain⟨b0,b1,b2,bf⟩:=zbt HG.out
    go_wp2
    refine bodyPost_ret (results_cell_row rfl _ _ w.heap.size 100 _ (0,0) _ rfl (zhR HG.out) Tryz.underlying100 rfl (by kernel_rfl)) rfl ?_
    rw[O.out]
    exact⟨rfl,S3,((ab.out.set A E N.out _ _).set A E N.out _ _).set A E N.out _ _,((U.out.from.new (Nat.le_refl _) _ _).new (Nat.le_refl _) _ _).new (Nat.le_refl _) _ _⟩
  |false=>
   cases hd:(a.2.toList==[100,101,102,97,117,108,116]) with
   |true=>
    have HY:=zc (zmb I X hd)
    go_wp2_with fail
    refine (zH C J n j z H a.1 1 sAs _ M.out (by decide)).mono ?_
    rintro e Y ⟨rfl,m,s⟩
    rw[X] at m ⊢
    have D:=zc m
    have o:Hid (IS z S (w.alloc (.cells #[.string sNone,.string sNone,.string sNone] 100)) H Y):=L.out.trans s
    clear m s
    go_wp2_with fail
    refine (zdG C J n j z H a.1 _ D.out).mono ?_
    rintro e V ⟨rfl,hb⟩
    have Z:Hid (Below j w V):=(K.out.back o.out.from).trans (hb.mono D.out.mem.base)
    unfold Pan
    go_wp2
    refine⟨rfl,?_⟩
    rw[HY.out]
    exact⟨rfl,Z.out⟩
   |false=>
    have O:=zc (zmc I X hd)
    go_wp2_with fail
    refine (zH C J n j z H a.1 1 sAs _ M.out (by decide)).mono ?_
    rintro e Y ⟨rfl,m,s⟩
    rw[X] at m ⊢
    have D:=zc m
    have o:Hid (IS z S (w.alloc (.cells #[.string sNone,.string sNone,.string sNone] 100)) H Y):=L.out.trans s
    clear m s
    have HG:Hid (Y.heap[w.heap.size]? =some (.cells #[.string sNone,.string sNone,.string sNone] 100 (0,0))):=IS.kept K.out o.out rfl
    have N:Hid (¬H.has w.heap.size):=IS.free K.out o.out
    obtain⟨b0,b1,b2,bf⟩:=zbt HG.out
    go_wp2
    refine bodyPost_ret (results_cell_row rfl _ _ w.heap.size 100 _ (0,0) _ rfl (zhR HG.out) Tryz.underlying100 rfl (by kernel_rfl)) rfl ?_
    rw[O.out]
    exact⟨rfl,H,((D.out.set A E N.out _ _).set A E N.out _ _).set A E N.out _ _,((o.out.from.new (Nat.le_refl _) _ _).new (Nat.le_refl _) _ _).new (Nat.le_refl _) _ _⟩
end Go.Proofs.YticdggnnpjachaaGreat
