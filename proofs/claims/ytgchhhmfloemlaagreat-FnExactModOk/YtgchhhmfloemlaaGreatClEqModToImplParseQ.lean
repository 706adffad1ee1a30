/-
  What impl's isSameMod answers: the walk.
  How often expressions are used,counted in a row of numbers. No program is spoken of.
  What impl.Dec and spec.Dec answer,at every number: the walks.
  What l5Two,l5Sum,l5Side and l5Expr of the specification answer: the walks.
  What importedName and importList of impl's parser answer: the walks.
-/
import Derived.Laws.StructEq
import Derived.Test.YtgchhhmfloemlaaGreatClTwoModToSameSpec
import Derived.Test.YtgchhhmfloemlaaGreatClImplParseJToMdMem
import Derived.Test.YtgchhhmfloemlaaGreatClSpecLexAToSpecLexC
import Derived.Test.YtgchhhmfloemlaaGreatClBytesToTreeMath
import Derived.Test.YtgchhhmfloemlaaGreatClSpecParseA
namespace Go.Proofs.YtgchhhmfloemlaaGreat
open Go.RowKit Go.PlainAid Go.Sort

theorem zbiw (x y : Im) (w : World) : Sem.run Tryz.prog (binOp .neq 100 (.agg #[.string x.spec,.string x.first,.string x.loc]) (.agg #[.string y.spec,.string y.first,.string y.loc])) w = .ok (.bool (!eqIm x y)) w:=by
 have uS:=Tryz.underlying9
 have aS:=Tryz.isAgg9
 have zS:=Tryz.sizeOf9
 have uI:=Tryz.underlying3
 have aI:=Tryz.isAgg3
 have zI:=Tryz.sizeOf3
 have hS : Tryz.prog.underlying 100 = some (.struct (Tryz.prog.fieldsOf 100)):=by kernel_rfl
 have hp : Tryz.prog.stoodInHeld 100 = false:=by kernel_rfl
 rw [run_neq_struct,show (10000 : Nat) = 9999 + 1 from rfl,run_equalIn_agg w 9999 100 _ _ hS hp]
 simp only [Program.fieldsOf,Tryz.underlying100]
 go_simp
 by_cases h0 : x.spec.toList = y.spec.toList <;> by_cases h1 : x.first.toList = y.first.toList <;> by_cases h2 : x.loc.toList = y.loc.toList <;> simp [eqIm,h0,h1,h2]
theorem zbix (op : BinOp) (a b : Operand) (x y : Im) (w : World) : Sem.run Tryz.prog (eqGuard op 100 a b (.agg #[.string x.spec,.string x.first,.string x.loc]) (.agg #[.string y.spec,.string y.first,.string y.loc])) w = .ok () w:=run_eqGuard_agg w op 100 a b _ _ (by kernel_rfl)
theorem zbiy (x y : Ep) (w : World) : Sem.run Tryz.prog (binOp .neq 102 (.agg #[.int .i64 x.kind,.string x.name,.string x.loc,.string x.spec]) (.agg #[.int .i64 y.kind,.string y.name,.string y.loc,.string y.spec])) w = .ok (.bool (!eqEp x y)) w:=by
 have uS:=Tryz.underlying9
 have aS:=Tryz.isAgg9
 have zS:=Tryz.sizeOf9
 have uI:=Tryz.underlying3
 have aI:=Tryz.isAgg3
 have zI:=Tryz.sizeOf3
 have hS : Tryz.prog.underlying 102 = some (.struct (Tryz.prog.fieldsOf 102)):=by kernel_rfl
 have hp : Tryz.prog.stoodInHeld 102 = false:=by kernel_rfl
 rw [run_neq_struct,show (10000 : Nat) = 9999 + 1 from rfl,run_equalIn_agg w 9999 102 _ _ hS hp]
 simp only [Program.fieldsOf,Tryz.underlying102]
 go_simp
 by_cases h0 : x.kind = y.kind <;> by_cases h1 : x.name.toList = y.name.toList <;> by_cases h2 : x.loc.toList = y.loc.toList <;> by_cases h3 : x.spec.toList = y.spec.toList <;> simp [eqEp,h0,h1,h2,h3]
theorem zbiz (op : BinOp) (a b : Operand) (x y : Ep) (w : World) : Sem.run Tryz.prog (eqGuard op 102 a b (.agg #[.int .i64 x.kind,.string x.name,.string x.loc,.string x.spec]) (.agg #[.int .i64 y.kind,.string y.name,.string y.loc,.string y.spec])) w = .ok () w:=run_eqGuard_agg w op 102 a b _ _ (by kernel_rfl)
theorem zbja (x y : Sm) (w : World) : Sem.run Tryz.prog (binOp .neq 104 (.agg #[.int .i64 x.kind,.string x.name,.int .i64 x.expr]) (.agg #[.int .i64 y.kind,.string y.name,.int .i64 y.expr])) w = .ok (.bool (!eqSm x y)) w:=by
 have uS:=Tryz.underlying9
 have aS:=Tryz.isAgg9
 have zS:=Tryz.sizeOf9
 have uI:=Tryz.underlying3
 have aI:=Tryz.isAgg3
 have zI:=Tryz.sizeOf3
 have hS : Tryz.prog.underlying 104 = some (.struct (Tryz.prog.fieldsOf 104)):=by kernel_rfl
 have hp : Tryz.prog.stoodInHeld 104 = false:=by kernel_rfl
 rw [run_neq_struct,show (10000 : Nat) = 9999 + 1 from rfl,run_equalIn_agg w 9999 104 _ _ hS hp]
 simp only [Program.fieldsOf,Tryz.underlying104]
 go_simp
 by_cases h0 : x.kind = y.kind <;> by_cases h1 : x.name.toList = y.name.toList <;> by_cases h2 : x.expr = y.expr <;> simp [eqSm,h0,h1,h2]
theorem zbjb (op : BinOp) (a b : Operand) (x y : Sm) (w : World) : Sem.run Tryz.prog (eqGuard op 104 a b (.agg #[.int .i64 x.kind,.string x.name,.int .i64 x.expr]) (.agg #[.int .i64 y.kind,.string y.name,.int .i64 y.expr])) w = .ok () w:=run_eqGuard_agg w op 104 a b _ _ (by kernel_rfl)
theorem zbjc (x y : Ex) (w : World) : Sem.run Tryz.prog (binOp .neq 106 (.agg #[.int .i64 x.kind,.int .i64 x.num,.string x.name,.string x.field,.int .i64 x.l,.int .i64 x.r]) (.agg #[.int .i64 y.kind,.int .i64 y.num,.string y.name,.string y.field,.int .i64 y.l,.int .i64 y.r])) w = .ok (.bool (!eqEx x y)) w:=by
 have uS:=Tryz.underlying9
 have aS:=Tryz.isAgg9
 have zS:=Tryz.sizeOf9
 have uI:=Tryz.underlying3
 have aI:=Tryz.isAgg3
 have zI:=Tryz.sizeOf3
 have hS : Tryz.prog.underlying 106 = some (.struct (Tryz.prog.fieldsOf 106)):=by kernel_rfl
 have hp : Tryz.prog.stoodInHeld 106 = false:=by kernel_rfl
 rw [run_neq_struct,show (10000 : Nat) = 9999 + 1 from rfl,run_equalIn_agg w 9999 106 _ _ hS hp]
 simp only [Program.fieldsOf,Tryz.underlying106]
 go_simp
 by_cases h0 : x.kind = y.kind <;> by_cases h1 : x.num = y.num <;> by_cases h2 : x.name.toList = y.name.toList <;> by_cases h3 : x.field.toList = y.field.toList <;> by_cases h4 : x.l = y.l <;> by_cases h5 : x.r = y.r <;> simp [eqEx,h0,h1,h2,h3,h4,h5]
theorem zbjd (op : BinOp) (a b : Operand) (x y : Ex) (w : World) : Sem.run Tryz.prog (eqGuard op 106 a b (.agg #[.int .i64 x.kind,.int .i64 x.num,.string x.name,.string x.field,.int .i64 x.l,.int .i64 x.r]) (.agg #[.int .i64 y.kind,.int .i64 y.num,.string y.name,.string y.field,.int .i64 y.l,.int .i64 y.r])) w = .ok () w:=run_eqGuard_agg w op 106 a b _ _ (by kernel_rfl)
set_option maxRecDepth 100000 in
set_option maxHeartbeats 6400000 in
theorem ztv (b1 b2 : Nat) (S1 S2 : Sv) (m1 m2 : Md) (w : World) (h1 : OwnMd w b1 S1 m1) (h2 : OwnMd w b2 S2 m2) (hf : zos m1) :
  Calls Tryz.prog 33 #[modD S1 m1,modD S2 m2] w fun e w' => zfk (m1 = m2) e ∧ Below w.heap.size w w':=by
 have H1:=hidI h1
 have H2:=hidI h2
 have HF:=hidI hf
 clear h1 h2 hf
 unfold modD
 go_enter Tryz.func33,Tryz.ntmps33
 go_upto_region 1 with fail
 refine zv (R:=TwoM w b1 b2 S1 S2 m1 m2) (znu w b1 b2 S1 S2 m1 m2 H1.out H2.out) ?_
 clear H1 H2
 intro w0 h
 have T0:=hidI h
 clear h
 obtain ⟨c0,c1,c2,c3,c4,cf⟩:=zi T0.out.1
 obtain ⟨d0,d1,d2,d3,d4,df⟩:=zi T0.out.2.1
 go_wp2_with fail
 refine (zvh b1 b2 S1.rq S2.rq m1.rq m2.rq w0 (by rw [← zjb]; exact T0.out.2.2.1.rq) (by rw [← zjb]; exact T0.out.2.2.2.1.rq) HF.out.1).mono ?_
 rintro e w1 ⟨⟨r,rfl,hr⟩,hb⟩
 have T1:=hidI (T0.out.later hb)
 have R0:=hidI hr
 clear hb hr c0 c1 c2 c3 c4 cf d0 d1 d2 d3 d4 df
 obtain ⟨c0,c1,c2,c3,c4,cf⟩:=zi T1.out.1
 obtain ⟨d0,d1,d2,d3,d4,df⟩:=zi T1.out.2.1
 cases r with
 | false =>
  go_wp2
  go_ret
  exact ⟨⟨false,rfl,⟨fun k => (by cases k),fun k => (by have:=R0.out.2 (by rw [k]); cases this)⟩⟩,T1.out.2.2.2.2⟩
 | true =>
  go_wp2_with fail
  refine (zxx zbiw zbix b1 b2 S1.im S2.im m1.im m2.im w1 T1.out.2.2.1.im T1.out.2.2.2.1.im HF.out.2.1).mono ?_
  rintro e w2 ⟨⟨r,rfl,hr⟩,hb⟩
  have T2:=hidI (T1.out.later hb)
  have R1:=hidI hr
  clear hb hr c0 c1 c2 c3 c4 cf d0 d1 d2 d3 d4 df
  obtain ⟨c0,c1,c2,c3,c4,cf⟩:=zi T2.out.1
  obtain ⟨d0,d1,d2,d3,d4,df⟩:=zi T2.out.2.1
  cases r with
  | false =>
   go_wp2
   go_ret
   exact ⟨⟨false,rfl,⟨fun k => (by cases k),fun k => (by have:=R1.out.2 (by rw [k]); cases this)⟩⟩,T2.out.2.2.2.2⟩
  | true =>
   go_wp2_with fail
   refine (zya zbiy zbiz b1 b2 S1.ep S2.ep m1.ep m2.ep w2 T2.out.2.2.1.ep T2.out.2.2.2.1.ep HF.out.2.2.1).mono ?_
   rintro e w3 ⟨⟨r,rfl,hr⟩,hb⟩
   have T3:=hidI (T2.out.later hb)
   have R2:=hidI hr
   clear hb hr c0 c1 c2 c3 c4 cf d0 d1 d2 d3 d4 df
   obtain ⟨c0,c1,c2,c3,c4,cf⟩:=zi T3.out.1
   obtain ⟨d0,d1,d2,d3,d4,df⟩:=zi T3.out.2.1
   cases r with
   | false =>
    go_wp2
    go_ret
    exact ⟨⟨false,rfl,⟨fun k => (by cases k),fun k => (by have:=R2.out.2 (by rw [k]); cases this)⟩⟩,T3.out.2.2.2.2⟩
   | true =>
    go_wp2_with fail
    refine (zyd zbja zbjb b1 b2 S1.st S2.st m1.st m2.st w3 T3.out.2.2.1.st T3.out.2.2.2.1.st HF.out.2.2.2.1).mono ?_
    rintro e w4 ⟨⟨r,rfl,hr⟩,hb⟩
    have T4:=hidI (T3.out.later hb)
    have R3:=hidI hr
    clear hb hr c0 c1 c2 c3 c4 cf d0 d1 d2 d3 d4 df
    obtain ⟨c0,c1,c2,c3,c4,cf⟩:=zi T4.out.1
    obtain ⟨d0,d1,d2,d3,d4,df⟩:=zi T4.out.2.1
    cases r with
    | false =>
     go_wp2
     go_ret
     exact ⟨⟨false,rfl,⟨fun k => (by cases k),fun k => (by have:=R3.out.2 (by rw [k]); cases this)⟩⟩,T4.out.2.2.2.2⟩
    | true =>
     go_wp2_with fail
     refine (zyg zbjc zbjd b1 b2 S1.ex S2.ex m1.ex m2.ex w4 T4.out.2.2.1.ex T4.out.2.2.2.1.ex HF.out.2.2.2.2).mono ?_
     rintro e w5 ⟨⟨r,rfl,hr⟩,hb⟩
     have T5:=hidI (T4.out.later hb)
     have R4:=hidI hr
     clear hb hr c0 c1 c2 c3 c4 cf d0 d1 d2 d3 d4 df
     obtain ⟨c0,c1,c2,c3,c4,cf⟩:=zi T5.out.1
     obtain ⟨d0,d1,d2,d3,d4,df⟩:=zi T5.out.2.1
     cases r with
     | false =>
      go_wp2
      go_ret
      exact ⟨⟨false,rfl,⟨fun k => (by cases k),fun k => (by have:=R4.out.2 (by rw [k]); cases this)⟩⟩,T5.out.2.2.2.2⟩
     | true =>
      go_wp2
      go_ret
      exact ⟨⟨true,rfl,⟨fun _ => zbiu (R0.out.1 (by simp)) (R1.out.1 (by simp)) (R2.out.1 (by simp)) (R3.out.1 (by simp)) (R4.out.1 (by simp)),fun _ => rfl⟩⟩,T5.out.2.2.2.2⟩
end Go.Proofs.YtgchhhmfloemlaaGreat
namespace Go.Proofs.YtgchhhmfloemlaaGreat
open Go.RowKit Go.PlainAid Go.Sort

theorem zsy (a b : List Ex) (k : Int) : zcl (a ++ b) k = zcl a k + zcl b k:=by simp [zcl]
theorem zsz (a b : List Sm) (k : Int) : zdl (a ++ b) k = zdl a k + zdl b k:=by simp [zdl]
theorem zqx {ex : List Ex} {i : Nat} (hi : i < ex.length) (k : Int) : zcl (ex.take (i + 1)) k = zcl (ex.take i) k + u1 ex[i] k:=by
 rw [List.take_succ_eq_append_getElem hi,zsy]
 simp [zcl,u1]
theorem zbaz {st : List Sm} {i : Nat} (hi : i < st.length) (k : Int) : zdl (st.take (i + 1)) k = zdl (st.take i) k + if st[i].expr == k then 1 else 0:=by
 rw [List.take_succ_eq_append_getElem hi,zsz]
 simp [zdl]
theorem zmn (ex : List Ex) (k : Int) : zcl ex k ≤ 2 * ex.length:=by
 induction ex with
 | nil => simp [zcl]
 | cons x l ih =>
  rw [show x :: l = [x] ++ l from rfl,zsy]
  have : zcl [x] k ≤ 2:=by
   simp only [zcl,List.map_cons,List.map_nil,List.sum_cons,List.sum_nil]
   split
   ·split <;> split <;> omega
   ·omega
  simp only [List.length_append,List.length_cons,List.length_nil]
  omega
theorem zvs (st : List Sm) (k : Int) : zdl st k ≤ st.length:=by
 induction st with
 | nil => simp [zdl]
 | cons x l ih =>
  rw [show x :: l = [x] ++ l from rfl,zsz]
  have : zdl [x] k ≤ 1:=by
   simp only [zdl,List.map_cons,List.map_nil,List.sum_cons,List.sum_nil]
   split <;> omega
  simp only [List.length_append,List.length_cons,List.length_nil]
  omega
/-- A row of n numbers. -/
def rowN (n : Nat) (f : Nat → Nat) : List Value:=(List.range n).map fun k => .int .i64 (f k : Int)
theorem zpz (n : Nat) (f : Nat → Nat) : (rowN n f).length = n:=by simp [rowN]
theorem zou {n : Nat} (f : Nat → Nat) {k : Nat} (hk : k < n) : (rowN n f)[k]? = some (.int .i64 (f k : Int)):=by
 unfold rowN
 rw [List.getElem?_map,List.getElem?_range hk]
 rfl
theorem zbgo {n l : Nat} (f g : Nat → Nat) (v : Nat) (hv : g l = v) (h : ∀ k,k ≠ l → g k = f k) : (rowN n f).set l (.int .i64 (v : Int)) = rowN n g:=by
 apply List.ext_getElem?
 intro k
 by_cases hk : k < n
 ·by_cases e : k = l
  ·subst e
   rw [List.getElem?_set_self (by rw [zpz]; exact hk),zou g hk,hv]
  ·rw [List.getElem?_set_ne (fun x => e x.symm),zou f hk,zou g hk,h k e]
 ·rw [List.getElem?_eq_none (by rw [List.length_set,zpz]; omega),List.getElem?_eq_none (by rw [zpz]; omega)]
theorem zgv {n : Nat} {f g : Nat → Nat} (h : ∀ k,k < n → f k = g k) : rowN n f = rowN n g:=by
 unfold rowN
 refine List.map_congr_left fun k hk => ?_
 rw [h k (List.mem_range.1 hk)]
/-- One use more of l. -/
def plus (f : Nat → Nat) (l : Nat) : Nat → Nat:=fun k => f k + if k = l then 1 else 0
theorem zbke (f : Nat → Nat) (l : Nat) : plus f l l = f l + 1:=by simp [plus]
theorem zbkf (f : Nat → Nat) {l k : Nat} (h : k ≠ l) : plus f l k = f k:=by simp [plus,h]
theorem zvt {ex : List Ex} {i : Nat} (hi : i < ex.length) (ht : twoK ex[i].kind = true) (h0 : 0 ≤ ex[i].l) (h1 : 0 ≤ ex[i].r) (k : Nat) : plus (plus (fun k => zcl (ex.take i) (k : Int)) ex[i].l.toNat) ex[i].r.toNat k = zcl (ex.take (i + 1)) (k : Int):=by
 rw [zqx hi,u1,if_pos ht]
 unfold plus
 have e1 : (ex[i].l == (k : Int)) = decide (k = ex[i].l.toNat):=by
  rw [Bool.eq_iff_iff,beq_iff_eq,decide_eq_true_iff]; omega
 have e2 : (ex[i].r == (k : Int)) = decide (k = ex[i].r.toNat):=by
  rw [Bool.eq_iff_iff,beq_iff_eq,decide_eq_true_iff]; omega
 rw [e1,e2]
 simp only [decide_eq_true_eq]
 omega
theorem zvu {ex : List Ex} {i : Nat} (hi : i < ex.length) (ht : twoK ex[i].kind = false) (k : Nat) : zcl (ex.take i) (k : Int) = zcl (ex.take (i + 1)) (k : Int):=by
 rw [zqx hi,u1,if_neg (by rw [ht]; decide),Nat.add_zero]
theorem zvv {st : List Sm} {ex : List Ex} {i : Nat} (hi : i < st.length) (h0 : 0 ≤ st[i].expr) (k : Nat) : plus (fun k => zcl ex (k : Int) + zdl (st.take i) (k : Int)) st[i].expr.toNat k = zcl ex (k : Int) + zdl (st.take (i + 1)) (k : Int):=by
 rw [zbaz hi]
 unfold plus
 have e1 : (st[i].expr == (k : Int)) = decide (k = st[i].expr.toNat):=by
  rw [Bool.eq_iff_iff,beq_iff_eq,decide_eq_true_iff]; omega
 rw [e1]
 simp only [decide_eq_true_eq]
 omega
/-- Sides ahead, as far as one has looked. -/
def AheadTo (ex : List Ex) (n : Nat) : Prop:=∀ (i : Nat) (x : Ex),i < n → ex[i]? = some x → twoK x.kind = true → 0 ≤ x.l ∧ x.l < (i : Int) ∧ 0 ≤ x.r ∧ x.r < (i : Int)
theorem AheadTo.all {ex : List Ex} (h : AheadTo ex ex.length) : zff ex:=fun i x hx => h i x (List.getElem?_eq_some_iff.1 hx).1 hx
theorem AheadTo.next {ex : List Ex} {i : Nat} (h : AheadTo ex i) (hi : i < ex.length) (hx : twoK ex[i].kind = true → 0 ≤ ex[i].l ∧ ex[i].l < (i : Int) ∧ 0 ≤ ex[i].r ∧ ex[i].r < (i : Int)) : AheadTo ex (i + 1):=by
 intro j x hj he ht
 by_cases e : j = i
 ·subst e
  obtain ⟨_,rfl⟩:=List.getElem?_eq_some_iff.1 he
  exact hx ht
 ·exact h j x (by omega) he ht
theorem AheadTo.not {ex : List Ex} {i : Nat} (hi : i < ex.length) (ht : twoK ex[i].kind = true) (hx : ¬ (0 ≤ ex[i].l ∧ ex[i].l < (i : Int) ∧ 0 ≤ ex[i].r ∧ ex[i].r < (i : Int))) : ¬ zff ex:=fun h => hx (h i _ (List.getElem?_eq_getElem hi) ht)
end Go.Proofs.YtgchhhmfloemlaaGreat
namespace Go.Proofs.YtgchhhmfloemlaaGreat
open Go.RowKit Go.PlainAid

theorem Tryz.infoByte : (Tryz.prog.info? 5).map (fun i => (i.zero,i.size,i.bytes)) = some (some (.int .u8 0),1,1):=by kernel_rfl

set_option maxRecDepth 100000 in
set_option maxHeartbeats 400000 in
theorem zlv (m : Int) (w : World) (h0 : 0 ≤ m) (h1 : m ≤ 18446744073709551615) :
  Calls Tryz.prog 192 #[.int .u64 m] w fun e w' => e = .returned (.int .i64 (dcn m)) ∧ w' = w:=by
 have hd:=zfi m h0 h1
 have hd1 : dcn m ≤ 20:=hd.2.1
 have hd0 : 1 ≤ dcn m:=hd.1
 clear hd
 go_enter Tryz.func192,Tryz.ntmps192
 go_wp2
 go_loop [0,3] (fun a c => ∃ k : Nat,k + 1 ≤ dcn m ∧ a = .int .u64 (m / 10 ^ k) ∧ c = .int .i64 ((k : Int) + 1)) (fun a _ => (intOf a).toNat)
 case atStart => exact ⟨0,hd0,by simp,rfl⟩
 case round =>
  obtain ⟨k,hk,rfl,rfl⟩:=hrel
  have hb:=ziv m k h0
  have hm:=zbfy m h0 h1 k
  by_cases hlt : 10 ≤ m / 10 ^ k
  ·have hk2:=hm.1 hlt
   clear hm
   go_wp2
   go_round
   case rel => exact ⟨k + 1,by omega,by rw [zoo],by go_num⟩
   case measure => simp [intOf]; omega
  ·have hk2 : ¬ (k + 1 < dcn m):=fun h => hlt (hm.2 h)
   clear hm
   go_wp2
   go_ret
   exact ⟨zol (by omega),rfl⟩

set_option maxRecDepth 100000 in
set_option maxHeartbeats 800000 in
theorem zvw (n : Int) (w : World) (h0 : 0 ≤ n) (h1 : n ≤ 9223372036854775807) :
  Calls Tryz.prog 176 #[.int .i64 n] w fun e w' => e = .returned (.string (strOfNums (dgk n (dcn n)))) ∧ Below w.heap.size w w':=by
 obtain ⟨i0,hi,hz0,hz1,hz2⟩:=info_parts Tryz.infoByte
 have hd:=zfi n h0 (by omega)
 have hd1 : dcn n ≤ 20:=hd.2.1
 have hd0 : 1 ≤ dcn n:=hd.1
 clear hd
 go_enter Tryz.func176,Tryz.ntmps176
 go_wp2_with (first | (go_at_call 192; refine (zlv _ _ (by omega) (by omega)).mono ?_; rintro e w' ⟨rfl,rfl⟩) | (at_make; refine wpList_make_full _ rfl _ _ 40 rfl w'.heap.size 5 i0 (.int .u8 0) 1 Tryz.underlying40 hi hz0 hz1 _ _ _ _ (dcn n) rfl rfl (by omega) (by omega) ?b2 ?b3 ?b4 ?_))
 case b2 => rw [hz2]; omega
 case b3 => unfold maxLen; omega
 case b4 => exact Nat.le_refl _
 intro w1 hown hgrow
 have hbel:=(Below.refl w'.heap.size w').grown hgrow (Nat.le_refl _) (by intro k hk; cases hk)
 rw [toList_madeCells_one] at hown
 clear hgrow
 go_wp2
 go_loopw [3,7,21] (fun r _ i wr => ∃ k : Nat,k ≤ dcn n ∧ i = .int .i64 k ∧ r = .int .u64 (n / 10 ^ k) ∧ OwnB wr w'.heap.size 5 (.slice (some ⟨w'.heap.size,0,none⟩) (dcn n) (dcn n)) (dcn n) (zfo (dgk n (dcn n)) k) ∧ Below w'.heap.size w' wr) (fun _ _ i _ => dcn n - (intOf i).toNat)
 case atStart => exact ⟨0,by omega,rfl,by simp,by unfold OwnB; rw [zng,zdp,List.map_replicate]; exact hown,hbel⟩
 case round =>
  obtain ⟨k,hk,rfl,rfl,hown',hbel'⟩:=hrel
  clear hown hbel
  have hb:=ziv n k h0
  by_cases hlt : k < dcn n
  ·obtain ⟨v,hv⟩:=zpp hown' (dcn n - 1 - k) (by omega)
   have hf:=zpq hown' (dcn n - 1 - k)
   have HO:=zrs hown' (dcn n - 1 - k) (48 + n / 10 ^ k % 10)
   have HS:=znm (dgk n (dcn n)) k (48 + n / 10 ^ k % 10) (by rw [zdp]; exact hlt) (by rw [zdp]; exact zbcu n _ k hlt)
   rw [zdp] at HS
   rw [HS] at HO
   clear HS hown'
   go_wp2
   go_roundw
   case rel => exact ⟨k + 1,by omega,by go_num,by rw [zoo],HO,hbel'.setCell (Nat.le_refl _) _⟩
   case measure => simp [intOf]; omega
  ·have HF:=ztr (dgk n (dcn n))
   rw [zdp] at HF
   rw [show k = dcn n from by omega,HF] at hown'
   clear HF
   have hst:=zln (P:=Tryz.prog) (src:=40) (dst:=9) Tryz.underlying40 Tryz.underlying5 Tryz.underlying9 hown'
   go_wp2
   go_ret
   exact ⟨rfl,hbel'⟩

theorem zbgp (m : Int) (h0 : 0 < m) (h1 : m ≤ 9223372036854775808) : IntKind.u64.wrap (-IntKind.u64.wrap (-m)) = m:=by
 rw [IntKind.wrap_u64,IntKind.wrap_u64]; omega

set_option maxRecDepth 100000 in
set_option maxHeartbeats 800000 in
theorem zvx (m : Int) (w : World) (h0 : 0 < m) (h1 : m ≤ 9223372036854775808) :
  Calls Tryz.prog 176 #[.int .i64 (-m)] w fun e w' => e = .returned (.string (strOfNums (45 :: dgk m (dcn m)))) ∧ Below w.heap.size w w':=by
 obtain ⟨i0,hi,hz0,hz1,hz2⟩:=info_parts Tryz.infoByte
 have hd:=zfi m (by omega) (by omega)
 have hd1 : dcn m ≤ 20:=hd.2.1
 have hd0 : 1 ≤ dcn m:=hd.1
 clear hd
 have hu:=zbgp m h0 h1
 go_enter Tryz.func176,Tryz.ntmps176
 go_wp2_with (first | (go_at_call 192; refine (zlv _ _ (by omega) (by omega)).mono ?_; rintro e w' ⟨rfl,rfl⟩) | (at_make; refine wpList_make_full _ rfl _ _ 40 rfl w'.heap.size 5 i0 (.int .u8 0) 1 Tryz.underlying40 hi hz0 hz1 _ _ _ _ (dcn m + 1) rfl rfl (by omega) (by omega) ?b2 ?b3 ?b4 ?_))
 case b2 => rw [hz2]; omega
 case b3 => unfold maxLen; omega
 case b4 => exact Nat.le_refl _
 intro w1 hown hgrow
 have hbel:=(Below.refl w'.heap.size w').grown hgrow (Nat.le_refl _) (by intro k hk; cases hk)
 rw [toList_madeCells_one] at hown
 clear hgrow
 have hlen : (45 :: dgk m (dcn m)).length = dcn m + 1:=by rw [List.length_cons,zdp]
 have HL : Hid ((45 :: dgk m (dcn m)).length = dcn m + 1):=hlen
 clear hlen
 go_wp2
 go_loopw [3,7,21] (fun r _ i wr => ∃ k : Nat,k ≤ dcn m ∧ i = .int .i64 k ∧ r = .int .u64 (m / 10 ^ k) ∧ OwnB wr w'.heap.size 5 (.slice (some ⟨w'.heap.size,0,none⟩) (dcn m + 1) (dcn m + 1)) (dcn m + 1) (zfo (45 :: dgk m (dcn m)) k) ∧ Below w'.heap.size w' wr) (fun _ _ i _ => dcn m - (intOf i).toNat)
 case atStart => exact ⟨0,by omega,rfl,by simp,by unfold OwnB; rw [zng,HL.out,List.map_replicate]; exact hown,hbel⟩
 case round =>
  obtain ⟨k,hk,rfl,rfl,hown',hbel'⟩:=hrel
  clear hown hbel hu
  have hb:=ziv m k (by omega)
  by_cases hlt : k < dcn m
  ·obtain ⟨v,hv⟩:=zpp hown' (dcn m - k) (by omega)
   have hf:=zpq hown' (dcn m - k)
   have HO:=zrs hown' (dcn m - k) (48 + m / 10 ^ k % 10)
   have HS:=znm (45 :: dgk m (dcn m)) k (48 + m / 10 ^ k % 10) (by rw [HL.out]; omega) (zbjm [45] m (dcn m) k hlt)
   rw [HL.out,show dcn m + 1 - 1 - k = dcn m - k from by omega] at HS
   rw [HS] at HO
   clear HS hown'
   go_wp2
   go_roundw
   case rel => exact ⟨k + 1,by omega,by go_num,by rw [zoo],HO,hbel'.setCell (Nat.le_refl _) _⟩
   case measure => simp [intOf]; omega
  ·have HF:=zts 45 (dgk m (dcn m))
   rw [zdp] at HF
   rw [show k = dcn m from by omega] at hown'
   obtain ⟨v,hv⟩:=zpp hown' 0 (by omega)
   have hf:=zpq hown' 0
   have HO:=zrs hown' 0 45
   rw [HF] at HO
   clear HF hown'
   have hst:=zln (P:=Tryz.prog) (src:=40) (dst:=9) Tryz.underlying40 Tryz.underlying5 Tryz.underlying9 HO
   go_wp2
   go_ret
   exact ⟨rfl,hbel'.setCell (Nat.le_refl _) _⟩

theorem zbgq (n : Int) (w : World) (hb : -9223372036854775808 ≤ n ∧ n ≤ 9223372036854775807) :
  Calls Tryz.prog 176 #[.int .i64 n] w fun e w' => e = .returned (.string (strOfNums (decL n))) ∧ Below w.heap.size w w':=by
 by_cases h : 0 ≤ n
 ·rw [zps h]
  exact zvw n w h hb.2
 ·obtain ⟨m,rfl⟩ : ∃ m,n = -m:=⟨-n,by omega⟩
  rw [zpr (by omega),Int.neg_neg]
  exact zvx m w (by omega) (by omega)

theorem neg_tmod (q : Int) (h : 0 ≤ q) : (-q).tmod 10 = -(q % 10):=by rw [Int.neg_tmod,Int.tmod_eq_emod_of_nonneg h]
theorem neg_tdiv (q : Int) (h : 0 ≤ q) : (-q).tdiv 10 = -(q / 10):=by rw [Int.neg_tdiv,Int.tdiv_eq_ediv_of_nonneg h]

set_option maxRecDepth 100000 in
set_option maxHeartbeats 800000 in
theorem zvy (n : Int) (w : World) (h0 : 0 < n) (h1 : n ≤ 9223372036854775807) :
  Calls Tryz.prog 17 #[.int .i64 n] w fun e w' => e = .returned (.string (strOfNums (dgk n (dcn n)))) ∧ Below w.heap.size w w':=by
 have hd:=zfi n (by omega) (by omega)
 have hd1 : dcn n ≤ 20:=hd.2.1
 have hd0 : 1 ≤ dcn n:=hd.1
 have hne : (n == 0) = false:=by simp; omega
 have hlt0 : ¬ n < 0:=by omega
 clear hd
 go_enter Tryz.func17,Tryz.ntmps17
 go_wp2
 go_loopw [0,3,5] (fun a o _ wr => ∃ k : Nat,k ≤ dcn n ∧ a = .int .i64 (n / 10 ^ k) ∧ o = .string (strOfNums (dgk n k)) ∧ Below w.heap.size w wr) (fun a _ _ _ => (intOf a).toNat)
 case atStart => exact ⟨0,by omega,by simp,rfl,Below.refl _ _⟩
 case round =>
  obtain ⟨k,hk,rfl,rfl,hbel⟩:=hrel
  have hb:=ziv n k (by omega)
  have hi:=zuo n (by omega) (by omega) k
  have hsz : (strOfNums (dgk n k)).size ≤ 20:=by rw [strOfNums_size,zdp]; omega
  by_cases hz : n / 10 ^ k = 0
  ·have hk2 : ¬ (k < dcn n):=fun h => hi.2 h hz
   have hz' : (n / 10 ^ k != 0) = false:=by simpa using hz
   clear hi hz
   go_wp2
   go_ret
   exact ⟨zcm (by rw [show dcn n = k from by omega]),hbel⟩
  ·have hk2:=hi.1 hz
   have hz' : (n / 10 ^ k != 0) = true:=by simpa using hz
   have hz2 : 0 < n / 10 ^ k:=by omega
   clear hi hz
   have hst:=fun (w : World) (x : Int) => zlo (P:=Tryz.prog) (src:=40) (dst:=9) Tryz.underlying40 Tryz.underlying5 Tryz.underlying9 w x
   have hone:=fun x => strOfNums_size [x]
   go_wp2
   go_roundw
   case rel => exact ⟨k + 1,by omega,by rw [zoo],by rw [zhg]; rfl,hbel.alloc hbel.size _⟩
   case measure => simp [intOf]; omega

set_option maxRecDepth 100000 in
set_option maxHeartbeats 800000 in
theorem zvz (m : Int) (w : World) (h0 : 0 < m) (h1 : m ≤ 9223372036854775808) :
  Calls Tryz.prog 17 #[.int .i64 (-m)] w fun e w' => e = .returned (.string (strOfNums (45 :: dgk m (dcn m)))) ∧ Below w.heap.size w w':=by
 have hd:=zfi m (by omega) (by omega)
 have hd1 : dcn m ≤ 20:=hd.2.1
 have hd0 : 1 ≤ dcn m:=hd.1
 have hne : (-m == 0) = false:=by simp; omega
 clear hd
 go_enter Tryz.func17,Tryz.ntmps17
 go_wp2
 go_loopw [0,3,5] (fun a o _ wr => ∃ k : Nat,k ≤ dcn m ∧ a = .int .i64 (-(m / 10 ^ k)) ∧ o = .string (strOfNums (dgk m k)) ∧ Below w.heap.size w wr) (fun a _ _ _ => (-(intOf a)).toNat)
 case atStart => exact ⟨0,by omega,by simp,rfl,Below.refl _ _⟩
 case round =>
  obtain ⟨k,hk,rfl,rfl,hbel⟩:=hrel
  have hb:=ziv m k (by omega)
  have hi:=zuo m (by omega) (by omega) k
  have hsz : (strOfNums (dgk m k)).size ≤ 20:=by rw [strOfNums_size,zdp]; omega
  by_cases hz : m / 10 ^ k = 0
  ·have hk2 : ¬ (k < dcn m):=fun h => hi.2 h hz
   have hz' : (-(m / 10 ^ k) != 0) = false:=by simpa using hz
   have hmin : (strOfNums [45]).size = 1:=strOfNums_size [45]
   clear hi hz
   go_wp2
   go_ret
   exact ⟨zcm (by rw [show dcn m = k from by omega]; exact zhg 45 _),hbel⟩
  ·have hk2:=hi.1 hz
   have hz' : (-(m / 10 ^ k) != 0) = true:=by simpa using hz
   have hz2 : 0 < m / 10 ^ k:=by omega
   clear hi hz
   have e1:=neg_tmod (m / 10 ^ k) hb.1
   have e2:=neg_tdiv (m / 10 ^ k) hb.1
   have hst:=fun (w : World) (x : Int) => zlo (P:=Tryz.prog) (src:=40) (dst:=9) Tryz.underlying40 Tryz.underlying5 Tryz.underlying9 w x
   have hone:=fun x => strOfNums_size [x]
   by_cases hd : 0 < m / 10 ^ k % 10
   ·go_wp2
    go_roundw
    case rel => exact ⟨k + 1,by omega,by rw [zoo],by rw [zhg]; rfl,hbel.alloc hbel.size _⟩
    case measure => simp [intOf]; omega
   ·go_wp2
    go_roundw
    case rel => exact ⟨k + 1,by omega,by rw [zoo],by rw [zhg,show 48 + -(m / 10 ^ k % 10) = 48 + m / 10 ^ k % 10 from by omega]; rfl,hbel.alloc hbel.size _⟩
    case measure => simp [intOf]; omega

theorem zbgr (n : Int) (w : World) (hb : -9223372036854775808 ≤ n ∧ n ≤ 9223372036854775807) :
  Calls Tryz.prog 17 #[.int .i64 n] w fun e w' => e = .returned (.string (strOfNums (decL n))) ∧ Below w.heap.size w w':=by
 by_cases h : 0 < n
 ·rw [zps (by omega)]
  exact zvy n w h hb.2
 ·by_cases hz : n = 0
  ·subst hz
   have HV : Hid (decL 0 = [48]):=by show decL 0 = [48]; decide
   go_enter Tryz.func17,Tryz.ntmps17
   go_wp2
   go_ret
   exact ⟨zcm (by rw [HV.out]; rfl),Below.refl _ _⟩
  ·obtain ⟨m,rfl⟩ : ∃ m,n = -m:=⟨-n,by omega⟩
   rw [zpr (by omega),Int.neg_neg]
   exact zvz m w (by omega) (by omega)
end Go.Proofs.YtgchhhmfloemlaaGreat
namespace Go.Proofs.YtgchhhmfloemlaaGreat
open Go.RowKit Go.PlainAid Go.Sort

set_option maxRecDepth 100000 in
set_option maxHeartbeats 12800000 in
theorem zta (k : Int) (w : World) : Calls Tryz.prog 119 #[.int .i64 k] w fun e w' => e = .returned (.bool (twoK k)) ∧ w' = w:=by
 cases h6 : (k == 6) with
 | true =>
  have HV : Hid (twoK k = true):=by show _ = _; rw [twoK,h6]; rfl
  go_enter Tryz.func119,Tryz.ntmps119
  go_wp2
  go_ret
  exact ⟨zh HV.out.symm,rfl⟩
 | false =>
  cases h7 : (k == 7) with
  | true =>
   have HV : Hid (twoK k = true):=by show _ = _; rw [twoK,h6,h7]; rfl
   go_enter Tryz.func119,Tryz.ntmps119
   go_wp2
   go_ret
   exact ⟨zh HV.out.symm,rfl⟩
  | false =>
   have HV : Hid (twoK k = (k == 8)):=by show _ = _; rw [twoK,h6,h7]; simp
   go_enter Tryz.func119,Tryz.ntmps119
   go_wp2
   go_ret
   exact ⟨zh HV.out.symm,rfl⟩
set_option maxRecDepth 100000 in
set_option maxHeartbeats 12800000 in
theorem znw (base : Nat) (S : Sv) (m : Md) (i : Nat) (w : World) (h : OwnMd w base S m) (hi : i < m.ex.length) :
  Calls Tryz.prog 156 #[modD S m,.int .i64 i] w fun e w' => e = .returned (.bool (sumK (m.ex.getD i exNo).kind)) ∧ Below w.heap.size w w':=by
 obtain ⟨g,hg,hlt,c0,-,-,-,-,-⟩:=h.expr hi
 have hii : (i : Int) < (m.ex.length : Int):=by omega
 unfold modD
 rw [hg]
 generalize (m.ex.getD i exNo).kind = k at c0 ⊢
 clear h hg
 cases h6 : (k == 6) with
 | true =>
  have HV : Hid (sumK k = true):=by show _ = _; rw [sumK,h6]; rfl
  go_enter Tryz.func156,Tryz.ntmps156
  go_wp2
  go_ret
  exact ⟨zh HV.out.symm,(Below.refl _ _).alloc (Nat.le_refl _) _⟩
 | false =>
  have HV : Hid (sumK k = (k == 7)):=by show _ = _; rw [sumK,h6]; simp
  go_enter Tryz.func156,Tryz.ntmps156
  go_wp2
  go_ret
  exact ⟨zh HV.out.symm,(Below.refl _ _).alloc (Nat.le_refl _) _⟩
/-- What l5Expr must answer of all numbers below n. -/
def zlw (base : Nat) (S : Sv) (m : Md) (n : Nat) : Prop:=∀ (i : Nat) (w : World),i < n → i < m.ex.length → OwnMd w base S m → wt m.ex i ≤ 1099511627776 →
 Calls Tryz.prog 121 #[modD S m,.int .i64 i] w fun e w' => e = .returned (.string (prX m.ex i)) ∧ Below w.heap.size w w'
set_option maxRecDepth 100000 in
set_option maxHeartbeats 12800000 in
theorem zle (base : Nat) (S : Sv) (m : Md) (n i : Nat) (b : Bool) (w : World) (he : zlw base S m n) (hn : i < n) (hi : i < m.ex.length) (h : OwnMd w base S m) (hw : wt m.ex i ≤ 1099511627776) :
  Calls Tryz.prog 155 #[modD S m,.int .i64 i,.bool b] w fun e w' => e = .returned (.string (zbj b (prX m.ex i))) ∧ Below w.heap.size w w':=by
 have HE:=hidI he
 have HH:=hidI h
 have HW:=hidI hw
 unfold wt at hw
 clear he h
 unfold modD
 cases b with
 | true =>
  have HV : Hid (zbj true (prX m.ex i) = zr ++ prX m.ex i ++ zcw):=rfl
  go_enter Tryz.func155,Tryz.ntmps155
  go_wp2_with fail
  refine (HE.out i _ hn hi (HH.out.alloc _) HW.out).mono ?_
  rintro e w1 ⟨rfl,hb⟩
  have HB : Hid (Below w.heap.size w w1):=((Below.refl _ _).alloc (Nat.le_refl _) _).trans (hb.mono (by rw [ze]; omega))
  clear hb
  generalize ht : prX m.ex i = t at hw HV ⊢
  have HT:=hidI ht
  clear ht
  go_wp2
  go_ret
  exact ⟨zcm (by rw [HT.out]; exact HV.out.symm),HB.out⟩
 | false =>
  have HV : Hid (zbj false (prX m.ex i) = prX m.ex i):=rfl
  go_enter Tryz.func155,Tryz.ntmps155
  go_wp2_with fail
  refine (HE.out i _ hn hi (HH.out.alloc _) HW.out).mono ?_
  rintro e w1 ⟨rfl,hb⟩
  have HB : Hid (Below w.heap.size w w1):=((Below.refl _ _).alloc (Nat.le_refl _) _).trans (hb.mono (by rw [ze]; omega))
  clear hb
  go_wp2
  go_ret
  exact ⟨zcm HV.out.symm,HB.out⟩
set_option maxRecDepth 100000 in
set_option maxHeartbeats 12800000 in
theorem zbgs (g : Nat) (S : Sv) (m : Md) (i : Nat) (k nu l r : Int) (nm fi : ByteArray) (w : World) (hex : S.ex.a = some ⟨g,0,none⟩) (hi : i < m.ex.length) (hlt : g < w.heap.size) (c0 : w.cell? ⟨g,i * 6,none⟩ = some (.int .i64 k)) (c1 : w.cell? ⟨g,i * 6 + 1,none⟩ = some (.int .i64 nu)) (c2 : w.cell? ⟨g,i * 6 + 2,none⟩ = some (.string nm)) (c3 : w.cell? ⟨g,i * 6 + 3,none⟩ = some (.string fi)) (c4 : w.cell? ⟨g,i * 6 + 4,none⟩ = some (.int .i64 l)) (c5 : w.cell? ⟨g,i * 6 + 5,none⟩ = some (.int .i64 r)) (k1 : (k == 1) = true) (hnu : -9223372036854775808 ≤ nu ∧ nu ≤ 9223372036854775807) :
  Calls Tryz.prog 121 #[modD S m,.int .i64 i] w fun e w' => e = .returned (.string (strOfNums (decL nu))) ∧ Below w.heap.size w w':=by
 have hii : (i : Int) < (m.ex.length : Int):=by omega
 unfold modD
 rw [hex]
 clear hex
 go_enter Tryz.func121,Tryz.ntmps121
 go_wp2_with fail
 refine (zbgr nu _ hnu).mono ?_
 rintro e w1 ⟨rfl,hb⟩
 have HB : Hid (Below w.heap.size w w1):=(zdj w _ _).trans (hb.mono (by rw [ze,ze]; omega))
 clear hb
 go_wp2
 go_ret
 exact ⟨rfl,HB.out⟩
set_option maxRecDepth 100000 in
set_option maxHeartbeats 12800000 in
theorem zbgt (g : Nat) (S : Sv) (m : Md) (i : Nat) (k nu l r : Int) (nm fi : ByteArray) (w : World) (hex : S.ex.a = some ⟨g,0,none⟩) (hi : i < m.ex.length) (hlt : g < w.heap.size) (c0 : w.cell? ⟨g,i * 6,none⟩ = some (.int .i64 k)) (c1 : w.cell? ⟨g,i * 6 + 1,none⟩ = some (.int .i64 nu)) (c2 : w.cell? ⟨g,i * 6 + 2,none⟩ = some (.string nm)) (c3 : w.cell? ⟨g,i * 6 + 3,none⟩ = some (.string fi)) (c4 : w.cell? ⟨g,i * 6 + 4,none⟩ = some (.int .i64 l)) (c5 : w.cell? ⟨g,i * 6 + 5,none⟩ = some (.int .i64 r)) (k1 : (k == 1) = false) (k2 : (k == 2) = true) :
  Calls Tryz.prog 121 #[modD S m,.int .i64 i] w fun e w' => e = .returned (.string (nm)) ∧ Below w.heap.size w w':=by
 have hii : (i : Int) < (m.ex.length : Int):=by omega
 unfold modD
 rw [hex]
 clear hex
 go_enter Tryz.func121,Tryz.ntmps121
 go_wp2
 go_ret
 exact ⟨rfl,((Below.refl _ _).alloc (Nat.le_refl _) _).alloc (by show _ ≤ (w.heap.push _).size; simp) _⟩
set_option maxRecDepth 100000 in
set_option maxHeartbeats 12800000 in
theorem zbgu (g : Nat) (S : Sv) (m : Md) (i : Nat) (k nu l r : Int) (nm fi : ByteArray) (w : World) (hex : S.ex.a = some ⟨g,0,none⟩) (hi : i < m.ex.length) (hlt : g < w.heap.size) (c0 : w.cell? ⟨g,i * 6,none⟩ = some (.int .i64 k)) (c1 : w.cell? ⟨g,i * 6 + 1,none⟩ = some (.int .i64 nu)) (c2 : w.cell? ⟨g,i * 6 + 2,none⟩ = some (.string nm)) (c3 : w.cell? ⟨g,i * 6 + 3,none⟩ = some (.string fi)) (c4 : w.cell? ⟨g,i * 6 + 4,none⟩ = some (.int .i64 l)) (c5 : w.cell? ⟨g,i * 6 + 5,none⟩ = some (.int .i64 r)) (k1 : (k == 1) = false) (k2 : (k == 2) = false) (k3 : (k == 3) = true) (hsz : (nm ++ cParens).size ≤ 1099511627776) :
  Calls Tryz.prog 121 #[modD S m,.int .i64 i] w fun e w' => e = .returned (.string (nm ++ cParens)) ∧ Below w.heap.size w w':=by
 have hii : (i : Int) < (m.ex.length : Int):=by omega
 unfold modD
 rw [hex]
 clear hex
 simp only [ByteArray.size_append] at hsz
 have hp2 : cParens.size = 2:=rfl
 have hn2 : nm.size ≤ 1099511627776:=by omega
 clear hsz hp2
 go_enter Tryz.func121,Tryz.ntmps121
 go_wp2
 go_ret
 exact ⟨rfl,((Below.refl _ _).alloc (Nat.le_refl _) _).alloc (by show _ ≤ (w.heap.push _).size; simp) _⟩
set_option maxRecDepth 100000 in
set_option maxHeartbeats 12800000 in
theorem zbgv (g : Nat) (S : Sv) (m : Md) (i : Nat) (k nu l r : Int) (nm fi : ByteArray) (w : World) (hex : S.ex.a = some ⟨g,0,none⟩) (hi : i < m.ex.length) (hlt : g < w.heap.size) (c0 : w.cell? ⟨g,i * 6,none⟩ = some (.int .i64 k)) (c1 : w.cell? ⟨g,i * 6 + 1,none⟩ = some (.int .i64 nu)) (c2 : w.cell? ⟨g,i * 6 + 2,none⟩ = some (.string nm)) (c3 : w.cell? ⟨g,i * 6 + 3,none⟩ = some (.string fi)) (c4 : w.cell? ⟨g,i * 6 + 4,none⟩ = some (.int .i64 l)) (c5 : w.cell? ⟨g,i * 6 + 5,none⟩ = some (.int .i64 r)) (k1 : (k == 1) = false) (k2 : (k == 2) = false) (k3 : (k == 3) = false) (k4 : (k == 4) = true) (hsz : (nm ++ cPoint ++ fi).size ≤ 1099511627776) :
  Calls Tryz.prog 121 #[modD S m,.int .i64 i] w fun e w' => e = .returned (.string (nm ++ cPoint ++ fi)) ∧ Below w.heap.size w w':=by
 have hii : (i : Int) < (m.ex.length : Int):=by omega
 unfold modD
 rw [hex]
 clear hex
 simp only [ByteArray.size_append] at hsz
 have hp1 : cPoint.size = 1:=rfl
 have hn2 : nm.size ≤ 1099511627776:=by omega
 have hf2 : fi.size ≤ 1099511627776:=by omega
 clear hsz hp1
 go_enter Tryz.func121,Tryz.ntmps121
 go_wp2
 go_ret
 exact ⟨rfl,((Below.refl _ _).alloc (Nat.le_refl _) _).alloc (by show _ ≤ (w.heap.push _).size; simp) _⟩
set_option maxRecDepth 100000 in
set_option maxHeartbeats 12800000 in
theorem zbgw (g : Nat) (S : Sv) (m : Md) (i : Nat) (k nu l r : Int) (nm fi : ByteArray) (w : World) (hex : S.ex.a = some ⟨g,0,none⟩) (hi : i < m.ex.length) (hlt : g < w.heap.size) (c0 : w.cell? ⟨g,i * 6,none⟩ = some (.int .i64 k)) (c1 : w.cell? ⟨g,i * 6 + 1,none⟩ = some (.int .i64 nu)) (c2 : w.cell? ⟨g,i * 6 + 2,none⟩ = some (.string nm)) (c3 : w.cell? ⟨g,i * 6 + 3,none⟩ = some (.string fi)) (c4 : w.cell? ⟨g,i * 6 + 4,none⟩ = some (.int .i64 l)) (c5 : w.cell? ⟨g,i * 6 + 5,none⟩ = some (.int .i64 r)) (k1 : (k == 1) = false) (k2 : (k == 2) = false) (k3 : (k == 3) = false) (k4 : (k == 4) = false) (k5 : (k == 5) = true) (hsz : (nm ++ cPoint ++ fi ++ cParens).size ≤ 1099511627776) :
  Calls Tryz.prog 121 #[modD S m,.int .i64 i] w fun e w' => e = .returned (.string (nm ++ cPoint ++ fi ++ cParens)) ∧ Below w.heap.size w w':=by
 have hii : (i : Int) < (m.ex.length : Int):=by omega
 unfold modD
 rw [hex]
 clear hex
 simp only [ByteArray.size_append] at hsz
 have hp2 : cParens.size = 2:=rfl
 have hp1 : cPoint.size = 1:=rfl
 have hn2 : nm.size ≤ 1099511627776:=by omega
 have hf2 : fi.size ≤ 1099511627776:=by omega
 clear hsz hp2 hp1
 go_enter Tryz.func121,Tryz.ntmps121
 go_wp2
 go_ret
 exact ⟨rfl,((Below.refl _ _).alloc (Nat.le_refl _) _).alloc (by show _ ≤ (w.heap.push _).size; simp) _⟩
set_option maxRecDepth 100000 in
set_option maxHeartbeats 12800000 in
theorem zbgx (g : Nat) (S : Sv) (m : Md) (i : Nat) (k nu l r : Int) (nm fi : ByteArray) (w : World) (hex : S.ex.a = some ⟨g,0,none⟩) (hi : i < m.ex.length) (hlt : g < w.heap.size) (c0 : w.cell? ⟨g,i * 6,none⟩ = some (.int .i64 k)) (c1 : w.cell? ⟨g,i * 6 + 1,none⟩ = some (.int .i64 nu)) (c2 : w.cell? ⟨g,i * 6 + 2,none⟩ = some (.string nm)) (c3 : w.cell? ⟨g,i * 6 + 3,none⟩ = some (.string fi)) (c4 : w.cell? ⟨g,i * 6 + 4,none⟩ = some (.int .i64 l)) (c5 : w.cell? ⟨g,i * 6 + 5,none⟩ = some (.int .i64 r)) (k1 : (k == 1) = false) (k2 : (k == 2) = false) (k3 : (k == 3) = false) (k4 : (k == 4) = false) (k5 : (k == 5) = false) (k6 : (k == 6) = false) (k7 : (k == 7) = false) (k8 : (k == 8) = false) :
  Calls Tryz.prog 121 #[modD S m,.int .i64 i] w fun e w' => e = .returned (.string (sNone)) ∧ Below w.heap.size w w':=by
 have hii : (i : Int) < (m.ex.length : Int):=by omega
 unfold modD
 rw [hex]
 clear hex
 go_enter Tryz.func121,Tryz.ntmps121
 go_wp2
 go_ret
 exact ⟨rfl,((Below.refl _ _).alloc (Nat.le_refl _) _).alloc (by show _ ≤ (w.heap.push _).size; simp) _⟩
set_option maxRecDepth 100000 in
set_option maxHeartbeats 12800000 in
theorem zbgy (base g : Nat) (S : Sv) (m : Md) (i ln rn : Nat) (k nu : Int) (nm fi : ByteArray) (w : World) (hex : S.ex.a = some ⟨g,0,none⟩) (h : OwnMd w base S m) (hi : i < m.ex.length) (hlt : g < w.heap.size) (c0 : w.cell? ⟨g,i * 6,none⟩ = some (.int .i64 k)) (c1 : w.cell? ⟨g,i * 6 + 1,none⟩ = some (.int .i64 nu)) (c2 : w.cell? ⟨g,i * 6 + 2,none⟩ = some (.string nm)) (c3 : w.cell? ⟨g,i * 6 + 3,none⟩ = some (.string fi)) (c4 : w.cell? ⟨g,i * 6 + 4,none⟩ = some (.int .i64 (ln : Int))) (c5 : w.cell? ⟨g,i * 6 + 5,none⟩ = some (.int .i64 (rn : Int))) (k1 : (k == 1) = false) (k2 : (k == 2) = false) (k3 : (k == 3) = false) (k4 : (k == 4) = false) (k5 : (k == 5) = false) (k6 : (k == 6) = true) (hsz : (prX m.ex ln ++ tPlus ++ zbj (sumK (m.ex.getD rn exNo).kind) (prX m.ex rn)).size ≤ 1099511627776) (he : zlw base S m i) (hl : ln < i) (hr : rn < i) (hwl : wt m.ex ln ≤ 1099511627776) (hwr : wt m.ex rn ≤ 1099511627776) :
  Calls Tryz.prog 121 #[modD S m,.int .i64 i] w fun e w' => e = .returned (.string (prX m.ex ln ++ tPlus ++ zbj (sumK (m.ex.getD rn exNo).kind) (prX m.ex rn))) ∧ Below w.heap.size w w':=by
 have hii : (i : Int) < (m.ex.length : Int):=by omega
 have HA : Hid (OwnMd ((w.alloc (.cells #[.slice S.rq.a m.rq.length S.rq.cap,.slice S.im.a m.im.length S.im.cap,.slice S.ep.a m.ep.length S.ep.cap,.slice S.st.a m.st.length S.st.cap,.slice (some ⟨g,0,none⟩) m.ex.length S.ex.cap] 36)).alloc (.cells #[.int .i64 k,.int .i64 nu,.string nm,.string fi,.int .i64 (ln : Int),.int .i64 (rn : Int)] 106)) base S m):=(h.alloc _).alloc _
 have HE:=hidI he
 have HMV : Hid (modD S m = .agg #[.slice S.rq.a m.rq.length S.rq.cap,.slice S.im.a m.im.length S.im.cap,.slice S.ep.a m.ep.length S.ep.cap,.slice S.st.a m.st.length S.st.cap,.slice (some ⟨g,0,none⟩) m.ex.length S.ex.cap]):=by show _ = _; rw [modD,hex]
 have hli : (ln : Int) < (m.ex.length : Int):=by omega
 have hri : (rn : Int) < (m.ex.length : Int):=by omega
 obtain ⟨g2,hg2,-,d0,-,-,-,-,-⟩:=h.expr (i:=rn) (by omega)
 have eg : g2 = g:=by have:=hg2.symm.trans hex; simpa using this
 rw [eg] at d0
 obtain ⟨kr,hkr⟩ : ∃ kr,(m.ex.getD rn exNo).kind = kr:=⟨_,rfl⟩
 rw [hkr] at d0
 have HKR:=hidI hkr
 obtain ⟨tl,htl⟩ : ∃ tl,prX m.ex ln = tl:=⟨_,rfl⟩
 obtain ⟨tr,htr⟩ : ∃ tr,zbj (sumK (m.ex.getD rn exNo).kind) (prX m.ex rn) = tr:=⟨_,rfl⟩
 rw [htl,htr] at hsz
 have HTL:=hidI htl
 have HTR:=hidI htr
 have cL : ∀ d os,Calls Tryz.prog 121 #[.agg #[.slice S.rq.a m.rq.length S.rq.cap,.slice S.im.a m.im.length S.im.cap,.slice S.ep.a m.ep.length S.ep.cap,.slice S.st.a m.st.length S.st.cap,.slice (some ⟨g,0,none⟩) m.ex.length S.ex.cap],.int .i64 (ln : Int)] (grow (redrawn ((w.alloc (.cells #[.slice S.rq.a m.rq.length S.rq.cap,.slice S.im.a m.im.length S.im.cap,.slice S.ep.a m.ep.length S.ep.cap,.slice S.st.a m.st.length S.st.cap,.slice (some ⟨g,0,none⟩) m.ex.length S.ex.cap] 36)).alloc (.cells #[.int .i64 k,.int .i64 nu,.string nm,.string fi,.int .i64 (ln : Int),.int .i64 (rn : Int)] 106)) d) os) fun e w'' => e = .returned (.string tl) ∧ ∃ p : Regrown,w'' = grow (redrawn ((w.alloc (.cells #[.slice S.rq.a m.rq.length S.rq.cap,.slice S.im.a m.im.length S.im.cap,.slice S.ep.a m.ep.length S.ep.cap,.slice S.st.a m.st.length S.st.cap,.slice (some ⟨g,0,none⟩) m.ex.length S.ex.cap] 36)).alloc (.cells #[.int .i64 k,.int .i64 nu,.string nm,.string fi,.int .i64 (ln : Int),.int .i64 (rn : Int)] 106)) p.d) p.os:=fun d os => Calls.regrown_of (by rw [← HMV.out,← HTL.out]; exact HE.out ln _ (by omega) (by omega) (HA.out.later (below_regrown _ d os)) hwl)
 have cS : ∀ d os,Calls Tryz.prog 156 #[.agg #[.slice S.rq.a m.rq.length S.rq.cap,.slice S.im.a m.im.length S.im.cap,.slice S.ep.a m.ep.length S.ep.cap,.slice S.st.a m.st.length S.st.cap,.slice (some ⟨g,0,none⟩) m.ex.length S.ex.cap],.int .i64 (rn : Int)] (grow (redrawn ((w.alloc (.cells #[.slice S.rq.a m.rq.length S.rq.cap,.slice S.im.a m.im.length S.im.cap,.slice S.ep.a m.ep.length S.ep.cap,.slice S.st.a m.st.length S.st.cap,.slice (some ⟨g,0,none⟩) m.ex.length S.ex.cap] 36)).alloc (.cells #[.int .i64 k,.int .i64 nu,.string nm,.string fi,.int .i64 (ln : Int),.int .i64 (rn : Int)] 106)) d) os) fun e w'' => e = .returned (.bool (sumK kr)) ∧ ∃ p : Regrown,w'' = grow (redrawn ((w.alloc (.cells #[.slice S.rq.a m.rq.length S.rq.cap,.slice S.im.a m.im.length S.im.cap,.slice S.ep.a m.ep.length S.ep.cap,.slice S.st.a m.st.length S.st.cap,.slice (some ⟨g,0,none⟩) m.ex.length S.ex.cap] 36)).alloc (.cells #[.int .i64 k,.int .i64 nu,.string nm,.string fi,.int .i64 (ln : Int),.int .i64 (rn : Int)] 106)) p.d) p.os:=fun d os => Calls.regrown_of (by rw [← HMV.out,← HKR.out]; exact znw base S m rn _ (HA.out.later (below_regrown _ d os)) (by omega))
 have cR : ∀ d os,Calls Tryz.prog 155 #[.agg #[.slice S.rq.a m.rq.length S.rq.cap,.slice S.im.a m.im.length S.im.cap,.slice S.ep.a m.ep.length S.ep.cap,.slice S.st.a m.st.length S.st.cap,.slice (some ⟨g,0,none⟩) m.ex.length S.ex.cap],.int .i64 (rn : Int),.bool (sumK kr)] (grow (redrawn ((w.alloc (.cells #[.slice S.rq.a m.rq.length S.rq.cap,.slice S.im.a m.im.length S.im.cap,.slice S.ep.a m.ep.length S.ep.cap,.slice S.st.a m.st.length S.st.cap,.slice (some ⟨g,0,none⟩) m.ex.length S.ex.cap] 36)).alloc (.cells #[.int .i64 k,.int .i64 nu,.string nm,.string fi,.int .i64 (ln : Int),.int .i64 (rn : Int)] 106)) d) os) fun e w'' => e = .returned (.string tr) ∧ ∃ p : Regrown,w'' = grow (redrawn ((w.alloc (.cells #[.slice S.rq.a m.rq.length S.rq.cap,.slice S.im.a m.im.length S.im.cap,.slice S.ep.a m.ep.length S.ep.cap,.slice S.st.a m.st.length S.st.cap,.slice (some ⟨g,0,none⟩) m.ex.length S.ex.cap] 36)).alloc (.cells #[.int .i64 k,.int .i64 nu,.string nm,.string fi,.int .i64 (ln : Int),.int .i64 (rn : Int)] 106)) p.d) p.os:=fun d os => Calls.regrown_of (by rw [← HMV.out,← HTR.out,HKR.out]; exact zle base S m i rn _ _ HE.out (by omega) (by omega) (HA.out.later (below_regrown _ d os)) hwr)
 have X : Hid (Six ((w.alloc (.cells #[.slice S.rq.a m.rq.length S.rq.cap,.slice S.im.a m.im.length S.im.cap,.slice S.ep.a m.ep.length S.ep.cap,.slice S.st.a m.st.length S.st.cap,.slice (some ⟨g,0,none⟩) m.ex.length S.ex.cap] 36)).alloc (.cells #[.int .i64 k,.int .i64 nu,.string nm,.string fi,.int .i64 (ln : Int),.int .i64 (rn : Int)] 106)) (w.heap.size + 1) (.int .i64 k) (.int .i64 nu) (.string nm) (.string fi) (.int .i64 (ln : Int)) (.int .i64 (rn : Int))):=zs (new2 w _ _)
 have Y:=hidI (zi (zdq (o':=.cells #[.int .i64 k,.int .i64 nu,.string nm,.string fi,.int .i64 (ln : Int),.int .i64 (rn : Int)] 106) (heap_alloc_new w (.cells #[.slice S.rq.a m.rq.length S.rq.cap,.slice S.im.a m.im.length S.im.cap,.slice S.ep.a m.ep.length S.ep.cap,.slice S.st.a m.st.length S.st.cap,.slice (some ⟨g,0,none⟩) m.ex.length S.ex.cap] 36))))
 have D0 : Hid (((w.alloc (.cells #[.slice S.rq.a m.rq.length S.rq.cap,.slice S.im.a m.im.length S.im.cap,.slice S.ep.a m.ep.length S.ep.cap,.slice S.st.a m.st.length S.st.cap,.slice (some ⟨g,0,none⟩) m.ex.length S.ex.cap] 36)).alloc (.cells #[.int .i64 k,.int .i64 nu,.string nm,.string fi,.int .i64 (ln : Int),.int .i64 (rn : Int)] 106)).cell? ⟨g,rn * 6,none⟩ = some (.int .i64 kr)):=by show _ = _; rw [World.cell?_alloc_past _ _ _ (by rw [ze]; omega),World.cell?_alloc_past _ _ _ hlt]; exact d0
 simp only [ByteArray.size_append] at hsz
 have hp3 : tPlus.size = 3:=rfl
 have hs1 : tl.size ≤ 1099511627776:=by omega
 have hs2 : tr.size ≤ 1099511627776:=by omega
 have HV : Hid ((prX m.ex ln ++ tPlus ++ zbj (sumK (m.ex.getD rn exNo).kind) (prX m.ex rn)) = tl ++ tPlus ++ tr):=by show _ = _; rw [HTL.out,HTR.out]
 unfold modD
 rw [hex]
 clear hex h HA HE HMV HTL HTR htl htr hkr HKR hg2 he hsz hp3 d0 eg
 go_enter Tryz.func121,Tryz.ntmps121
 go_wp2_with fail
 have x0:=cell_regrown X.out.c0
 have x4:=cell_regrown X.out.c4
 have x5:=cell_regrown X.out.c5
 have y0:=cell_regrown Y.out.1
 have y1:=cell_regrown Y.out.2.1
 have y2:=cell_regrown Y.out.2.2.1
 have y3:=cell_regrown Y.out.2.2.2.1
 have y4:=cell_regrown Y.out.2.2.2.2.1
 have e0:=cell_regrown D0.out
 refine wp_region_quiet_below (by kernel_rfl) (by kernel_rfl) ?_
 repeat (go_big_quiet_step (first | with_reducible exact cL _ _ | with_reducible exact cS _ _ | with_reducible exact cR _ _))
 refine wpQuiet_nil ?_
 intro w1 hw'
 obtain ⟨⟨dq,osq⟩,hw''⟩:=hw'
 have HB1 : Hid (Below w.heap.size w w1):=by show Below _ _ _; rw [hw'']; exact (zdj w _ _).trans ((below_regrown _ _ _).mono (by rw [ze,ze]; omega))
 clear hw''
 go_wp2
 go_ret
 exact ⟨zcm HV.out.symm,HB1.out⟩
set_option maxRecDepth 100000 in
set_option maxHeartbeats 12800000 in
theorem zbgz (base g : Nat) (S : Sv) (m : Md) (i ln rn : Nat) (k nu : Int) (nm fi : ByteArray) (w : World) (hex : S.ex.a = some ⟨g,0,none⟩) (h : OwnMd w base S m) (hi : i < m.ex.length) (hlt : g < w.heap.size) (c0 : w.cell? ⟨g,i * 6,none⟩ = some (.int .i64 k)) (c1 : w.cell? ⟨g,i * 6 + 1,none⟩ = some (.int .i64 nu)) (c2 : w.cell? ⟨g,i * 6 + 2,none⟩ = some (.string nm)) (c3 : w.cell? ⟨g,i * 6 + 3,none⟩ = some (.string fi)) (c4 : w.cell? ⟨g,i * 6 + 4,none⟩ = some (.int .i64 (ln : Int))) (c5 : w.cell? ⟨g,i * 6 + 5,none⟩ = some (.int .i64 (rn : Int))) (k1 : (k == 1) = false) (k2 : (k == 2) = false) (k3 : (k == 3) = false) (k4 : (k == 4) = false) (k5 : (k == 5) = false) (k6 : (k == 6) = false) (k7 : (k == 7) = true) (hsz : (prX m.ex ln ++ tMinus ++ zbj (sumK (m.ex.getD rn exNo).kind) (prX m.ex rn)).size ≤ 1099511627776) (he : zlw base S m i) (hl : ln < i) (hr : rn < i) (hwl : wt m.ex ln ≤ 1099511627776) (hwr : wt m.ex rn ≤ 1099511627776) :
  Calls Tryz.prog 121 #[modD S m,.int .i64 i] w fun e w' => e = .returned (.string (prX m.ex ln ++ tMinus ++ zbj (sumK (m.ex.getD rn exNo).kind) (prX m.ex rn))) ∧ Below w.heap.size w w':=by
 have hii : (i : Int) < (m.ex.length : Int):=by omega
 have HA : Hid (OwnMd ((w.alloc (.cells #[.slice S.rq.a m.rq.length S.rq.cap,.slice S.im.a m.im.length S.im.cap,.slice S.ep.a m.ep.length S.ep.cap,.slice S.st.a m.st.length S.st.cap,.slice (some ⟨g,0,none⟩) m.ex.length S.ex.cap] 36)).alloc (.cells #[.int .i64 k,.int .i64 nu,.string nm,.string fi,.int .i64 (ln : Int),.int .i64 (rn : Int)] 106)) base S m):=(h.alloc _).alloc _
 have HE:=hidI he
 have HMV : Hid (modD S m = .agg #[.slice S.rq.a m.rq.length S.rq.cap,.slice S.im.a m.im.length S.im.cap,.slice S.ep.a m.ep.length S.ep.cap,.slice S.st.a m.st.length S.st.cap,.slice (some ⟨g,0,none⟩) m.ex.length S.ex.cap]):=by show _ = _; rw [modD,hex]
 have hli : (ln : Int) < (m.ex.length : Int):=by omega
 have hri : (rn : Int) < (m.ex.length : Int):=by omega
 obtain ⟨g2,hg2,-,d0,-,-,-,-,-⟩:=h.expr (i:=rn) (by omega)
 have eg : g2 = g:=by have:=hg2.symm.trans hex; simpa using this
 rw [eg] at d0
 obtain ⟨kr,hkr⟩ : ∃ kr,(m.ex.getD rn exNo).kind = kr:=⟨_,rfl⟩
 rw [hkr] at d0
 have HKR:=hidI hkr
 obtain ⟨tl,htl⟩ : ∃ tl,prX m.ex ln = tl:=⟨_,rfl⟩
 obtain ⟨tr,htr⟩ : ∃ tr,zbj (sumK (m.ex.getD rn exNo).kind) (prX m.ex rn) = tr:=⟨_,rfl⟩
 rw [htl,htr] at hsz
 have HTL:=hidI htl
 have HTR:=hidI htr
 have cL : ∀ d os,Calls Tryz.prog 121 #[.agg #[.slice S.rq.a m.rq.length S.rq.cap,.slice S.im.a m.im.length S.im.cap,.slice S.ep.a m.ep.length S.ep.cap,.slice S.st.a m.st.length S.st.cap,.slice (some ⟨g,0,none⟩) m.ex.length S.ex.cap],.int .i64 (ln : Int)] (grow (redrawn ((w.alloc (.cells #[.slice S.rq.a m.rq.length S.rq.cap,.slice S.im.a m.im.length S.im.cap,.slice S.ep.a m.ep.length S.ep.cap,.slice S.st.a m.st.length S.st.cap,.slice (some ⟨g,0,none⟩) m.ex.length S.ex.cap] 36)).alloc (.cells #[.int .i64 k,.int .i64 nu,.string nm,.string fi,.int .i64 (ln : Int),.int .i64 (rn : Int)] 106)) d) os) fun e w'' => e = .returned (.string tl) ∧ ∃ p : Regrown,w'' = grow (redrawn ((w.alloc (.cells #[.slice S.rq.a m.rq.length S.rq.cap,.slice S.im.a m.im.length S.im.cap,.slice S.ep.a m.ep.length S.ep.cap,.slice S.st.a m.st.length S.st.cap,.slice (some ⟨g,0,none⟩) m.ex.length S.ex.cap] 36)).alloc (.cells #[.int .i64 k,.int .i64 nu,.string nm,.string fi,.int .i64 (ln : Int),.int .i64 (rn : Int)] 106)) p.d) p.os:=fun d os => Calls.regrown_of (by rw [← HMV.out,← HTL.out]; exact HE.out ln _ (by omega) (by omega) (HA.out.later (below_regrown _ d os)) hwl)
 have cS : ∀ d os,Calls Tryz.prog 156 #[.agg #[.slice S.rq.a m.rq.length S.rq.cap,.slice S.im.a m.im.length S.im.cap,.slice S.ep.a m.ep.length S.ep.cap,.slice S.st.a m.st.length S.st.cap,.slice (some ⟨g,0,none⟩) m.ex.length S.ex.cap],.int .i64 (rn : Int)] (grow (redrawn ((w.alloc (.cells #[.slice S.rq.a m.rq.length S.rq.cap,.slice S.im.a m.im.length S.im.cap,.slice S.ep.a m.ep.length S.ep.cap,.slice S.st.a m.st.length S.st.cap,.slice (some ⟨g,0,none⟩) m.ex.length S.ex.cap] 36)).alloc (.cells #[.int .i64 k,.int .i64 nu,.string nm,.string fi,.int .i64 (ln : Int),.int .i64 (rn : Int)] 106)) d) os) fun e w'' => e = .returned (.bool (sumK kr)) ∧ ∃ p : Regrown,w'' = grow (redrawn ((w.alloc (.cells #[.slice S.rq.a m.rq.length S.rq.cap,.slice S.im.a m.im.length S.im.cap,.slice S.ep.a m.ep.length S.ep.cap,.slice S.st.a m.st.length S.st.cap,.slice (some ⟨g,0,none⟩) m.ex.length S.ex.cap] 36)).alloc (.cells #[.int .i64 k,.int .i64 nu,.string nm,.string fi,.int .i64 (ln : Int),.int .i64 (rn : Int)] 106)) p.d) p.os:=fun d os => Calls.regrown_of (by rw [← HMV.out,← HKR.out]; exact znw base S m rn _ (HA.out.later (below_regrown _ d os)) (by omega))
 have cR : ∀ d os,Calls Tryz.prog 155 #[.agg #[.slice S.rq.a m.rq.length S.rq.cap,.slice S.im.a m.im.length S.im.cap,.slice S.ep.a m.ep.length S.ep.cap,.slice S.st.a m.st.length S.st.cap,.slice (some ⟨g,0,none⟩) m.ex.length S.ex.cap],.int .i64 (rn : Int),.bool (sumK kr)] (grow (redrawn ((w.alloc (.cells #[.slice S.rq.a m.rq.length S.rq.cap,.slice S.im.a m.im.length S.im.cap,.slice S.ep.a m.ep.length S.ep.cap,.slice S.st.a m.st.length S.st.cap,.slice (some ⟨g,0,none⟩) m.ex.length S.ex.cap] 36)).alloc (.cells #[.int .i64 k,.int .i64 nu,.string nm,.string fi,.int .i64 (ln : Int),.int .i64 (rn : Int)] 106)) d) os) fun e w'' => e = .returned (.string tr) ∧ ∃ p : Regrown,w'' = grow (redrawn ((w.alloc (.cells #[.slice S.rq.a m.rq.length S.rq.cap,.slice S.im.a m.im.length S.im.cap,.slice S.ep.a m.ep.length S.ep.cap,.slice S.st.a m.st.length S.st.cap,.slice (some ⟨g,0,none⟩) m.ex.length S.ex.cap] 36)).alloc (.cells #[.int .i64 k,.int .i64 nu,.string nm,.string fi,.int .i64 (ln : Int),.int .i64 (rn : Int)] 106)) p.d) p.os:=fun d os => Calls.regrown_of (by rw [← HMV.out,← HTR.out,HKR.out]; exact zle base S m i rn _ _ HE.out (by omega) (by omega) (HA.out.later (below_regrown _ d os)) hwr)
 have X : Hid (Six ((w.alloc (.cells #[.slice S.rq.a m.rq.length S.rq.cap,.slice S.im.a m.im.length S.im.cap,.slice S.ep.a m.ep.length S.ep.cap,.slice S.st.a m.st.length S.st.cap,.slice (some ⟨g,0,none⟩) m.ex.length S.ex.cap] 36)).alloc (.cells #[.int .i64 k,.int .i64 nu,.string nm,.string fi,.int .i64 (ln : Int),.int .i64 (rn : Int)] 106)) (w.heap.size + 1) (.int .i64 k) (.int .i64 nu) (.string nm) (.string fi) (.int .i64 (ln : Int)) (.int .i64 (rn : Int))):=zs (new2 w _ _)
 have Y:=hidI (zi (zdq (o':=.cells #[.int .i64 k,.int .i64 nu,.string nm,.string fi,.int .i64 (ln : Int),.int .i64 (rn : Int)] 106) (heap_alloc_new w (.cells #[.slice S.rq.a m.rq.length S.rq.cap,.slice S.im.a m.im.length S.im.cap,.slice S.ep.a m.ep.length S.ep.cap,.slice S.st.a m.st.length S.st.cap,.slice (some ⟨g,0,none⟩) m.ex.length S.ex.cap] 36))))
 have D0 : Hid (((w.alloc (.cells #[.slice S.rq.a m.rq.length S.rq.cap,.slice S.im.a m.im.length S.im.cap,.slice S.ep.a m.ep.length S.ep.cap,.slice S.st.a m.st.length S.st.cap,.slice (some ⟨g,0,none⟩) m.ex.length S.ex.cap] 36)).alloc (.cells #[.int .i64 k,.int .i64 nu,.string nm,.string fi,.int .i64 (ln : Int),.int .i64 (rn : Int)] 106)).cell? ⟨g,rn * 6,none⟩ = some (.int .i64 kr)):=by show _ = _; rw [World.cell?_alloc_past _ _ _ (by rw [ze]; omega),World.cell?_alloc_past _ _ _ hlt]; exact d0
 simp only [ByteArray.size_append] at hsz
 have hp3 : tMinus.size = 3:=rfl
 have hs1 : tl.size ≤ 1099511627776:=by omega
 have hs2 : tr.size ≤ 1099511627776:=by omega
 have HV : Hid ((prX m.ex ln ++ tMinus ++ zbj (sumK (m.ex.getD rn exNo).kind) (prX m.ex rn)) = tl ++ tMinus ++ tr):=by show _ = _; rw [HTL.out,HTR.out]
 unfold modD
 rw [hex]
 clear hex h HA HE HMV HTL HTR htl htr hkr HKR hg2 he hsz hp3 d0 eg
 go_enter Tryz.func121,Tryz.ntmps121
 go_wp2_with fail
 have x0:=cell_regrown X.out.c0
 have x4:=cell_regrown X.out.c4
 have x5:=cell_regrown X.out.c5
 have y0:=cell_regrown Y.out.1
 have y1:=cell_regrown Y.out.2.1
 have y2:=cell_regrown Y.out.2.2.1
 have y3:=cell_regrown Y.out.2.2.2.1
 have y4:=cell_regrown Y.out.2.2.2.2.1
 have e0:=cell_regrown D0.out
 refine wp_region_quiet_below (by kernel_rfl) (by kernel_rfl) ?_
 repeat (go_big_quiet_step (first | with_reducible exact cL _ _ | with_reducible exact cS _ _ | with_reducible exact cR _ _))
 refine wpQuiet_nil ?_
 intro w1 hw'
 obtain ⟨⟨dq,osq⟩,hw''⟩:=hw'
 have HB1 : Hid (Below w.heap.size w w1):=by show Below _ _ _; rw [hw'']; exact (zdj w _ _).trans ((below_regrown _ _ _).mono (by rw [ze,ze]; omega))
 clear hw''
 go_wp2
 go_ret
 exact ⟨zcm HV.out.symm,HB1.out⟩
end Go.Proofs.YtgchhhmfloemlaaGreat
namespace Go.Proofs.YtgchhhmfloemlaaGreat
open Go.RowKit Go.PlainAid Go.Sort

def toIm (e : Ep) : Im:=⟨sNone,e.loc,e.name⟩
def zfh (C : Cx) (exp : Bool) (q : PS) : Except Nat (PS × Ep):=bd (zl C true q) fun a => bd (asP C exp a) fun b => .ok (b.1,⟨0,b.2,a.2,sNone⟩)
theorem zqy (C : Cx) (exp : Bool) (q : PS) (acc : List Ep) : zco C exp q acc = bd (zfh C exp q) fun x =>
  if isT C x.1.pos 4 zei then zco C exp (adv x.1) (acc ++ [x.2]) else bd (tokP C 4 zea x.1) fun q' => .ok (q',acc ++ [x.2]):=by
 rw [zjy,zfh,zbp]
 refine zy fun a _ => ?_
 rw [zbp]
 rfl
theorem zbkg {C : Cx} {q : PS} {a : PS × ByteArray} (hn : zl C true q = .ok a) (h : isT C a.1.pos 1 sAs = true) : zfh C false q = bd (zl C false (adv a.1)) fun b => .ok (b.1,⟨0,b.2,a.2,sNone⟩):=by
 rw [zfh,hn,zbe,asP,if_pos h]
theorem zbdr {C : Cx} {q : PS} {a : PS × ByteArray} (hn : zl C true q = .ok a) (h : isT C a.1.pos 1 sAs = false) (hd : (a.2.toList == [100,101,102,97,117,108,116]) = true) : zfh C false q = .error (here C a.1.pos):=by
 rw [zfh,hn,zbe,asP,if_neg (by rw [h]; decide),if_pos (by rw [hd]; rfl)]
 rfl
theorem zbba {C : Cx} {q : PS} {a : PS × ByteArray} (hn : zl C true q = .ok a) (h : isT C a.1.pos 1 sAs = false) (hd : (a.2.toList == [100,101,102,97,117,108,116]) = false) : zfh C false q = .ok (a.1,⟨0,a.2,a.2,sNone⟩):=by
 rw [zfh,hn,zbe,asP,if_neg (by rw [h]; decide),if_neg (by rw [hd]; decide)]
 rfl
theorem zdc {w : World} {b : Nat} {t : TypeId} {v0 v1 v2 : Value} (h : w.heap[b]? = some (.cells #[v0,v1,v2] t (0,0))) :
  w.cell? ⟨b,0,none⟩ = some v0 ∧ w.cell? ⟨b,1,none⟩ = some v1 ∧ w.cell? ⟨b,2,none⟩ = some v2 ∧ ∀ i,w.frozen? ⟨b,i,none⟩ = false:=by
 refine ⟨?_,?_,?_,fun i => ?_⟩ <;> simp [World.cell?,World.frozen?,h]
theorem put3 {w : World} {b : Nat} {v0 v1 v2 x0 x1 x2 : Value} {t : TypeId} (h : w.heap[b]? = some (.cells #[v0,v1,v2] t (0,0))) :
  (((w.setCell ⟨b,0,none⟩ x0).setCell ⟨b,1,none⟩ x1).setCell ⟨b,2,none⟩ x2).heap[b]? = some (.cells #[x0,x1,x2] t (0,0)):=by
 have e:=zcr (i:=2) (u:=x2) (zcr (i:=1) (u:=x1) (zcr (i:=0) (u:=x0) h))
 rw [e]
 simp

set_option maxRecDepth 100000 in
set_option maxHeartbeats 1600000 in
theorem zqa (C : Cx) (gt cap base gp : Nat) (S : Sv) (q : PS) (w : World) (h : IM C gt cap base gp S q w) :
  Calls Tryz.prog 185 #[.pointer (some ⟨gp,0,none⟩)] w (IOut C gt cap base gp (zfh C false q) (·.1) (fun a => imV (toIm a.2)) S w):=by
 have HH : Hid (IM C gt cap base gp S q w):=h
 have hgp : w.heap.size ≠ gp:=by have:=h.lt; omega
 have hgt : w.heap.size ≠ gt:=by have:=(zbr h.mem.tok).1; omega
 clear h
 go_enter Tryz.func185,Tryz.ntmps185
 go_wp2_with fail
 refine (zev C gt cap base gp S q _ (HH.out.alloc _)).mono ?_
 cases hn1 : zl C true q with
 | error p =>
  rintro e w1 ⟨rfl,hb⟩
  have HB : Hid (Below base w w1):=(HH.out.back ((IS.refl _ _ _).alloc _)).trans hb
  have HX : Hid (zfh C false q = .error p):=by show _ = _; rw [zfh,hn1]; rfl
  unfold Pan
  go_wp2
  refine ⟨rfl,?_⟩
  rw [HX.out]
  exact ⟨rfl,HB.out⟩
 | ok a =>
  rintro e w1 ⟨rfl,S1,m,s⟩
  have HM1 : Hid (IM C gt cap base gp S1 a.1 w1):=m
  have HT1 : Hid (IS gp S (w.alloc (.cells #[.string sNone,.string sNone,.string sNone] 100)) S1 w1):=s
  clear m s
  cases hi : isT C a.1.pos 1 sAs with
  | true =>
   have HY:=hidI (zbkg hn1 hi)
   go_wp2_with fail
   refine (zk C gt cap base gp S1 a.1 1 sAs _ HM1.out (by decide)).mono ?_
   rintro e w2 ⟨rfl,m,s⟩
   rw [hi] at m ⊢
   have HM2 : Hid (IM C gt cap base gp S1 (adv a.1) w2):=m
   have HT2 : Hid (IS gp S (w.alloc (.cells #[.string sNone,.string sNone,.string sNone] 100)) S1 w2):=HT1.out.trans s
   clear m s
   go_wp2_with fail
   refine (zdr C gt cap base gp S1 (adv a.1) _ HM2.out).mono ?_
   cases hn3 : zl C false (adv a.1) with
   | error p =>
    rintro e w3 ⟨rfl,hb⟩
    have HB : Hid (Below base w w3):=(HH.out.back HT2.out.from).trans hb
    have HX : Hid (zfh C false q = .error p):=bdE HY.out hn3
    unfold Pan
    go_wp2
    refine ⟨rfl,?_⟩
    rw [HX.out]
    exact ⟨rfl,HB.out⟩
   | ok c =>
    rintro e w3 ⟨rfl,S3,m,s⟩
    have HM3 : Hid (IM C gt cap base gp S3 c.1 w3):=m
    have HT3 : Hid (IS gp S (w.alloc (.cells #[.string sNone,.string sNone,.string sNone] 100)) S3 w3):=HT2.out.trans s
    clear m s
    have HX:=hidI (bdO HY.out hn3)
    have HG : Hid (w3.heap[w.heap.size]? = some (.cells #[.string sNone,.string sNone,.string sNone] 100 (0,0))):=IS.kept HH.out HT3.out rfl
    have HF : Hid (¬ S3.has w.heap.size):=IS.free HH.out HT3.out
    obtain ⟨b0,b1,b2,bf⟩:=zdc HG.out
    go_wp2
    refine bodyPost_ret (results_cell_row rfl _ _ w.heap.size 100 _ (0,0) _ rfl (put3 HG.out) Tryz.underlying100 rfl (by kernel_rfl)) rfl ?_
    rw [HX.out]
    exact ⟨rfl,S3,((HM3.out.set hgp hgt HF.out _ _).set hgp hgt HF.out _ _).set hgp hgt HF.out _ _,((HT3.out.from.new (Nat.le_refl _) _ _).new (Nat.le_refl _) _ _).new (Nat.le_refl _) _ _⟩
  | false =>
   cases hd : (a.2.toList == [100,101,102,97,117,108,116]) with
   | true =>
    have HY:=hidI (zbdr hn1 hi hd)
    go_wp2_with fail
    refine (zk C gt cap base gp S1 a.1 1 sAs _ HM1.out (by decide)).mono ?_
    rintro e w2 ⟨rfl,m,s⟩
    rw [hi] at m ⊢
    have HM2 : Hid (IM C gt cap base gp S1 a.1 w2):=m
    have HT2 : Hid (IS gp S (w.alloc (.cells #[.string sNone,.string sNone,.string sNone] 100)) S1 w2):=HT1.out.trans s
    clear m s
    go_wp2_with fail
    refine (zhk C gt cap base gp S1 a.1 _ HM2.out).mono ?_
    rintro e w3 ⟨rfl,hb⟩
    have HB : Hid (Below base w w3):=(HH.out.back HT2.out.from).trans (hb.mono HM2.out.mem.base)
    unfold Pan
    go_wp2
    refine ⟨rfl,?_⟩
    rw [HY.out]
    exact ⟨rfl,HB.out⟩
   | false =>
    have HX:=hidI (zbba hn1 hi hd)
    go_wp2_with fail
    refine (zk C gt cap base gp S1 a.1 1 sAs _ HM1.out (by decide)).mono ?_
    rintro e w2 ⟨rfl,m,s⟩
    rw [hi] at m ⊢
    have HM2 : Hid (IM C gt cap base gp S1 a.1 w2):=m
    have HT2 : Hid (IS gp S (w.alloc (.cells #[.string sNone,.string sNone,.string sNone] 100)) S1 w2):=HT1.out.trans s
    clear m s
    have HG : Hid (w2.heap[w.heap.size]? = some (.cells #[.string sNone,.string sNone,.string sNone] 100 (0,0))):=IS.kept HH.out HT2.out rfl
    have HF : Hid (¬ S1.has w.heap.size):=IS.free HH.out HT2.out
    obtain ⟨b0,b1,b2,bf⟩:=zdc HG.out
    go_wp2
    refine bodyPost_ret (results_cell_row rfl _ _ w.heap.size 100 _ (0,0) _ rfl (put3 HG.out) Tryz.underlying100 rfl (by kernel_rfl)) rfl ?_
    rw [HX.out]
    exact ⟨rfl,S1,((HM2.out.set hgp hgt HF.out _ _).set hgp hgt HF.out _ _).set hgp hgt HF.out _ _,((HT2.out.from.new (Nat.le_refl _) _ _).new (Nat.le_refl _) _ _).new (Nat.le_refl _) _ _⟩
end Go.Proofs.YtgchhhmfloemlaaGreat
