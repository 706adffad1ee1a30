/-
  What impl's isSameMod answers: the walk.
  How often expressions are used,counted in a row of numbers. No program is spoken of.
  What l5Two,l5Sum,l5Side and l5Expr of the specification answer: the walks.
  What importedName and importList of impl's parser answer: the walks.
-/
import Derived.Laws.StructEq
import Derived.Test.YtmnemfookpjhiaaGreatClSameSpec
import Derived.Test.YtmnemfookpjhiaaGreatClImplParseJToMdMem
import Derived.Test.YtmnemfookpjhiaaGreatClDrawBaseToTokMem
import Derived.Test.YtmnemfookpjhiaaGreatClSpecParseA
namespace Go.Proofs.YtmnemfookpjhiaaGreat
set_option maxRecDepth 100000
set_option maxHeartbeats 12800000
open Go.RowKit Go.PlainAid Go.Sort
theorem zbdk (x y:Im) (w:World):Sem.run Tryz.prog (binOp .neq 119 (.agg #[.string x.spec,.string x.first,.string x.loc]) (.agg #[.string y.spec,.string y.first,.string y.loc])) w= .ok (.bool (!eqIm x y)) w:=by
 have uS:=Tryz.underlying9
 have aS:=Tryz.isAgg9
 have zS:=Tryz.sizeOf9
 have uI:=Tryz.underlying3
 have aI:=Tryz.isAgg3
 have zI:=Tryz.sizeOf3
 have hS:Tryz.prog.underlying 119=some (.struct (Tryz.prog.fieldsOf 119)):=by kernel_rfl
 have hp:Tryz.prog.stoodInHeld 119=false:=by kernel_rfl
 rw[run_neq_struct,show (10000:Nat)=9999+1 from rfl,run_equalIn_agg w 9999 119 _ _ hS hp]
 simp only[Program.fieldsOf,Tryz.underlying119]
 go_simp
 by_cases h0:x.spec.toList=y.spec.toList<;>by_cases h1:x.first.toList=y.first.toList<;>by_cases h2:x.loc.toList=y.loc.toList<;>simp[eqIm,h0,h1,h2]
theorem zbdl (op:BinOp) (a b:Operand) (x y:Im) (w:World):Sem.run Tryz.prog (eqGuard op 119 a b (.agg #[.string x.spec,.string x.first,.string x.loc]) (.agg #[.string y.spec,.string y.first,.string y.loc])) w= .ok () w:=run_eqGuard_agg w op 119 a b _ _ (by kernel_rfl)
theorem zbdm (x y:Ep) (w:World):Sem.run Tryz.prog (binOp .neq 121 (.agg #[.int .i64 x.kind,.string x.name,.string x.loc,.string x.spec]) (.agg #[.int .i64 y.kind,.string y.name,.string y.loc,.string y.spec])) w= .ok (.bool (!eqEp x y)) w:=by
 have uS:=Tryz.underlying9
 have aS:=Tryz.isAgg9
 have zS:=Tryz.sizeOf9
 have uI:=Tryz.underlying3
 have aI:=Tryz.isAgg3
 have zI:=Tryz.sizeOf3
 have hS:Tryz.prog.underlying 121=some (.struct (Tryz.prog.fieldsOf 121)):=by kernel_rfl
 have hp:Tryz.prog.stoodInHeld 121=false:=by kernel_rfl
 rw[run_neq_struct,show (10000:Nat)=9999+1 from rfl,run_equalIn_agg w 9999 121 _ _ hS hp]
 simp only[Program.fieldsOf,Tryz.underlying121]
 go_simp
 by_cases h0:x.kind=y.kind<;>by_cases h1:x.name.toList=y.name.toList<;>by_cases h2:x.loc.toList=y.loc.toList<;>by_cases h3:x.spec.toList=y.spec.toList<;>simp[eqEp,h0,h1,h2,h3]
theorem zbdn (op:BinOp) (a b:Operand) (x y:Ep) (w:World):Sem.run Tryz.prog (eqGuard op 121 a b (.agg #[.int .i64 x.kind,.string x.name,.string x.loc,.string x.spec]) (.agg #[.int .i64 y.kind,.string y.name,.string y.loc,.string y.spec])) w= .ok () w:=run_eqGuard_agg w op 121 a b _ _ (by kernel_rfl)
theorem zbdo (x y:Sm) (w:World):Sem.run Tryz.prog (binOp .neq 123 (.agg #[.int .i64 x.kind,.string x.name,.int .i64 x.expr]) (.agg #[.int .i64 y.kind,.string y.name,.int .i64 y.expr])) w= .ok (.bool (!eqSm x y)) w:=by
 have uS:=Tryz.underlying9
 have aS:=Tryz.isAgg9
 have zS:=Tryz.sizeOf9
 have uI:=Tryz.underlying3
 have aI:=Tryz.isAgg3
 have zI:=Tryz.sizeOf3
 have hS:Tryz.prog.underlying 123=some (.struct (Tryz.prog.fieldsOf 123)):=by kernel_rfl
 have hp:Tryz.prog.stoodInHeld 123=false:=by kernel_rfl
 rw[run_neq_struct,show (10000:Nat)=9999+1 from rfl,run_equalIn_agg w 9999 123 _ _ hS hp]
 simp only[Program.fieldsOf,Tryz.underlying123]
 go_simp
 by_cases h0:x.kind=y.kind<;>by_cases h1:x.name.toList=y.name.toList<;>by_cases h2:x.expr=y.expr<;>simp[eqSm,h0,h1,h2]
theorem zbdp (op:BinOp) (a b:Operand) (x y:Sm) (w:World):Sem.run Tryz.prog (eqGuard op 123 a b (.agg #[.int .i64 x.kind,.string x.name,.int .i64 x.expr]) (.agg #[.int .i64 y.kind,.string y.name,.int .i64 y.expr])) w= .ok () w:=run_eqGuard_agg w op 123 a b _ _ (by kernel_rfl)
theorem zbdq (x y:Ex) (w:World):Sem.run Tryz.prog (binOp .neq 125 (.agg #[.int .i64 x.kind,.int .i64 x.num,.string x.name,.string x.field,.int .i64 x.l,.int .i64 x.r]) (.agg #[.int .i64 y.kind,.int .i64 y.num,.string y.name,.string y.field,.int .i64 y.l,.int .i64 y.r])) w= .ok (.bool (!eqEx x y)) w:=by
 have uS:=Tryz.underlying9
 have aS:=Tryz.isAgg9
 have zS:=Tryz.sizeOf9
 have uI:=Tryz.underlying3
 have aI:=Tryz.isAgg3
 have zI:=Tryz.sizeOf3
 have hS:Tryz.prog.underlying 125=some (.struct (Tryz.prog.fieldsOf 125)):=by kernel_rfl
 have hp:Tryz.prog.stoodInHeld 125=false:=by kernel_rfl
 rw[run_neq_struct,show (10000:Nat)=9999+1 from rfl,run_equalIn_agg w 9999 125 _ _ hS hp]
 simp only[Program.fieldsOf,Tryz.underlying125]
 go_simp
 by_cases h0:x.kind=y.kind<;>by_cases h1:x.num=y.num<;>by_cases h2:x.name.toList=y.name.toList<;>by_cases h3:x.field.toList=y.field.toList<;>by_cases h4:x.l=y.l<;>by_cases h5:x.r=y.r<;>simp[eqEx,h0,h1,h2,h3,h4,h5]
theorem zbdr (op:BinOp) (a b:Operand) (x y:Ex) (w:World):Sem.run Tryz.prog (eqGuard op 125 a b (.agg #[.int .i64 x.kind,.int .i64 x.num,.string x.name,.string x.field,.int .i64 x.l,.int .i64 x.r]) (.agg #[.int .i64 y.kind,.int .i64 y.num,.string y.name,.string y.field,.int .i64 y.l,.int .i64 y.r])) w= .ok () w:=run_eqGuard_agg w op 125 a b _ _ (by kernel_rfl)
theorem zvq (b1 b2:Nat) (S1 S2:Sv) (m1 m2:Md) (w:World) (h1:OwnMd w b1 S1 m1) (h2:OwnMd w b2 S2 m2) (hf:zpw m1):
  Calls Tryz.prog 72 #[modD S1 m1,modD S2 m2] w fun e w'=>zfx (m1=m2) e∧Below w.heap.size w w':=by
 have H1:=hidI h1
 have H2:=hidI h2
 have HF:=hidI hf
 clear h1 h2 hf
 unfold modD
 go_enter Tryz.func72,Tryz.ntmps72
 go_upto_region 1 with fail
 refine zbc (R:=TwoM w b1 b2 S1 S2 m1 m2) (zpe w b1 b2 S1 S2 m1 m2 H1.out H2.out) ?_
 clear H1 H2
 intro w0 h
 have T0:=hidI h
 clear h
 obtain⟨c0,c1,c2,c3,c4,cf⟩:=zi T0.out.1
 obtain⟨d0,d1,d2,d3,d4,df⟩:=zi T0.out.2.1
 go_wp2_with fail
 refine (zxt b1 b2 S1.rq S2.rq m1.rq m2.rq w0 (by rw[←zka];exact T0.out.2.2.1.rq) (by rw[←zka];exact T0.out.2.2.2.1.rq) HF.out.1).mono ?_
 rintro e w1 ⟨⟨r,rfl,hr⟩,hb⟩
 have T1:=hidI (T0.out.later hb)
 have R0:=hidI hr
 clear hb hr c0 c1 c2 c3 c4 cf d0 d1 d2 d3 d4 df
 obtain⟨c0,c1,c2,c3,c4,cf⟩:=zi T1.out.1
 obtain⟨d0,d1,d2,d3,d4,df⟩:=zi T1.out.2.1
 cases r with
 |false=>
  go_wp2
  go_ret
  exact⟨⟨false,rfl,⟨fun k=>(by cases k),fun k=>(by have:=R0.out.2 (by rw[k]);cases this)⟩⟩,T1.out.2.2.2.2⟩
 |true=>
  go_wp2_with fail
  refine (zbad zbdk zbdl b1 b2 S1.im S2.im m1.im m2.im w1 T1.out.2.2.1.im T1.out.2.2.2.1.im HF.out.2.1).mono ?_
  rintro e w2 ⟨⟨r,rfl,hr⟩,hb⟩
  have T2:=hidI (T1.out.later hb)
  have R1:=hidI hr
  clear hb hr c0 c1 c2 c3 c4 cf d0 d1 d2 d3 d4 df
  obtain⟨c0,c1,c2,c3,c4,cf⟩:=zi T2.out.1
  obtain⟨d0,d1,d2,d3,d4,df⟩:=zi T2.out.2.1
  cases r with
  |false=>
   go_wp2
   go_ret
   exact⟨⟨false,rfl,⟨fun k=>(by cases k),fun k=>(by have:=R1.out.2 (by rw[k]);cases this)⟩⟩,T2.out.2.2.2.2⟩
  |true=>
   go_wp2_with fail
   refine (zbag zbdm zbdn b1 b2 S1.ep S2.ep m1.ep m2.ep w2 T2.out.2.2.1.ep T2.out.2.2.2.1.ep HF.out.2.2.1).mono ?_
   rintro e w3 ⟨⟨r,rfl,hr⟩,hb⟩
   have T3:=hidI (T2.out.later hb)
   have R2:=hidI hr
   clear hb hr c0 c1 c2 c3 c4 cf d0 d1 d2 d3 d4 df
   obtain⟨c0,c1,c2,c3,c4,cf⟩:=zi T3.out.1
   obtain⟨d0,d1,d2,d3,d4,df⟩:=zi T3.out.2.1
   cases r with
   |false=>
    go_wp2
    go_ret
    exact⟨⟨false,rfl,⟨fun k=>(by cases k),fun k=>(by have:=R2.out.2 (by rw[k]);cases this)⟩⟩,T3.out.2.2.2.2⟩
   |true=>
    go_wp2_with fail
    refine (zbaj zbdo zbdp b1 b2 S1.st S2.st m1.st m2.st w3 T3.out.2.2.1.st T3.out.2.2.2.1.st HF.out.2.2.2.1).mono ?_
    rintro e w4 ⟨⟨r,rfl,hr⟩,hb⟩
    have T4:=hidI (T3.out.later hb)
    have R3:=hidI hr
    clear hb hr c0 c1 c2 c3 c4 cf d0 d1 d2 d3 d4 df
    obtain⟨c0,c1,c2,c3,c4,cf⟩:=zi T4.out.1
    obtain⟨d0,d1,d2,d3,d4,df⟩:=zi T4.out.2.1
    cases r with
    |false=>
     go_wp2
     go_ret
     exact⟨⟨false,rfl,⟨fun k=>(by cases k),fun k=>(by have:=R3.out.2 (by rw[k]);cases this)⟩⟩,T4.out.2.2.2.2⟩
    |true=>
     go_wp2_with fail
     refine (zbam zbdq zbdr b1 b2 S1.ex S2.ex m1.ex m2.ex w4 T4.out.2.2.1.ex T4.out.2.2.2.1.ex HF.out.2.2.2.2).mono ?_
     rintro e w5 ⟨⟨r,rfl,hr⟩,hb⟩
     have T5:=hidI (T4.out.later hb)
     have R4:=hidI hr
     clear hb hr c0 c1 c2 c3 c4 cf d0 d1 d2 d3 d4 df
     obtain⟨c0,c1,c2,c3,c4,cf⟩:=zi T5.out.1
     obtain⟨d0,d1,d2,d3,d4,df⟩:=zi T5.out.2.1
     cases r with
     |false=>
      go_wp2
      go_ret
      exact⟨⟨false,rfl,⟨fun k=>(by cases k),fun k=>(by have:=R4.out.2 (by rw[k]);cases this)⟩⟩,T5.out.2.2.2.2⟩
     |true=>
      go_wp2
      go_ret
      exact⟨⟨true,rfl,⟨fun _=>zbkj (R0.out.1 (by simp)) (R1.out.1 (by simp)) (R2.out.1 (by simp)) (R3.out.1 (by simp)) (R4.out.1 (by simp)),fun _=>rfl⟩⟩,T5.out.2.2.2.2⟩
theorem zuq (a b:List Ex) (k:Int):zco (a++b) k=zco a k+zco b k:=by simp[zco]
theorem zur (a b:List Sm) (k:Int):zdp (a++b) k=zdp a k+zdp b k:=by simp[zdp]
theorem zsl {ex:List Ex} {i:Nat} (hi:i<ex.length) (k:Int):zco (ex.take (i+1)) k=zco (ex.take i) k+u1 ex[i] k:=by
 rw[List.take_succ_eq_append_getElem hi,zuq]
 simp[zco,u1]
theorem zbds {st:List Sm} {i:Nat} (hi:i<st.length) (k:Int):zdp (st.take (i+1)) k=zdp (st.take i) k+if st[i].expr==k then 1 else 0:=by
 rw[List.take_succ_eq_append_getElem hi,zur]
 simp[zdp]
theorem znu (ex:List Ex) (k:Int):zco ex k≤2*ex.length:=by
 induction ex with
 |nil=>simp[zco]
 |cons x l ih=>
  rw[show x::l=[x]++l from rfl,zuq]
  have:zco [x] k≤2:=by
   simp only[zco,List.map_cons,List.map_nil,List.sum_cons,List.sum_nil]
   split
   ·split<;>split<;>omega
   ·omega
  simp only[List.length_append,List.length_cons,List.length_nil]
  omega
theorem zyb (st:List Sm) (k:Int):zdp st k≤st.length:=by
 induction st with
 |nil=>simp[zdp]
 |cons x l ih=>
  rw[show x::l=[x]++l from rfl,zur]
  have:zdp [x] k≤1:=by
   simp only[zdp,List.map_cons,List.map_nil,List.sum_cons,List.sum_nil]
   split<;>omega
  simp only[List.length_append,List.length_cons,List.length_nil]
  omega
/-- A row of n numbers. -/
def rowN (n:Nat) (f:Nat→Nat):List Value:=(List.range n).map fun k=>.int .i64 (f k:Int)
theorem zrm (n:Nat) (f:Nat→Nat):(rowN n f).length=n:=by simp[rowN]
theorem zpx {n:Nat} (f:Nat→Nat) {k:Nat} (hk:k<n):(rowN n f)[k]? =some (.int .i64 (f k:Int)):=by
 unfold rowN
 rw[List.getElem?_map,List.getElem?_range hk]
 rfl
theorem zbiy {n l:Nat} (f g:Nat→Nat) (v:Nat) (hv:g l=v) (h: ∀k,k≠l→g k=f k):(rowN n f).set l (.int .i64 (v:Int))=rowN n g:=by
 apply List.ext_getElem?
 intro k
 by_cases hk:k<n
 ·by_cases e:k=l
  ·subst e
   rw[List.getElem?_set_self (by rw[zrm];exact hk),zpx g hk,hv]
  ·rw[List.getElem?_set_ne (fun x=>e x.symm),zpx f hk,zpx g hk,h k e]
 ·rw[List.getElem?_eq_none (by rw[List.length_set,zrm];omega),List.getElem?_eq_none (by rw[zrm];omega)]
theorem zhf {n:Nat} {f g:Nat→Nat} (h: ∀k,k<n→f k=g k):rowN n f=rowN n g:=by
 unfold rowN
 refine List.map_congr_left fun k hk=>?_
 rw[h k (List.mem_range.1 hk)]
/-- One use more of l. -/
def plus (f:Nat→Nat) (l:Nat):Nat→Nat:=fun k=>f k+if k=l then 1 else 0
theorem zblt (f:Nat→Nat) (l:Nat):plus f l l=f l+1:=by simp[plus]
theorem zblu (f:Nat→Nat) {l k:Nat} (h:k≠l):plus f l k=f k:=by simp[plus,h]
theorem zyc {ex:List Ex} {i:Nat} (hi:i<ex.length) (ht:twoK ex[i].kind=true) (h0:0≤ex[i].l) (h1:0≤ex[i].r) (k:Nat):plus (plus (fun k=>zco (ex.take i) (k:Int)) ex[i].l.toNat) ex[i].r.toNat k=zco (ex.take (i+1)) (k:Int):=by
 rw[zsl hi,u1,if_pos ht]
 unfold plus
 have e1:(ex[i].l==(k:Int))=decide (k=ex[i].l.toNat):=by
  rw[Bool.eq_iff_iff,beq_iff_eq,decide_eq_true_iff];omega
 have e2:(ex[i].r==(k:Int))=decide (k=ex[i].r.toNat):=by
  rw[Bool.eq_iff_iff,beq_iff_eq,decide_eq_true_iff];omega
 rw[e1,e2]
 simp only[decide_eq_true_eq]
 omega
theorem zyd {ex:List Ex} {i:Nat} (hi:i<ex.length) (ht:twoK ex[i].kind=false) (k:Nat):zco (ex.take i) (k:Int)=zco (ex.take (i+1)) (k:Int):=by
 rw[zsl hi,u1,if_neg (by rw[ht];decide),Nat.add_zero]
theorem zye {st:List Sm} {ex:List Ex} {i:Nat} (hi:i<st.length) (h0:0≤st[i].expr) (k:Nat):plus (fun k=>zco ex (k:Int)+zdp (st.take i) (k:Int)) st[i].expr.toNat k=zco ex (k:Int)+zdp (st.take (i+1)) (k:Int):=by
 rw[zbds hi]
 unfold plus
 have e1:(st[i].expr==(k:Int))=decide (k=st[i].expr.toNat):=by
  rw[Bool.eq_iff_iff,beq_iff_eq,decide_eq_true_iff];omega
 rw[e1]
 simp only[decide_eq_true_eq]
 omega
/-- Sides ahead, as far as one has looked. -/
def AheadTo (ex:List Ex) (n:Nat):Prop:=∀(i:Nat) (x:Ex),i<n→ex[i]? =some x→twoK x.kind=true→0≤x.l∧x.l<(i:Int)∧0≤x.r∧x.r<(i:Int)
theorem AheadTo.all {ex:List Ex} (h:AheadTo ex ex.length):zfs ex:=fun i x hx=>h i x (List.getElem?_eq_some_iff.1 hx).1 hx
theorem AheadTo.next {ex:List Ex} {i:Nat} (h:AheadTo ex i) (hi:i<ex.length) (hx:twoK ex[i].kind=true→0≤ex[i].l∧ex[i].l<(i:Int)∧0≤ex[i].r∧ex[i].r<(i:Int)):AheadTo ex (i+1):=by
 intro j x hj he ht
 by_cases e:j=i
 ·subst e
  obtain⟨_,rfl⟩:=List.getElem?_eq_some_iff.1 he
  exact hx ht
 ·exact h j x (by omega) he ht
theorem AheadTo.not {ex:List Ex} {i:Nat} (hi:i<ex.length) (ht:twoK ex[i].kind=true) (hx: ¬(0≤ex[i].l∧ex[i].l<(i:Int)∧0≤ex[i].r∧ex[i].r<(i:Int))): ¬zfs ex:=fun h=>hx (h i _ (List.getElem?_eq_getElem hi) ht)
theorem zus (k:Int) (w:World):Calls Tryz.prog 149 #[.int .i64 k] w fun e w'=>e= .returned (.bool (twoK k))∧w'=w:=by
 cases h6:(k==6) with
 |true=>
  have HV:Hid (twoK k=true):=by show _=_;rw[twoK,h6];rfl
  go_enter Tryz.func149,Tryz.ntmps149
  go_wp2
  go_ret
  exact⟨zh HV.out.symm,rfl⟩
 |false=>
  cases h7:(k==7) with
  |true=>
   have HV:Hid (twoK k=true):=by show _=_;rw[twoK,h6,h7];rfl
   go_enter Tryz.func149,Tryz.ntmps149
   go_wp2
   go_ret
   exact⟨zh HV.out.symm,rfl⟩
  |false=>
   have HV:Hid (twoK k=(k==8)):=by show _=_;rw[twoK,h6,h7];simp
   go_enter Tryz.func149,Tryz.ntmps149
   go_wp2
   go_ret
   exact⟨zh HV.out.symm,rfl⟩
theorem zpf (base:Nat) (S:Sv) (m:Md) (i:Nat) (w:World) (h:OwnMd w base S m) (hi:i<m.ex.length):
  Calls Tryz.prog 210 #[modD S m,.int .i64 i] w fun e w'=>e= .returned (.bool (sumK (m.ex.getD i exNo).kind))∧Below w.heap.size w w':=by
 obtain⟨g,hg,hlt,c0,-,-,-,-,-⟩:=h.expr hi
 have hii:(i:Int)<(m.ex.length:Int):=by omega
 unfold modD
 rw[hg]
 generalize (m.ex.getD i exNo).kind=k at c0 ⊢
 clear h hg
 cases h6:(k==6) with
 |true=>
  have HV:Hid (sumK k=true):=by show _=_;rw[sumK,h6];rfl
  go_enter Tryz.func210,Tryz.ntmps210
  go_wp2
  go_ret
  exact⟨zh HV.out.symm,(Below.refl _ _).alloc (Nat.le_refl _) _⟩
 |false=>
  have HV:Hid (sumK k=(k==7)):=by show _=_;rw[sumK,h6];simp
  go_enter Tryz.func210,Tryz.ntmps210
  go_wp2
  go_ret
  exact⟨zh HV.out.symm,(Below.refl _ _).alloc (Nat.le_refl _) _⟩
/-- What l5Expr must answer of all numbers below n. -/
def znf (base:Nat) (S:Sv) (m:Md) (n:Nat):Prop:=∀(i:Nat) (w:World),i<n→i<m.ex.length→OwnMd w base S m→wt m.ex i≤1099511627776→
 Calls Tryz.prog 151 #[modD S m,.int .i64 i] w fun e w'=>e= .returned (.string (prX m.ex i))∧Below w.heap.size w w'
theorem zmj (base:Nat) (S:Sv) (m:Md) (n i:Nat) (b:Bool) (w:World) (he:znf base S m n) (hn:i<n) (hi:i<m.ex.length) (h:OwnMd w base S m) (hw:wt m.ex i≤1099511627776):
  Calls Tryz.prog 209 #[modD S m,.int .i64 i,.bool b] w fun e w'=>e= .returned (.string (zbj b (prX m.ex i)))∧Below w.heap.size w w':=by
 have HE:=hidI he
 have HH:=hidI h
 have HW:=hidI hw
 unfold wt at hw
 clear he h
 unfold modD
 cases b with
 |true=>
  have HV:Hid (zbj true (prX m.ex i)=zt++prX m.ex i++zcz):=rfl
  go_enter Tryz.func209,Tryz.ntmps209
  go_wp2_with fail
  refine (HE.out i _ hn hi (HH.out.alloc _) HW.out).mono ?_
  rintro e w1 ⟨rfl,hb⟩
  have HB:Hid (Below w.heap.size w w1):=((Below.refl _ _).alloc (Nat.le_refl _) _).trans (hb.mono (by rw[ze];omega))
  clear hb
  generalize ht:prX m.ex i=t at hw HV ⊢
  have HT:=hidI ht
  clear ht
  go_wp2
  go_ret
  exact⟨zcd (by rw[HT.out];exact HV.out.symm),HB.out⟩
 |false=>
  have HV:Hid (zbj false (prX m.ex i)=prX m.ex i):=rfl
  go_enter Tryz.func209,Tryz.ntmps209
  go_wp2_with fail
  refine (HE.out i _ hn hi (HH.out.alloc _) HW.out).mono ?_
  rintro e w1 ⟨rfl,hb⟩
  have HB:Hid (Below w.heap.size w w1):=((Below.refl _ _).alloc (Nat.le_refl _) _).trans (hb.mono (by rw[ze];omega))
  clear hb
  go_wp2
  go_ret
  exact⟨zcd HV.out.symm,HB.out⟩
theorem zbiz (g:Nat) (S:Sv) (m:Md) (i:Nat) (k nu l r:Int) (nm fi:ByteArray) (w:World) (hex:S.ex.a=some ⟨g,0,none⟩) (hi:i<m.ex.length) (hlt:g<w.heap.size) (c0:w.cell? ⟨g,i*6,none⟩=some (.int .i64 k)) (c1:w.cell? ⟨g,i*6+1,none⟩=some (.int .i64 nu)) (c2:w.cell? ⟨g,i*6+2,none⟩=some (.string nm)) (c3:w.cell? ⟨g,i*6+3,none⟩=some (.string fi)) (c4:w.cell? ⟨g,i*6+4,none⟩=some (.int .i64 l)) (c5:w.cell? ⟨g,i*6+5,none⟩=some (.int .i64 r)) (k1:(k==1)=true) (hnu: -9223372036854775808≤nu∧nu≤9223372036854775807):
  Calls Tryz.prog 151 #[modD S m,.int .i64 i] w fun e w'=>e= .returned (.string (strOfNums (decL nu)))∧Below w.heap.size w w':=by
 have hii:(i:Int)<(m.ex.length:Int):=by omega
 unfold modD
 rw[hex]
 clear hex
 go_enter Tryz.func151,Tryz.ntmps151
 go_wp2_with fail
 refine (zqv nu _ hnu).mono ?_
 rintro e w1 ⟨rfl,hb⟩
 have HB:Hid (Below w.heap.size w w1):=(zdo w _ _).trans (hb.mono (by rw[ze,ze];omega))
 clear hb
 go_wp2
 go_ret
 exact⟨rfl,HB.out⟩
theorem zbja (g:Nat) (S:Sv) (m:Md) (i:Nat) (k nu l r:Int) (nm fi:ByteArray) (w:World) (hex:S.ex.a=some ⟨g,0,none⟩) (hi:i<m.ex.length) (hlt:g<w.heap.size) (c0:w.cell? ⟨g,i*6,none⟩=some (.int .i64 k)) (c1:w.cell? ⟨g,i*6+1,none⟩=some (.int .i64 nu)) (c2:w.cell? ⟨g,i*6+2,none⟩=some (.string nm)) (c3:w.cell? ⟨g,i*6+3,none⟩=some (.string fi)) (c4:w.cell? ⟨g,i*6+4,none⟩=some (.int .i64 l)) (c5:w.cell? ⟨g,i*6+5,none⟩=some (.int .i64 r)) (k1:(k==1)=false) (k2:(k==2)=true):
  Calls Tryz.prog 151 #[modD S m,.int .i64 i] w fun e w'=>e= .returned (.string (nm))∧Below w.heap.size w w':=by
 have hii:(i:Int)<(m.ex.length:Int):=by omega
 unfold modD
 rw[hex]
 clear hex
 go_enter Tryz.func151,Tryz.ntmps151
 go_wp2
 go_ret
 exact⟨rfl,((Below.refl _ _).alloc (Nat.le_refl _) _).alloc (by show _≤(w.heap.push _).size;simp) _⟩
theorem zbjb (g:Nat) (S:Sv) (m:Md) (i:Nat) (k nu l r:Int) (nm fi:ByteArray) (w:World) (hex:S.ex.a=some ⟨g,0,none⟩) (hi:i<m.ex.length) (hlt:g<w.heap.size) (c0:w.cell? ⟨g,i*6,none⟩=some (.int .i64 k)) (c1:w.cell? ⟨g,i*6+1,none⟩=some (.int .i64 nu)) (c2:w.cell? ⟨g,i*6+2,none⟩=some (.string nm)) (c3:w.cell? ⟨g,i*6+3,none⟩=some (.string fi)) (c4:w.cell? ⟨g,i*6+4,none⟩=some (.int .i64 l)) (c5:w.cell? ⟨g,i*6+5,none⟩=some (.int .i64 r)) (k1:(k==1)=false) (k2:(k==2)=false) (k3:(k==3)=true) (hsz:(nm++cParens).size≤1099511627776):
  Calls Tryz.prog 151 #[modD S m,.int .i64 i] w fun e w'=>e= .returned (.string (nm++cParens))∧Below w.heap.size w w':=by
 have hii:(i:Int)<(m.ex.length:Int):=by omega
 unfold modD
 rw[hex]
 clear hex
 simp only[ByteArray.size_append] at hsz
 have hp2:cParens.size=2:=rfl
 have hn2:nm.size≤1099511627776:=by omega
 clear hsz hp2
 go_enter Tryz.func151,Tryz.ntmps151
 go_wp2
 go_ret
 exact⟨rfl,((Below.refl _ _).alloc (Nat.le_refl _) _).alloc (by show _≤(w.heap.push _).size;simp) _⟩
theorem zbjc (g:Nat) (S:Sv) (m:Md) (i:Nat) (k nu l r:Int) (nm fi:ByteArray) (w:World) (hex:S.ex.a=some ⟨g,0,none⟩) (hi:i<m.ex.length) (hlt:g<w.heap.size) (c0:w.cell? ⟨g,i*6,none⟩=some (.int .i64 k)) (c1:w.cell? ⟨g,i*6+1,none⟩=some (.int .i64 nu)) (c2:w.cell? ⟨g,i*6+2,none⟩=some (.string nm)) (c3:w.cell? ⟨g,i*6+3,none⟩=some (.string fi)) (c4:w.cell? ⟨g,i*6+4,none⟩=some (.int .i64 l)) (c5:w.cell? ⟨g,i*6+5,none⟩=some (.int .i64 r)) (k1:(k==1)=false) (k2:(k==2)=false) (k3:(k==3)=false) (k4:(k==4)=true) (hsz:(nm++cPoint++fi).size≤1099511627776):
  Calls Tryz.prog 151 #[modD S m,.int .i64 i] w fun e w'=>e= .returned (.string (nm++cPoint++fi))∧Below w.heap.size w w':=by
 have hii:(i:Int)<(m.ex.length:Int):=by omega
 unfold modD
 rw[hex]
 clear hex
 simp only[ByteArray.size_append] at hsz
 have hp1:cPoint.size=1:=rfl
 have hn2:nm.size≤1099511627776:=by omega
 have hf2:fi.size≤1099511627776:=by omega
 clear hsz hp1
 go_enter Tryz.func151,Tryz.ntmps151
 go_wp2
 go_ret
 exact⟨rfl,((Below.refl _ _).alloc (Nat.le_refl _) _).alloc (by show _≤(w.heap.push _).size;simp) _⟩
theorem zbjd (g:Nat) (S:Sv) (m:Md) (i:Nat) (k nu l r:Int) (nm fi:ByteArray) (w:World) (hex:S.ex.a=some ⟨g,0,none⟩) (hi:i<m.ex.length) (hlt:g<w.heap.size) (c0:w.cell? ⟨g,i*6,none⟩=some (.int .i64 k)) (c1:w.cell? ⟨g,i*6+1,none⟩=some (.int .i64 nu)) (c2:w.cell? ⟨g,i*6+2,none⟩=some (.string nm)) (c3:w.cell? ⟨g,i*6+3,none⟩=some (.string fi)) (c4:w.cell? ⟨g,i*6+4,none⟩=some (.int .i64 l)) (c5:w.cell? ⟨g,i*6+5,none⟩=some (.int .i64 r)) (k1:(k==1)=false) (k2:(k==2)=false) (k3:(k==3)=false) (k4:(k==4)=false) (k5:(k==5)=true) (hsz:(nm++cPoint++fi++cParens).size≤1099511627776):
  Calls Tryz.prog 151 #[modD S m,.int .i64 i] w fun e w'=>e= .returned (.string (nm++cPoint++fi++cParens))∧Below w.heap.size w w':=by
 have hii:(i:Int)<(m.ex.length:Int):=by omega
 unfold modD
 rw[hex]
 clear hex
 simp only[ByteArray.size_append] at hsz
 have hp2:cParens.size=2:=rfl
 have hp1:cPoint.size=1:=rfl
 have hn2:nm.size≤1099511627776:=by omega
 have hf2:fi.size≤1099511627776:=by omega
 clear hsz hp2 hp1
 go_enter Tryz.func151,Tryz.ntmps151
 go_wp2
 go_ret
 exact⟨rfl,((Below.refl _ _).alloc (Nat.le_refl _) _).alloc (by show _≤(w.heap.push _).size;simp) _⟩
theorem zbje (g:Nat) (S:Sv) (m:Md) (i:Nat) (k nu l r:Int) (nm fi:ByteArray) (w:World) (hex:S.ex.a=some ⟨g,0,none⟩) (hi:i<m.ex.length) (hlt:g<w.heap.size) (c0:w.cell? ⟨g,i*6,none⟩=some (.int .i64 k)) (c1:w.cell? ⟨g,i*6+1,none⟩=some (.int .i64 nu)) (c2:w.cell? ⟨g,i*6+2,none⟩=some (.string nm)) (c3:w.cell? ⟨g,i*6+3,none⟩=some (.string fi)) (c4:w.cell? ⟨g,i*6+4,none⟩=some (.int .i64 l)) (c5:w.cell? ⟨g,i*6+5,none⟩=some (.int .i64 r)) (k1:(k==1)=false) (k2:(k==2)=false) (k3:(k==3)=false) (k4:(k==4)=false) (k5:(k==5)=false) (k6:(k==6)=false) (k7:(k==7)=false) (k8:(k==8)=false):
  Calls Tryz.prog 151 #[modD S m,.int .i64 i] w fun e w'=>e= .returned (.string (sNone))∧Below w.heap.size w w':=by
 have hii:(i:Int)<(m.ex.length:Int):=by omega
 unfold modD
 rw[hex]
 clear hex
 go_enter Tryz.func151,Tryz.ntmps151
 go_wp2
 go_ret
 exact⟨rfl,((Below.refl _ _).alloc (Nat.le_refl _) _).alloc (by show _≤(w.heap.push _).size;simp) _⟩
theorem zbjf (base g:Nat) (S:Sv) (m:Md) (i ln rn:Nat) (k nu:Int) (nm fi:ByteArray) (w:World) (hex:S.ex.a=some ⟨g,0,none⟩) (h:OwnMd w base S m) (hi:i<m.ex.length) (hlt:g<w.heap.size) (c0:w.cell? ⟨g,i*6,none⟩=some (.int .i64 k)) (c1:w.cell? ⟨g,i*6+1,none⟩=some (.int .i64 nu)) (c2:w.cell? ⟨g,i*6+2,none⟩=some (.string nm)) (c3:w.cell? ⟨g,i*6+3,none⟩=some (.string fi)) (c4:w.cell? ⟨g,i*6+4,none⟩=some (.int .i64 (ln:Int))) (c5:w.cell? ⟨g,i*6+5,none⟩=some (.int .i64 (rn:Int))) (k1:(k==1)=false) (k2:(k==2)=false) (k3:(k==3)=false) (k4:(k==4)=false) (k5:(k==5)=false) (k6:(k==6)=true) (hsz:(prX m.ex ln++tPlus++zbj (sumK (m.ex.getD rn exNo).kind) (prX m.ex rn)).size≤1099511627776) (he:znf base S m i) (hl:ln<i) (hr:rn<i) (hwl:wt m.ex ln≤1099511627776) (hwr:wt m.ex rn≤1099511627776):
  Calls Tryz.prog 151 #[modD S m,.int .i64 i] w fun e w'=>e= .returned (.string (prX m.ex ln++tPlus++zbj (sumK (m.ex.getD rn exNo).kind) (prX m.ex rn)))∧Below w.heap.size w w':=by
 have hii:(i:Int)<(m.ex.length:Int):=by omega
 have HA:Hid (OwnMd ((w.alloc (.cells #[.slice S.rq.a m.rq.length S.rq.cap,.slice S.im.a m.im.length S.im.cap,.slice S.ep.a m.ep.length S.ep.cap,.slice S.st.a m.st.length S.st.cap,.slice (some ⟨g,0,none⟩) m.ex.length S.ex.cap] 54)).alloc (.cells #[.int .i64 k,.int .i64 nu,.string nm,.string fi,.int .i64 (ln:Int),.int .i64 (rn:Int)] 125)) base S m):=(h.alloc _).alloc _
 have HE:=hidI he
 have HMV:Hid (modD S m= .agg #[.slice S.rq.a m.rq.length S.rq.cap,.slice S.im.a m.im.length S.im.cap,.slice S.ep.a m.ep.length S.ep.cap,.slice S.st.a m.st.length S.st.cap,.slice (some ⟨g,0,none⟩) m.ex.length S.ex.cap]):=by show _=_;rw[modD,hex]
 have hli:(ln:Int)<(m.ex.length:Int):=by omega
 have hri:(rn:Int)<(m.ex.length:Int):=by omega
 obtain⟨g2,hg2,-,d0,-,-,-,-,-⟩:=h.expr (i:=rn) (by omega)
 have eg:g2=g:=by have:=hg2.symm.trans hex;simpa using this
 rw[eg] at d0
 obtain⟨kr,hkr⟩: ∃kr,(m.ex.getD rn exNo).kind=kr:=⟨_,rfl⟩
 rw[hkr] at d0
 have HKR:=hidI hkr
 obtain⟨tl,htl⟩: ∃tl,prX m.ex ln=tl:=⟨_,rfl⟩
 obtain⟨tr,htr⟩: ∃tr,zbj (sumK (m.ex.getD rn exNo).kind) (prX m.ex rn)=tr:=⟨_,rfl⟩
 rw[htl,htr] at hsz
 have HTL:=hidI htl
 have HTR:=hidI htr
 have cL: ∀d os,Calls Tryz.prog 151 #[.agg #[.slice S.rq.a m.rq.length S.rq.cap,.slice S.im.a m.im.length S.im.cap,.slice S.ep.a m.ep.length S.ep.cap,.slice S.st.a m.st.length S.st.cap,.slice (some ⟨g,0,none⟩) m.ex.length S.ex.cap],.int .i64 (ln:Int)] (grow (redrawn ((w.alloc (.cells #[.slice S.rq.a m.rq.length S.rq.cap,.slice S.im.a m.im.length S.im.cap,.slice S.ep.a m.ep.length S.ep.cap,.slice S.st.a m.st.length S.st.cap,.slice (some ⟨g,0,none⟩) m.ex.length S.ex.cap] 54)).alloc (.cells #[.int .i64 k,.int .i64 nu,.string nm,.string fi,.int .i64 (ln:Int),.int .i64 (rn:Int)] 125)) d) os) fun e w''=>e= .returned (.string tl)∧∃p:Regrown,w''=grow (redrawn ((w.alloc (.cells #[.slice S.rq.a m.rq.length S.rq.cap,.slice S.im.a m.im.length S.im.cap,.slice S.ep.a m.ep.length S.ep.cap,.slice S.st.a m.st.length S.st.cap,.slice (some ⟨g,0,none⟩) m.ex.length S.ex.cap] 54)).alloc (.cells #[.int .i64 k,.int .i64 nu,.string nm,.string fi,.int .i64 (ln:Int),.int .i64 (rn:Int)] 125)) p.d) p.os:=fun d os=>Calls.regrown_of (by rw[←HMV.out,←HTL.out];exact HE.out ln _ (by omega) (by omega) (HA.out.later (below_regrown _ d os)) hwl)
 have cS: ∀d os,Calls Tryz.prog 210 #[.agg #[.slice S.rq.a m.rq.length S.rq.cap,.slice S.im.a m.im.length S.im.cap,.slice S.ep.a m.ep.length S.ep.cap,.slice S.st.a m.st.length S.st.cap,.slice (some ⟨g,0,none⟩) m.ex.length S.ex.cap],.int .i64 (rn:Int)] (grow (redrawn ((w.alloc (.cells #[.slice S.rq.a m.rq.length S.rq.cap,.slice S.im.a m.im.length S.im.cap,.slice S.ep.a m.ep.length S.ep.cap,.slice S.st.a m.st.length S.st.cap,.slice (some ⟨g,0,none⟩) m.ex.length S.ex.cap] 54)).alloc (.cells #[.int .i64 k,.int .i64 nu,.string nm,.string fi,.int .i64 (ln:Int),.int .i64 (rn:Int)] 125)) d) os) fun e w''=>e= .returned (.bool (sumK kr))∧∃p:Regrown,w''=grow (redrawn ((w.alloc (.cells #[.slice S.rq.a m.rq.length S.rq.cap,.slice S.im.a m.im.length S.im.cap,.slice S.ep.a m.ep.length S.ep.cap,.slice S.st.a m.st.length S.st.cap,.slice (some ⟨g,0,none⟩) m.ex.length S.ex.cap] 54)).alloc (.cells #[.int .i64 k,.int .i64 nu,.string nm,.string fi,.int .i64 (ln:Int),.int .i64 (rn:Int)] 125)) p.d) p.os:=fun d os=>Calls.regrown_of (by rw[←HMV.out,←HKR.out];exact zpf base S m rn _ (HA.out.later (below_regrown _ d os)) (by omega))
 have cR: ∀d os,Calls Tryz.prog 209 #[.agg #[.slice S.rq.a m.rq.length S.rq.cap,.slice S.im.a m.im.length S.im.cap,.slice S.ep.a m.ep.length S.ep.cap,.slice S.st.a m.st.length S.st.cap,.slice (some ⟨g,0,none⟩) m.ex.length S.ex.cap],.int .i64 (rn:Int),.bool (sumK kr)] (grow (redrawn ((w.alloc (.cells #[.slice S.rq.a m.rq.length S.rq.cap,.slice S.im.a m.im.length S.im.cap,.slice S.ep.a m.ep.length S.ep.cap,.slice S.st.a m.st.length S.st.cap,.slice (some ⟨g,0,none⟩) m.ex.length S.ex.cap] 54)).alloc (.cells #[.int .i64 k,.int .i64 nu,.string nm,.string fi,.int .i64 (ln:Int),.int .i64 (rn:Int)] 125)) d) os) fun e w''=>e= .returned (.string tr)∧∃p:Regrown,w''=grow (redrawn ((w.alloc (.cells #[.slice S.rq.a m.rq.length S.rq.cap,.slice S.im.a m.im.length S.im.cap,.slice S.ep.a m.ep.length S.ep.cap,.slice S.st.a m.st.length S.st.cap,.slice (some ⟨g,0,none⟩) m.ex.length S.ex.cap] 54)).alloc (.cells #[.int .i64 k,.int .i64 nu,.string nm,.string fi,.int .i64 (ln:Int),.int .i64 (rn:Int)] 125)) p.d) p.os:=fun d os=>Calls.regrown_of (by rw[←HMV.out,←HTR.out,HKR.out];exact zmj base S m i rn _ _ HE.out (by omega) (by omega) (HA.out.later (below_regrown _ d os)) hwr)
 have X:Hid (Six ((w.alloc (.cells #[.slice S.rq.a m.rq.length S.rq.cap,.slice S.im.a m.im.length S.im.cap,.slice S.ep.a m.ep.length S.ep.cap,.slice S.st.a m.st.length S.st.cap,.slice (some ⟨g,0,none⟩) m.ex.length S.ex.cap] 54)).alloc (.cells #[.int .i64 k,.int .i64 nu,.string nm,.string fi,.int .i64 (ln:Int),.int .i64 (rn:Int)] 125)) (w.heap.size+1) (.int .i64 k) (.int .i64 nu) (.string nm) (.string fi) (.int .i64 (ln:Int)) (.int .i64 (rn:Int))):=zu (new2 w _ _)
 have Y:=hidI (zi (zdu (o':=.cells #[.int .i64 k,.int .i64 nu,.string nm,.string fi,.int .i64 (ln:Int),.int .i64 (rn:Int)] 125) (heap_alloc_new w (.cells #[.slice S.rq.a m.rq.length S.rq.cap,.slice S.im.a m.im.length S.im.cap,.slice S.ep.a m.ep.length S.ep.cap,.slice S.st.a m.st.length S.st.cap,.slice (some ⟨g,0,none⟩) m.ex.length S.ex.cap] 54))))
 have D0:Hid (((w.alloc (.cells #[.slice S.rq.a m.rq.length S.rq.cap,.slice S.im.a m.im.length S.im.cap,.slice S.ep.a m.ep.length S.ep.cap,.slice S.st.a m.st.length S.st.cap,.slice (some ⟨g,0,none⟩) m.ex.length S.ex.cap] 54)).alloc (.cells #[.int .i64 k,.int .i64 nu,.string nm,.string fi,.int .i64 (ln:Int),.int .i64 (rn:Int)] 125)).cell? ⟨g,rn*6,none⟩=some (.int .i64 kr)):=by show _=_;rw[World.cell?_alloc_past _ _ _ (by rw[ze];omega),World.cell?_alloc_past _ _ _ hlt];exact d0
 simp only[ByteArray.size_append] at hsz
 have hp3:tPlus.size=3:=rfl
 have hs1:tl.size≤1099511627776:=by omega
 have hs2:tr.size≤1099511627776:=by omega
 have HV:Hid ((prX m.ex ln++tPlus++zbj (sumK (m.ex.getD rn exNo).kind) (prX m.ex rn))=tl++tPlus++tr):=by show _=_;rw[HTL.out,HTR.out]
 unfold modD
 rw[hex]
 clear hex h HA HE HMV HTL HTR htl htr hkr HKR hg2 he hsz hp3 d0 eg
 go_enter Tryz.func151,Tryz.ntmps151
 go_wp2_with fail
 have x0:=cell_regrown X.out.c0
 have x4:=cell_regrown X.out.c4
 have x5:=cell_regrown X.out.c5
 have y0:=cell_regrown Y.out.1
 have y1:=cell_regrown Y.out.2.1
 have y2:=cell_regrown Y.out.2.2.1
 have y3:=cell_regrown Y.out.2.2.2.1
 have y4:=cell_regrown Y.out.2.2.2.2.1
 have e0:=cell_regrown D0.out
 refine wp_region_quiet_below (by kernel_rfl) (by kernel_rfl) ?_
 repeat (go_big_quiet_step (first|with_reducible exact cL _ _|with_reducible exact cS _ _|with_reducible exact cR _ _))
 refine wpQuiet_nil ?_
 intro w1 hw'
 obtain⟨⟨dq,osq⟩,hw''⟩:=hw'
 have HB1:Hid (Below w.heap.size w w1):=by show Below _ _ _;rw[hw''];exact (zdo w _ _).trans ((below_regrown _ _ _).mono (by rw[ze,ze];omega))
 clear hw''
 go_wp2
 go_ret
 exact⟨zcd HV.out.symm,HB1.out⟩
theorem zbjg (base g:Nat) (S:Sv) (m:Md) (i ln rn:Nat) (k nu:Int) (nm fi:ByteArray) (w:World) (hex:S.ex.a=some ⟨g,0,none⟩) (h:OwnMd w base S m) (hi:i<m.ex.length) (hlt:g<w.heap.size) (c0:w.cell? ⟨g,i*6,none⟩=some (.int .i64 k)) (c1:w.cell? ⟨g,i*6+1,none⟩=some (.int .i64 nu)) (c2:w.cell? ⟨g,i*6+2,none⟩=some (.string nm)) (c3:w.cell? ⟨g,i*6+3,none⟩=some (.string fi)) (c4:w.cell? ⟨g,i*6+4,none⟩=some (.int .i64 (ln:Int))) (c5:w.cell? ⟨g,i*6+5,none⟩=some (.int .i64 (rn:Int))) (k1:(k==1)=false) (k2:(k==2)=false) (k3:(k==3)=false) (k4:(k==4)=false) (k5:(k==5)=false) (k6:(k==6)=false) (k7:(k==7)=true) (hsz:(prX m.ex ln++tMinus++zbj (sumK (m.ex.getD rn exNo).kind) (prX m.ex rn)).size≤1099511627776) (he:znf base S m i) (hl:ln<i) (hr:rn<i) (hwl:wt m.ex ln≤1099511627776) (hwr:wt m.ex rn≤1099511627776):
  Calls Tryz.prog 151 #[modD S m,.int .i64 i] w fun e w'=>e= .returned (.string (prX m.ex ln++tMinus++zbj (sumK (m.ex.getD rn exNo).kind) (prX m.ex rn)))∧Below w.heap.size w w':=by
 have hii:(i:Int)<(m.ex.length:Int):=by omega
 have HA:Hid (OwnMd ((w.alloc (.cells #[.slice S.rq.a m.rq.length S.rq.cap,.slice S.im.a m.im.length S.im.cap,.slice S.ep.a m.ep.length S.ep.cap,.slice S.st.a m.st.length S.st.cap,.slice (some ⟨g,0,none⟩) m.ex.length S.ex.cap] 54)).alloc (.cells #[.int .i64 k,.int .i64 nu,.string nm,.string fi,.int .i64 (ln:Int),.int .i64 (rn:Int)] 125)) base S m):=(h.alloc _).alloc _
 have HE:=hidI he
 have HMV:Hid (modD S m= .agg #[.slice S.rq.a m.rq.length S.rq.cap,.slice S.im.a m.im.length S.im.cap,.slice S.ep.a m.ep.length S.ep.cap,.slice S.st.a m.st.length S.st.cap,.slice (some ⟨g,0,none⟩) m.ex.length S.ex.cap]):=by show _=_;rw[modD,hex]
 have hli:(ln:Int)<(m.ex.length:Int):=by omega
 have hri:(rn:Int)<(m.ex.length:Int):=by omega
 obtain⟨g2,hg2,-,d0,-,-,-,-,-⟩:=h.expr (i:=rn) (by omega)
 have eg:g2=g:=by have:=hg2.symm.trans hex;simpa using this
 rw[eg] at d0
 obtain⟨kr,hkr⟩: ∃kr,(m.ex.getD rn exNo).kind=kr:=⟨_,rfl⟩
 rw[hkr] at d0
 have HKR:=hidI hkr
 obtain⟨tl,htl⟩: ∃tl,prX m.ex ln=tl:=⟨_,rfl⟩
 obtain⟨tr,htr⟩: ∃tr,zbj (sumK (m.ex.getD rn exNo).kind) (prX m.ex rn)=tr:=⟨_,rfl⟩
 rw[htl,htr] at hsz
 have HTL:=hidI htl
 have HTR:=hidI htr
 have cL: ∀d os,Calls Tryz.prog 151 #[.agg #[.slice S.rq.a m.rq.length S.rq.cap,.slice S.im.a m.im.length S.im.cap,.slice S.ep.a m.ep.length S.ep.cap,.slice S.st.a m.st.length S.st.cap,.slice (some ⟨g,0,none⟩) m.ex.length S.ex.cap],.int .i64 (ln:Int)] (grow (redrawn ((w.alloc (.cells #[.slice S.rq.a m.rq.length S.rq.cap,.slice S.im.a m.im.length S.im.cap,.slice S.ep.a m.ep.length S.ep.cap,.slice S.st.a m.st.length S.st.cap,.slice (some ⟨g,0,none⟩) m.ex.length S.ex.cap] 54)).alloc (.cells #[.int .i64 k,.int .i64 nu,.string nm,.string fi,.int .i64 (ln:Int),.int .i64 (rn:Int)] 125)) d) os) fun e w''=>e= .returned (.string tl)∧∃p:Regrown,w''=grow (redrawn ((w.alloc (.cells #[.slice S.rq.a m.rq.length S.rq.cap,.slice S.im.a m.im.length S.im.cap,.slice S.ep.a m.ep.length S.ep.cap,.slice S.st.a m.st.length S.st.cap,.slice (some ⟨g,0,none⟩) m.ex.length S.ex.cap] 54)).alloc (.cells #[.int .i64 k,.int .i64 nu,.string nm,.string fi,.int .i64 (ln:Int),.int .i64 (rn:Int)] 125)) p.d) p.os:=fun d os=>Calls.regrown_of (by rw[←HMV.out,←HTL.out];exact HE.out ln _ (by omega) (by omega) (HA.out.later (below_regrown _ d os)) hwl)
 have cS: ∀d os,Calls Tryz.prog 210 #[.agg #[.slice S.rq.a m.rq.length S.rq.cap,.slice S.im.a m.im.length S.im.cap,.slice S.ep.a m.ep.length S.ep.cap,.slice S.st.a m.st.length S.st.cap,.slice (some ⟨g,0,none⟩) m.ex.length S.ex.cap],.int .i64 (rn:Int)] (grow (redrawn ((w.alloc (.cells #[.slice S.rq.a m.rq.length S.rq.cap,.slice S.im.a m.im.length S.im.cap,.slice S.ep.a m.ep.length S.ep.cap,.slice S.st.a m.st.length S.st.cap,.slice (some ⟨g,0,none⟩) m.ex.length S.ex.cap] 54)).alloc (.cells #[.int .i64 k,.int .i64 nu,.string nm,.string fi,.int .i64 (ln:Int),.int .i64 (rn:Int)] 125)) d) os) fun e w''=>e= .returned (.bool (sumK kr))∧∃p:Regrown,w''=grow (redrawn ((w.alloc (.cells #[.slice S.rq.a m.rq.length S.rq.cap,.slice S.im.a m.im.length S.im.cap,.slice S.ep.a m.ep.length S.ep.cap,.slice S.st.a m.st.length S.st.cap,.slice (some ⟨g,0,none⟩) m.ex.length S.ex.cap] 54)).alloc (.cells #[.int .i64 k,.int .i64 nu,.string nm,.string fi,.int .i64 (ln:Int),.int .i64 (rn:Int)] 125)) p.d) p.os:=fun d os=>Calls.regrown_of (by rw[←HMV.out,←HKR.out];exact zpf base S m rn _ (HA.out.later (below_regrown _ d os)) (by omega))
 have cR: ∀d os,Calls Tryz.prog 209 #[.agg #[.slice S.rq.a m.rq.length S.rq.cap,.slice S.im.a m.im.length S.im.cap,.slice S.ep.a m.ep.length S.ep.cap,.slice S.st.a m.st.length S.st.cap,.slice (some ⟨g,0,none⟩) m.ex.length S.ex.cap],.int .i64 (rn:Int),.bool (sumK kr)] (grow (redrawn ((w.alloc (.cells #[.slice S.rq.a m.rq.length S.rq.cap,.slice S.im.a m.im.length S.im.cap,.slice S.ep.a m.ep.length S.ep.cap,.slice S.st.a m.st.length S.st.cap,.slice (some ⟨g,0,none⟩) m.ex.length S.ex.cap] 54)).alloc (.cells #[.int .i64 k,.int .i64 nu,.string nm,.string fi,.int .i64 (ln:Int),.int .i64 (rn:Int)] 125)) d) os) fun e w''=>e= .returned (.string tr)∧∃p:Regrown,w''=grow (redrawn ((w.alloc (.cells #[.slice S.rq.a m.rq.length S.rq.cap,.slice S.im.a m.im.length S.im.cap,.slice S.ep.a m.ep.length S.ep.cap,.slice S.st.a m.st.length S.st.cap,.slice (some ⟨g,0,none⟩) m.ex.length S.ex.cap] 54)).alloc (.cells #[.int .i64 k,.int .i64 nu,.string nm,.string fi,.int .i64 (ln:Int),.int .i64 (rn:Int)] 125)) p.d) p.os:=fun d os=>Calls.regrown_of (by rw[←HMV.out,←HTR.out,HKR.out];exact zmj base S m i rn _ _ HE.out (by omega) (by omega) (HA.out.later (below_regrown _ d os)) hwr)
 have X:Hid (Six ((w.alloc (.cells #[.slice S.rq.a m.rq.length S.rq.cap,.slice S.im.a m.im.length S.im.cap,.slice S.ep.a m.ep.length S.ep.cap,.slice S.st.a m.st.length S.st.cap,.slice (some ⟨g,0,none⟩) m.ex.length S.ex.cap] 54)).alloc (.cells #[.int .i64 k,.int .i64 nu,.string nm,.string fi,.int .i64 (ln:Int),.int .i64 (rn:Int)] 125)) (w.heap.size+1) (.int .i64 k) (.int .i64 nu) (.string nm) (.string fi) (.int .i64 (ln:Int)) (.int .i64 (rn:Int))):=zu (new2 w _ _)
 have Y:=hidI (zi (zdu (o':=.cells #[.int .i64 k,.int .i64 nu,.string nm,.string fi,.int .i64 (ln:Int),.int .i64 (rn:Int)] 125) (heap_alloc_new w (.cells #[.slice S.rq.a m.rq.length S.rq.cap,.slice S.im.a m.im.length S.im.cap,.slice S.ep.a m.ep.length S.ep.cap,.slice S.st.a m.st.length S.st.cap,.slice (some ⟨g,0,none⟩) m.ex.length S.ex.cap] 54))))
 have D0:Hid (((w.alloc (.cells #[.slice S.rq.a m.rq.length S.rq.cap,.slice S.im.a m.im.length S.im.cap,.slice S.ep.a m.ep.length S.ep.cap,.slice S.st.a m.st.length S.st.cap,.slice (some ⟨g,0,none⟩) m.ex.length S.ex.cap] 54)).alloc (.cells #[.int .i64 k,.int .i64 nu,.string nm,.string fi,.int .i64 (ln:Int),.int .i64 (rn:Int)] 125)).cell? ⟨g,rn*6,none⟩=some (.int .i64 kr)):=by show _=_;rw[World.cell?_alloc_past _ _ _ (by rw[ze];omega),World.cell?_alloc_past _ _ _ hlt];exact d0
 simp only[ByteArray.size_append] at hsz
 have hp3:tMinus.size=3:=rfl
 have hs1:tl.size≤1099511627776:=by omega
 have hs2:tr.size≤1099511627776:=by omega
 have HV:Hid ((prX m.ex ln++tMinus++zbj (sumK (m.ex.getD rn exNo).kind) (prX m.ex rn))=tl++tMinus++tr):=by show _=_;rw[HTL.out,HTR.out]
 unfold modD
 rw[hex]
 clear hex h HA HE HMV HTL HTR htl htr hkr HKR hg2 he hsz hp3 d0 eg
 go_enter Tryz.func151,Tryz.ntmps151
 go_wp2_with fail
 have x0:=cell_regrown X.out.c0
 have x4:=cell_regrown X.out.c4
 have x5:=cell_regrown X.out.c5
 have y0:=cell_regrown Y.out.1
 have y1:=cell_regrown Y.out.2.1
 have y2:=cell_regrown Y.out.2.2.1
 have y3:=cell_regrown Y.out.2.2.2.1
 have y4:=cell_regrown Y.out.2.2.2.2.1
 have e0:=cell_regrown D0.out
 refine wp_region_quiet_below (by kernel_rfl) (by kernel_rfl) ?_
 repeat (go_big_quiet_step (first|with_reducible exact cL _ _|with_reducible exact cS _ _|with_reducible exact cR _ _))
 refine wpQuiet_nil ?_
 intro w1 hw'
 obtain⟨⟨dq,osq⟩,hw''⟩:=hw'
 have HB1:Hid (Below w.heap.size w w1):=by show Below _ _ _;rw[hw''];exact (zdo w _ _).trans ((below_regrown _ _ _).mono (by rw[ze,ze];omega))
 clear hw''
 go_wp2
 go_ret
 exact⟨zcd HV.out.symm,HB1.out⟩
def toIm (e:Ep):Im:=⟨sNone,e.loc,e.name⟩
def zfu (C:Cx) (exp:Bool) (q:PS):Except Nat (PS×Ep):=bd (zn C true q) fun a=>bd (asP C exp a) fun b=>.ok (b.1,⟨0,b.2,a.2,sNone⟩)
theorem zsm (C:Cx) (exp:Bool) (q:PS) (acc:List Ep):zcx C exp q acc=bd (zfu C exp q) fun x=>
  if isT C x.1.pos 4 zen then zcx C exp (adv x.1) (acc++[x.2]) else bd (tokP C 4 zef x.1) fun q'=>.ok (q',acc++[x.2]):=by
 rw[zky,zfu,zbr]
 refine zy fun a _=>?_
 rw[zbr]
 rfl
theorem zblv {C:Cx} {q:PS} {a:PS×ByteArray} (hn:zn C true q= .ok a) (h:isT C a.1.pos 1 sAs=true):zfu C false q=bd (zn C false (adv a.1)) fun b=>.ok (b.1,⟨0,b.2,a.2,sNone⟩):=by
 rw[zfu,hn,zbe,asP,if_pos h]
theorem zbgk {C:Cx} {q:PS} {a:PS×ByteArray} (hn:zn C true q= .ok a) (h:isT C a.1.pos 1 sAs=false) (hd:(a.2.toList==[100,101,102,97,117,108,116])=true):zfu C false q= .error (here C a.1.pos):=by
 rw[zfu,hn,zbe,asP,if_neg (by rw[h];decide),if_pos (by rw[hd];rfl)]
 rfl
theorem zbdt {C:Cx} {q:PS} {a:PS×ByteArray} (hn:zn C true q= .ok a) (h:isT C a.1.pos 1 sAs=false) (hd:(a.2.toList==[100,101,102,97,117,108,116])=false):zfu C false q= .ok (a.1,⟨0,a.2,a.2,sNone⟩):=by
 rw[zfu,hn,zbe,asP,if_neg (by rw[h];decide),if_neg (by rw[hd];decide)]
 rfl
theorem zdf {w:World} {b:Nat} {t:TypeId} {v0 v1 v2:Value} (h:w.heap[b]? =some (.cells #[v0,v1,v2] t (0,0))):
  w.cell? ⟨b,0,none⟩=some v0∧w.cell? ⟨b,1,none⟩=some v1∧w.cell? ⟨b,2,none⟩=some v2∧∀i,w.frozen? ⟨b,i,none⟩=false:=by
 refine⟨?_,?_,?_,fun i=>?_⟩<;>simp[World.cell?,World.frozen?,h]
theorem put3 {w:World} {b:Nat} {v0 v1 v2 x0 x1 x2:Value} {t:TypeId} (h:w.heap[b]? =some (.cells #[v0,v1,v2] t (0,0))):
  (((w.setCell ⟨b,0,none⟩ x0).setCell ⟨b,1,none⟩ x1).setCell ⟨b,2,none⟩ x2).heap[b]? =some (.cells #[x0,x1,x2] t (0,0)):=by
 have e:=zdh (i:=2) (u:=x2) (zdh (i:=1) (u:=x1) (zdh (i:=0) (u:=x0) h))
 rw[e]
 simp
theorem zrn (C:Cx) (gt cap base gp:Nat) (S:Sv) (q:PS) (w:World) (h:IM C gt cap base gp S q w):
  Calls Tryz.prog 261 #[.pointer (some ⟨gp,0,none⟩)] w (IOut C gt cap base gp (zfu C false q) (·.1) (fun a=>imV (toIm a.2)) S w):=by
 have HH:=hidI h
 have hgp:w.heap.size≠gp:=by have:=h.lt;omega
 have hgt:w.heap.size≠gt:=by have:=(zbt h.mem.tok).1;omega
 clear h
 go_enter Tryz.func261,Tryz.ntmps261
 go_wp2_with fail
 refine (zfe C gt cap base gp S q _ (HH.out.alloc _)).mono ?_
 cases hn1:zn C true q with
 |error p=>
  rintro e w1 ⟨rfl,hb⟩
  have HB:Hid (Below base w w1):=(HH.out.back ((IS.refl _ _ _).alloc _)).trans hb
  have HX:Hid (zfu C false q= .error p):=by show _=_;rw[zfu,hn1];rfl
  unfold Pan
  go_wp2
  refine⟨rfl,?_⟩
  rw[HX.out]
  exact⟨rfl,HB.out⟩
 |ok a=>
  rintro e w1 ⟨rfl,S1,m,s⟩
  have HM1:=hidI m
  have HT1:=hidI s
  clear m s
  cases hi:isT C a.1.pos 1 sAs with
  |true=>
   have HY:=hidI (zblv hn1 hi)
   go_wp2_with fail
   refine (zm C gt cap base gp S1 a.1 1 sAs _ HM1.out (by decide)).mono ?_
   rintro e w2 ⟨rfl,m,s⟩
   rw[hi] at m ⊢
   have HM2:=hidI m
   have HT2:Hid (IS gp S (w.alloc (.cells #[.string sNone,.string sNone,.string sNone] 119)) S1 w2):=HT1.out.trans s
   clear m s
   go_wp2_with fail
   refine (zdv C gt cap base gp S1 (adv a.1) _ HM2.out).mono ?_
   cases hn3:zn C false (adv a.1) with
   |error p=>
    rintro e w3 ⟨rfl,hb⟩
    have HB:Hid (Below base w w3):=(HH.out.back HT2.out.from).trans hb
    have HX:Hid (zfu C false q= .error p):=bdE HY.out hn3
    unfold Pan
    go_wp2
    refine⟨rfl,?_⟩
    rw[HX.out]
    exact⟨rfl,HB.out⟩
   |ok c=>
    rintro e w3 ⟨rfl,S3,m,s⟩
    have HM3:=hidI m
    have HT3:Hid (IS gp S (w.alloc (.cells #[.string sNone,.string sNone,.string sNone] 119)) S3 w3):=HT2.out.trans s
    clear m s
    have HX:=hidI (bdO HY.out hn3)
    have HG:Hid (w3.heap[w.heap.size]? =some (.cells #[.string sNone,.string sNone,.string sNone] 119 (0,0))):=IS.kept HH.out HT3.out rfl
    have HF:Hid (¬S3.has w.heap.size):=IS.free HH.out HT3.out
    obtain⟨b0,b1,b2,bf⟩:=zdf HG.out
    go_wp2
    refine bodyPost_ret (results_cell_row rfl _ _ w.heap.size 119 _ (0,0) _ rfl (put3 HG.out) Tryz.underlying119 rfl (by kernel_rfl)) rfl ?_
    rw[HX.out]
    exact⟨rfl,S3,((HM3.out.set hgp hgt HF.out _ _).set hgp hgt HF.out _ _).set hgp hgt HF.out _ _,((HT3.out.from.new (Nat.le_refl _) _ _).new (Nat.le_refl _) _ _).new (Nat.le_refl _) _ _⟩
  |false=>
   cases hd:(a.2.toList==[100,101,102,97,117,108,116]) with
   |true=>
    have HY:=hidI (zbgk hn1 hi hd)
    go_wp2_with fail
    refine (zm C gt cap base gp S1 a.1 1 sAs _ HM1.out (by decide)).mono ?_
    rintro e w2 ⟨rfl,m,s⟩
    rw[hi] at m ⊢
    have HM2:=hidI m
    have HT2:Hid (IS gp S (w.alloc (.cells #[.string sNone,.string sNone,.string sNone] 119)) S1 w2):=HT1.out.trans s
    clear m s
    go_wp2_with fail
    refine (zhx C gt cap base gp S1 a.1 _ HM2.out).mono ?_
    rintro e w3 ⟨rfl,hb⟩
    have HB:Hid (Below base w w3):=(HH.out.back HT2.out.from).trans (hb.mono HM2.out.mem.base)
    unfold Pan
    go_wp2
    refine⟨rfl,?_⟩
    rw[HY.out]
    exact⟨rfl,HB.out⟩
   |false=>
    have HX:=hidI (zbdt hn1 hi hd)
    go_wp2_with fail
    refine (zm C gt cap base gp S1 a.1 1 sAs _ HM1.out (by decide)).mono ?_
    rintro e w2 ⟨rfl,m,s⟩
    rw[hi] at m ⊢
    have HM2:=hidI m
    have HT2:Hid (IS gp S (w.alloc (.cells #[.string sNone,.string sNone,.string sNone] 119)) S1 w2):=HT1.out.trans s
    clear m s
    have HG:Hid (w2.heap[w.heap.size]? =some (.cells #[.string sNone,.string sNone,.string sNone] 119 (0,0))):=IS.kept HH.out HT2.out rfl
    have HF:Hid (¬S1.has w.heap.size):=IS.free HH.out HT2.out
    obtain⟨b0,b1,b2,bf⟩:=zdf HG.out
    go_wp2
    refine bodyPost_ret (results_cell_row rfl _ _ w.heap.size 119 _ (0,0) _ rfl (put3 HG.out) Tryz.underlying119 rfl (by kernel_rfl)) rfl ?_
    rw[HX.out]
    exact⟨rfl,S1,((HM2.out.set hgp hgt HF.out _ _).set hgp hgt HF.out _ _).set hgp hgt HF.out _ _,((HT2.out.from.new (Nat.le_refl _) _ _).new (Nat.le_refl _) _ _).new (Nat.le_refl _) _ _⟩
end Go.Proofs.YtmnemfookpjhiaaGreat
