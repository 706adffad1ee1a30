/-
  What impl's isSameMod answers: the walk.
  How often expressions are used,counted in a row of numbers. No program is spoken of.
  What l5Two,l5Sum,l5Side and l5Expr of the specification answer: the walks.
  What importedName and importList of impl's parser answer: the walks.
-/
import Derived.Laws.StructEq
import Derived.Test.YtlnohpdiiileeaaGreatClTwoModToSameSpec
import Derived.Test.YtlnohpdiiileeaaGreatClImplParseJToMdMem
import Derived.Test.YtlnohpdiiileeaaGreatClDrawBaseToTokMem
import Derived.Test.YtlnohpdiiileeaaGreatClSpecParseA
namespace Go.Proofs.YtlnohpdiiileeaaGreat
set_option maxRecDepth 100000
set_option maxHeartbeats 6400000
open Go.RowKit Go.PlainAid Go.Sort
theorem zbjm (x y:Im) (w:World):Sem.run Tryz.prog (binOp .neq 141 (.agg #[.string x.spec,.string x.first,.string x.loc]) (.agg #[.string y.spec,.string y.first,.string y.loc])) w= .ok (.bool (!eqIm x y)) w:=by
 have uS:=Tryz.underlying9
 have aS:=Tryz.isAgg9
 have zS:=Tryz.sizeOf9
 have uI:=Tryz.underlying3
 have aI:=Tryz.isAgg3
 have zI:=Tryz.sizeOf3
 have hS:Tryz.prog.underlying 141=some (.struct (Tryz.prog.fieldsOf 141)):=by kernel_rfl
 have hp:Tryz.prog.stoodInHeld 141=false:=by kernel_rfl
 rw[run_neq_struct,show (10000:Nat)=9999+1 from rfl,run_equalIn_agg w 9999 141 _ _ hS hp]
 simp only[Program.fieldsOf,Tryz.underlying141]
 go_simp
 by_cases h0:x.spec.toList=y.spec.toList<;>by_cases h1:x.first.toList=y.first.toList<;>by_cases h2:x.loc.toList=y.loc.toList<;>simp[eqIm,h0,h1,h2]
theorem zbjn (op:BinOp) (a b:Operand) (x y:Im) (w:World):Sem.run Tryz.prog (eqGuard op 141 a b (.agg #[.string x.spec,.string x.first,.string x.loc]) (.agg #[.string y.spec,.string y.first,.string y.loc])) w= .ok () w:=run_eqGuard_agg w op 141 a b _ _ (by kernel_rfl)
theorem zbjo (x y:Ep) (w:World):Sem.run Tryz.prog (binOp .neq 143 (.agg #[.int .i64 x.kind,.string x.name,.string x.loc,.string x.spec]) (.agg #[.int .i64 y.kind,.string y.name,.string y.loc,.string y.spec])) w= .ok (.bool (!eqEp x y)) w:=by
 have uS:=Tryz.underlying9
 have aS:=Tryz.isAgg9
 have zS:=Tryz.sizeOf9
 have uI:=Tryz.underlying3
 have aI:=Tryz.isAgg3
 have zI:=Tryz.sizeOf3
 have hS:Tryz.prog.underlying 143=some (.struct (Tryz.prog.fieldsOf 143)):=by kernel_rfl
 have hp:Tryz.prog.stoodInHeld 143=false:=by kernel_rfl
 rw[run_neq_struct,show (10000:Nat)=9999+1 from rfl,run_equalIn_agg w 9999 143 _ _ hS hp]
 simp only[Program.fieldsOf,Tryz.underlying143]
 go_simp
 by_cases h0:x.kind=y.kind<;>by_cases h1:x.name.toList=y.name.toList<;>by_cases h2:x.loc.toList=y.loc.toList<;>by_cases h3:x.spec.toList=y.spec.toList<;>simp[eqEp,h0,h1,h2,h3]
theorem zbjp (op:BinOp) (a b:Operand) (x y:Ep) (w:World):Sem.run Tryz.prog (eqGuard op 143 a b (.agg #[.int .i64 x.kind,.string x.name,.string x.loc,.string x.spec]) (.agg #[.int .i64 y.kind,.string y.name,.string y.loc,.string y.spec])) w= .ok () w:=run_eqGuard_agg w op 143 a b _ _ (by kernel_rfl)
theorem zbjq (x y:Sm) (w:World):Sem.run Tryz.prog (binOp .neq 61 (.agg #[.int .i64 x.kind,.string x.name,.int .i64 x.expr]) (.agg #[.int .i64 y.kind,.string y.name,.int .i64 y.expr])) w= .ok (.bool (!eqSm x y)) w:=by
 have uS:=Tryz.underlying9
 have aS:=Tryz.isAgg9
 have zS:=Tryz.sizeOf9
 have uI:=Tryz.underlying3
 have aI:=Tryz.isAgg3
 have zI:=Tryz.sizeOf3
 have hS:Tryz.prog.underlying 61=some (.struct (Tryz.prog.fieldsOf 61)):=by kernel_rfl
 have hp:Tryz.prog.stoodInHeld 61=false:=by kernel_rfl
 rw[run_neq_struct,show (10000:Nat)=9999+1 from rfl,run_equalIn_agg w 9999 61 _ _ hS hp]
 simp only[Program.fieldsOf,Tryz.underlying61]
 go_simp
 by_cases h0:x.kind=y.kind<;>by_cases h1:x.name.toList=y.name.toList<;>by_cases h2:x.expr=y.expr<;>simp[eqSm,h0,h1,h2]
theorem zbjr (op:BinOp) (a b:Operand) (x y:Sm) (w:World):Sem.run Tryz.prog (eqGuard op 61 a b (.agg #[.int .i64 x.kind,.string x.name,.int .i64 x.expr]) (.agg #[.int .i64 y.kind,.string y.name,.int .i64 y.expr])) w= .ok () w:=run_eqGuard_agg w op 61 a b _ _ (by kernel_rfl)
theorem zbjs (x y:Ex) (w:World):Sem.run Tryz.prog (binOp .neq 145 (.agg #[.int .i64 x.kind,.int .i64 x.num,.string x.name,.string x.field,.int .i64 x.l,.int .i64 x.r]) (.agg #[.int .i64 y.kind,.int .i64 y.num,.string y.name,.string y.field,.int .i64 y.l,.int .i64 y.r])) w= .ok (.bool (!eqEx x y)) w:=by
 have uS:=Tryz.underlying9
 have aS:=Tryz.isAgg9
 have zS:=Tryz.sizeOf9
 have uI:=Tryz.underlying3
 have aI:=Tryz.isAgg3
 have zI:=Tryz.sizeOf3
 have hS:Tryz.prog.underlying 145=some (.struct (Tryz.prog.fieldsOf 145)):=by kernel_rfl
 have hp:Tryz.prog.stoodInHeld 145=false:=by kernel_rfl
 rw[run_neq_struct,show (10000:Nat)=9999+1 from rfl,run_equalIn_agg w 9999 145 _ _ hS hp]
 simp only[Program.fieldsOf,Tryz.underlying145]
 go_simp
 by_cases h0:x.kind=y.kind<;>by_cases h1:x.num=y.num<;>by_cases h2:x.name.toList=y.name.toList<;>by_cases h3:x.field.toList=y.field.toList<;>by_cases h4:x.l=y.l<;>by_cases h5:x.r=y.r<;>simp[eqEx,h0,h1,h2,h3,h4,h5]
theorem zbjt (op:BinOp) (a b:Operand) (x y:Ex) (w:World):Sem.run Tryz.prog (eqGuard op 145 a b (.agg #[.int .i64 x.kind,.int .i64 x.num,.string x.name,.string x.field,.int .i64 x.l,.int .i64 x.r]) (.agg #[.int .i64 y.kind,.int .i64 y.num,.string y.name,.string y.field,.int .i64 y.l,.int .i64 y.r])) w= .ok () w:=run_eqGuard_agg w op 145 a b _ _ (by kernel_rfl)
theorem zzp (b1 b2:Nat) (S1 S2:Sv) (m1 m2:Md) (w:World) (h1:OwnMd w b1 S1 m1) (h2:OwnMd w b2 S2 m2) (hf:zbaj m1):
  Calls Tryz.prog 97 #[modD S1 m1,modD S2 m2] w fun e w'=>zgy (m1=m2) e∧Below w.heap.size w w':=by
 have H1:=hidI h1
 have H2:=hidI h2
 have HF:=hidI hf
 clear h1 h2 hf
 unfold modD
 go_enter Tryz.func97,Tryz.ntmps97
 go_upto_region 1 with fail
 refine zbk (R:=TwoM w b1 b2 S1 S2 m1 m2) (zyn w b1 b2 S1 S2 m1 m2 H1.out H2.out) ?_
 clear H1 H2
 intro w0 h
 have T0:=hidI h
 clear h
 obtain⟨c0,c1,c2,c3,c4,cf⟩:=zbh T0.out.1
 obtain⟨d0,d1,d2,d3,d4,df⟩:=zbh T0.out.2.1
 go_wp2_with fail
 refine (zbcn b1 b2 S1.rq S2.rq m1.rq m2.rq w0 (by rw[←zqr];exact T0.out.2.2.1.rq) (by rw[←zqr];exact T0.out.2.2.2.1.rq) HF.out.1).mono ?_
 rintro e w1 ⟨⟨r,rfl,hr⟩,hb⟩
 have T1:=hidI (T0.out.later hb)
 have R0:=hidI hr
 clear hb hr c0 c1 c2 c3 c4 cf d0 d1 d2 d3 d4 df
 obtain⟨c0,c1,c2,c3,c4,cf⟩:=zbh T1.out.1
 obtain⟨d0,d1,d2,d3,d4,df⟩:=zbh T1.out.2.1
 cases r with
 |false=>
  go_wp2
  go_ret
  exact⟨⟨false,rfl,⟨fun k=>(by cases k),fun k=>(by have:=R0.out.2 (by rw[k]);cases this)⟩⟩,T1.out.2.2.2.2⟩
 |true=>
  go_wp2_with fail
  refine (zbfd zbjm zbjn b1 b2 S1.im S2.im m1.im m2.im w1 T1.out.2.2.1.im T1.out.2.2.2.1.im HF.out.2.1).mono ?_
  rintro e w2 ⟨⟨r,rfl,hr⟩,hb⟩
  have T2:=hidI (T1.out.later hb)
  have R1:=hidI hr
  clear hb hr c0 c1 c2 c3 c4 cf d0 d1 d2 d3 d4 df
  obtain⟨c0,c1,c2,c3,c4,cf⟩:=zbh T2.out.1
  obtain⟨d0,d1,d2,d3,d4,df⟩:=zbh T2.out.2.1
  cases r with
  |false=>
   go_wp2
   go_ret
   exact⟨⟨false,rfl,⟨fun k=>(by cases k),fun k=>(by have:=R1.out.2 (by rw[k]);cases this)⟩⟩,T2.out.2.2.2.2⟩
  |true=>
   go_wp2_with fail
   refine (zbfg zbjo zbjp b1 b2 S1.ep S2.ep m1.ep m2.ep w2 T2.out.2.2.1.ep T2.out.2.2.2.1.ep HF.out.2.2.1).mono ?_
   rintro e w3 ⟨⟨r,rfl,hr⟩,hb⟩
   have T3:=hidI (T2.out.later hb)
   have R2:=hidI hr
   clear hb hr c0 c1 c2 c3 c4 cf d0 d1 d2 d3 d4 df
   obtain⟨c0,c1,c2,c3,c4,cf⟩:=zbh T3.out.1
   obtain⟨d0,d1,d2,d3,d4,df⟩:=zbh T3.out.2.1
   cases r with
   |false=>
    go_wp2
    go_ret
    exact⟨⟨false,rfl,⟨fun k=>(by cases k),fun k=>(by have:=R2.out.2 (by rw[k]);cases this)⟩⟩,T3.out.2.2.2.2⟩
   |true=>
    go_wp2_with fail
    refine (zbfj zbjq zbjr b1 b2 S1.st S2.st m1.st m2.st w3 T3.out.2.2.1.st T3.out.2.2.2.1.st HF.out.2.2.2.1).mono ?_
    rintro e w4 ⟨⟨r,rfl,hr⟩,hb⟩
    have T4:=hidI (T3.out.later hb)
    have R3:=hidI hr
    clear hb hr c0 c1 c2 c3 c4 cf d0 d1 d2 d3 d4 df
    obtain⟨c0,c1,c2,c3,c4,cf⟩:=zbh T4.out.1
    obtain⟨d0,d1,d2,d3,d4,df⟩:=zbh T4.out.2.1
    cases r with
    |false=>
     go_wp2
     go_ret
     exact⟨⟨false,rfl,⟨fun k=>(by cases k),fun k=>(by have:=R3.out.2 (by rw[k]);cases this)⟩⟩,T4.out.2.2.2.2⟩
    |true=>
     go_wp2_with fail
     refine (zbfm zbjs zbjt b1 b2 S1.ex S2.ex m1.ex m2.ex w4 T4.out.2.2.1.ex T4.out.2.2.2.1.ex HF.out.2.2.2.2).mono ?_
     rintro e w5 ⟨⟨r,rfl,hr⟩,hb⟩
     have T5:=hidI (T4.out.later hb)
     have R4:=hidI hr
     clear hb hr c0 c1 c2 c3 c4 cf d0 d1 d2 d3 d4 df
     obtain⟨c0,c1,c2,c3,c4,cf⟩:=zbh T5.out.1
     obtain⟨d0,d1,d2,d3,d4,df⟩:=zbh T5.out.2.1
     cases r with
     |false=>
      go_wp2
      go_ret
      exact⟨⟨false,rfl,⟨fun k=>(by cases k),fun k=>(by have:=R4.out.2 (by rw[k]);cases this)⟩⟩,T5.out.2.2.2.2⟩
     |true=>
      go_wp2
      go_ret
      exact⟨⟨true,rfl,⟨fun _=>zbxs (R0.out.1 (by simp)) (R1.out.1 (by simp)) (R2.out.1 (by simp)) (R3.out.1 (by simp)) (R4.out.1 (by simp)),fun _=>rfl⟩⟩,T5.out.2.2.2.2⟩
theorem zyq (a b:List Ex) (k:Int):zca (a++b) k=zca a k+zca b k:=by simp[zca]
theorem zyr (a b:List Sm) (k:Int):zdn (a++b) k=zdn a k+zdn b k:=by simp[zdn]
theorem zwb {ex:List Ex} {i:Nat} (hi:i<ex.length) (k:Int):zca (ex.take (i+1)) k=zca (ex.take i) k+u1 ex[i] k:=by
 rw[List.take_succ_eq_append_getElem hi,zyq]
 simp[zca,u1]
theorem zbju {st:List Sm} {i:Nat} (hi:i<st.length) (k:Int):zdn (st.take (i+1)) k=zdn (st.take i) k+if st[i].expr==k then 1 else 0:=by
 rw[List.take_succ_eq_append_getElem hi,zyr]
 simp[zdn]
theorem zbcy (ex:List Ex) (k:Int):zca ex k≤2*ex.length:=by
 induction ex with
 |nil=>simp[zca]
 |cons x l ih=>
  rw[show x::l=[x]++l from rfl,zyq]
  have:zca [x] k≤2:=by
   simp only[zca,List.map_cons,List.map_nil,List.sum_cons,List.sum_nil]
   split
   ·split<;>split<;>omega
   ·omega
  simp only[List.length_append,List.length_cons,List.length_nil]
  omega
theorem zbqr (st:List Sm) (k:Int):zdn st k≤st.length:=by
 induction st with
 |nil=>simp[zdn]
 |cons x l ih=>
  rw[show x::l=[x]++l from rfl,zyr]
  have:zdn [x] k≤1:=by
   simp only[zdn,List.map_cons,List.map_nil,List.sum_cons,List.sum_nil]
   split<;>omega
  simp only[List.length_append,List.length_cons,List.length_nil]
  omega
/-- A row of n numbers. -/
def rowN (n:Nat) (f:Nat→Nat):List Value:=(List.range n).map fun k=>.int .i64 (f k:Int)
theorem zuu (n:Nat) (f:Nat→Nat):(rowN n f).length=n:=by simp[rowN]
theorem ztc {n:Nat} (f:Nat→Nat) {k:Nat} (hk:k<n):(rowN n f)[k]? =some (.int .i64 (f k:Int)):=by
 unfold rowN
 rw[List.getElem?_map,List.getElem?_range hk]
 rfl
theorem zbqs {n l:Nat} (f g:Nat→Nat) (v:Nat) (hv:g l=v) (h: ∀k,k≠l→g k=f k):(rowN n f).set l (.int .i64 (v:Int))=rowN n g:=by
 apply List.ext_getElem?
 intro k
 by_cases hk:k<n
 ·by_cases e:k=l
  ·subst e
   rw[List.getElem?_set_self (by rw[zuu];exact hk),ztc g hk,hv]
  ·rw[List.getElem?_set_ne (fun x=>e x.symm),ztc f hk,ztc g hk,h k e]
 ·rw[List.getElem?_eq_none (by rw[List.length_set,zuu];omega),List.getElem?_eq_none (by rw[zuu];omega)]
theorem zwc {n:Nat} {f g:Nat→Nat} (h: ∀k,k<n→f k=g k):rowN n f=rowN n g:=by
 unfold rowN
 refine List.map_congr_left fun k hk=>?_
 rw[h k (List.mem_range.1 hk)]
/-- One use more of l. -/
def plus (f:Nat→Nat) (l:Nat):Nat→Nat:=fun k=>f k+if k=l then 1 else 0
theorem zbtq (f:Nat→Nat) (l:Nat):plus f l l=f l+1:=by simp[plus]
theorem zbtr (f:Nat→Nat) {l k:Nat} (h:k≠l):plus f l k=f k:=by simp[plus,h]
theorem zbqt {ex:List Ex} {i:Nat} (hi:i<ex.length) (ht:twoK ex[i].kind=true) (h0:0≤ex[i].l) (h1:0≤ex[i].r) (k:Nat):plus (plus (fun k=>zca (ex.take i) (k:Int)) ex[i].l.toNat) ex[i].r.toNat k=zca (ex.take (i+1)) (k:Int):=by
 rw[zwb hi,u1,if_pos ht]
 unfold plus
 have e1:(ex[i].l==(k:Int))=decide (k=ex[i].l.toNat):=by
  rw[Bool.eq_iff_iff,beq_iff_eq,decide_eq_true_iff];omega
 have e2:(ex[i].r==(k:Int))=decide (k=ex[i].r.toNat):=by
  rw[Bool.eq_iff_iff,beq_iff_eq,decide_eq_true_iff];omega
 rw[e1,e2]
 simp only[decide_eq_true_eq]
 omega
theorem zbqu {ex:List Ex} {i:Nat} (hi:i<ex.length) (ht:twoK ex[i].kind=false) (k:Nat):zca (ex.take i) (k:Int)=zca (ex.take (i+1)) (k:Int):=by
 rw[zwb hi,u1,if_neg (by rw[ht];decide),Nat.add_zero]
theorem zbqv {st:List Sm} {ex:List Ex} {i:Nat} (hi:i<st.length) (h0:0≤st[i].expr) (k:Nat):plus (fun k=>zca ex (k:Int)+zdn (st.take i) (k:Int)) st[i].expr.toNat k=zca ex (k:Int)+zdn (st.take (i+1)) (k:Int):=by
 rw[zbju hi]
 unfold plus
 have e1:(st[i].expr==(k:Int))=decide (k=st[i].expr.toNat):=by
  rw[Bool.eq_iff_iff,beq_iff_eq,decide_eq_true_iff];omega
 rw[e1]
 simp only[decide_eq_true_eq]
 omega
/-- Sides ahead, as far as one has looked. -/
def AheadTo (ex:List Ex) (n:Nat):Prop:=∀(i:Nat) (x:Ex),i<n→ex[i]? =some x→twoK x.kind=true→0≤x.l∧x.l<(i:Int)∧0≤x.r∧x.r<(i:Int)
theorem AheadTo.all {ex:List Ex} (h:AheadTo ex ex.length):zmb ex:=fun i x hx=>h i x (List.getElem?_eq_some_iff.1 hx).1 hx
theorem AheadTo.next {ex:List Ex} {i:Nat} (h:AheadTo ex i) (hi:i<ex.length) (hx:twoK ex[i].kind=true→0≤ex[i].l∧ex[i].l<(i:Int)∧0≤ex[i].r∧ex[i].r<(i:Int)):AheadTo ex (i+1):=by
 intro j x hj he ht
 by_cases e:j=i
 ·subst e
  obtain⟨_,rfl⟩:=List.getElem?_eq_some_iff.1 he
  exact hx ht
 ·exact h j x (by omega) he ht
theorem AheadTo.not {ex:List Ex} {i:Nat} (hi:i<ex.length) (ht:twoK ex[i].kind=true) (hx: ¬(0≤ex[i].l∧ex[i].l<(i:Int)∧0≤ex[i].r∧ex[i].r<(i:Int))): ¬zmb ex:=fun h=>hx (h i _ (List.getElem?_eq_getElem hi) ht)
/-- What l5Expr must answer of all numbers below n. -/
def zbyb (base:Nat) (S:Sv) (m:Md) (n:Nat):Prop:=∀(i:Nat) (w:World),i<n→i<m.ex.length→OwnMd w base S m→wt m.ex i≤1099511627776→
 Calls Tryz.prog 272 #[modD S m,.int .i64 i] w fun e w'=>e= .returned (.string (prX m.ex i))∧Below w.heap.size w w'
def toIm (e:Ep):Im:=⟨sNone,e.loc,e.name⟩
def zgo (C:Cx) (exp:Bool) (q:PS):Except Nat (PS×Ep):=bd (zk C true q) fun a=>bd (asP C exp a) fun b=>.ok (b.1,⟨0,b.2,a.2,sNone⟩)
theorem zwd (C:Cx) (exp:Bool) (q:PS) (acc:List Ep):zdd C exp q acc=bd (zgo C exp q) fun x=>
  if isT C x.1.pos 4 zet then zdd C exp (adv x.1) (acc++[x.2]) else bd (tokP C 4 zcz x.1) fun q'=>.ok (q',acc++[x.2]):=by
 rw[zja,zgo,zbt]
 refine zbd fun a _=>?_
 rw[zbt]
 rfl
theorem zbts {C:Cx} {q:PS} {a:PS×ByteArray} (hn:zk C true q= .ok a) (h:isT C a.1.pos 1 sAs=true):zgo C false q=bd (zk C false (adv a.1)) fun b=>.ok (b.1,⟨0,b.2,a.2,sNone⟩):=by
 rw[zgo,hn,zg,asP,if_pos h]
theorem zbmz {C:Cx} {q:PS} {a:PS×ByteArray} (hn:zk C true q= .ok a) (h:isT C a.1.pos 1 sAs=false) (hd:(a.2.toList==[100,101,102,97,117,108,116])=true):zgo C false q= .error (here C a.1.pos):=by
 rw[zgo,hn,zg,asP,if_neg (by rw[h];decide),if_pos (by rw[hd];rfl)]
 rfl
theorem zbjv {C:Cx} {q:PS} {a:PS×ByteArray} (hn:zk C true q= .ok a) (h:isT C a.1.pos 1 sAs=false) (hd:(a.2.toList==[100,101,102,97,117,108,116])=false):zgo C false q= .ok (a.1,⟨0,a.2,a.2,sNone⟩):=by
 rw[zgo,hn,zg,asP,if_neg (by rw[h];decide),if_neg (by rw[hd];decide)]
 rfl
theorem zhg {w:World} {b:Nat} {t:TypeId} {v0 v1 v2:Value} (h:w.heap[b]? =some (.cells #[v0,v1,v2] t (0,0))):
  w.cell? ⟨b,0,none⟩=some v0∧w.cell? ⟨b,1,none⟩=some v1∧w.cell? ⟨b,2,none⟩=some v2∧∀i,w.frozen? ⟨b,i,none⟩=false:=by
 refine⟨?_,?_,?_,fun i=>?_⟩<;>simp[World.cell?,World.frozen?,h]
theorem put3 {w:World} {b:Nat} {v0 v1 v2 x0 x1 x2:Value} {t:TypeId} (h:w.heap[b]? =some (.cells #[v0,v1,v2] t (0,0))):
  (((w.setCell ⟨b,0,none⟩ x0).setCell ⟨b,1,none⟩ x1).setCell ⟨b,2,none⟩ x2).heap[b]? =some (.cells #[x0,x1,x2] t (0,0)):=by
 have e:=zev (i:=2) (u:=x2) (zev (i:=1) (u:=x1) (zev (i:=0) (u:=x0) h))
 rw[e]
 simp
theorem zuv (C:Cx) (gt cap base gp:Nat) (S:Sv) (q:PS) (w:World) (h:IM C gt cap base gp S q w):
  Calls Tryz.prog 312 #[.pointer (some ⟨gp,0,none⟩)] w (IOut C gt cap base gp (zgo C false q) (·.1) (fun a=>imV (toIm a.2)) S w):=by
 have HH:=hidI h
 have hgp:w.heap.size≠gp:=by have:=h.lt;omega
 have hgt:w.heap.size≠gt:=by have:=(zbr h.mem.tok).1;omega
 clear h
 go_enter Tryz.func312,Tryz.ntmps312
 go_wp2_with fail
 refine (zfv C gt cap base gp S q _ (HH.out.alloc _)).mono ?_
 cases hn1:zk C true q with
 |error p=>
  rintro e w1 ⟨rfl,hb⟩
  have HB:Hid (Below base w w1):=(HH.out.back ((IS.refl _ _ _).alloc _)).trans hb
  have HX:Hid (zgo C false q= .error p):=by show _=_;rw[zgo,hn1];rfl
  unfold Pan
  go_wp2
  refine⟨rfl,?_⟩
  rw[HX.out]
  exact⟨rfl,HB.out⟩
 |ok a=>
  rintro e w1 ⟨rfl,S1,m,s⟩
  have HM1:=hidI m
  have HT1:=hidI s
  clear m s
  cases hi:isT C a.1.pos 1 sAs with
  |true=>
   have HY:=hidI (zbts hn1 hi)
   go_wp2_with fail
   refine (zm C gt cap base gp S1 a.1 1 sAs _ HM1.out (by decide)).mono ?_
   rintro e w2 ⟨rfl,m,s⟩
   rw[hi] at m ⊢
   have HM2:=hidI m
   have HT2:Hid (IS gp S (w.alloc (.cells #[.string sNone,.string sNone,.string sNone] 141)) S1 w2):=HT1.out.trans s
   clear m s
   go_wp2_with fail
   refine (zeo C gt cap base gp S1 (adv a.1) _ HM2.out).mono ?_
   cases hn3:zk C false (adv a.1) with
   |error p=>
    rintro e w3 ⟨rfl,hb⟩
    have HB:Hid (Below base w w3):=(HH.out.back HT2.out.from).trans hb
    have HX:Hid (zgo C false q= .error p):=bdE HY.out hn3
    unfold Pan
    go_wp2
    refine⟨rfl,?_⟩
    rw[HX.out]
    exact⟨rfl,HB.out⟩
   |ok c=>
    rintro e w3 ⟨rfl,S3,m,s⟩
    have HM3:=hidI m
    have HT3:Hid (IS gp S (w.alloc (.cells #[.string sNone,.string sNone,.string sNone] 141)) S3 w3):=HT2.out.trans s
    clear m s
    have HX:=hidI (bdO HY.out hn3)
    have HG:Hid (w3.heap[w.heap.size]? =some (.cells #[.string sNone,.string sNone,.string sNone] 141 (0,0))):=IS.kept HH.out HT3.out rfl
    have HF:Hid (¬S3.has w.heap.size):=IS.free HH.out HT3.out
    obtain⟨b0,b1,b2,bf⟩:=zhg HG.out
    go_wp2
    refine bodyPost_ret (results_cell_row rfl _ _ w.heap.size 141 _ (0,0) _ rfl (put3 HG.out) Tryz.underlying141 rfl (by kernel_rfl)) rfl ?_
    rw[HX.out]
    exact⟨rfl,S3,((HM3.out.set hgp hgt HF.out _ _).set hgp hgt HF.out _ _).set hgp hgt HF.out _ _,((HT3.out.from.new (Nat.le_refl _) _ _).new (Nat.le_refl _) _ _).new (Nat.le_refl _) _ _⟩
  |false=>
   cases hd:(a.2.toList==[100,101,102,97,117,108,116]) with
   |true=>
    have HY:=hidI (zbmz hn1 hi hd)
    go_wp2_with fail
    refine (zm C gt cap base gp S1 a.1 1 sAs _ HM1.out (by decide)).mono ?_
    rintro e w2 ⟨rfl,m,s⟩
    rw[hi] at m ⊢
    have HM2:=hidI m
    have HT2:Hid (IS gp S (w.alloc (.cells #[.string sNone,.string sNone,.string sNone] 141)) S1 w2):=HT1.out.trans s
    clear m s
    go_wp2_with fail
    refine (zjd C gt cap base gp S1 a.1 _ HM2.out).mono ?_
    rintro e w3 ⟨rfl,hb⟩
    have HB:Hid (Below base w w3):=(HH.out.back HT2.out.from).trans (hb.mono HM2.out.mem.base)
    unfold Pan
    go_wp2
    refine⟨rfl,?_⟩
    rw[HY.out]
    exact⟨rfl,HB.out⟩
   |false=>
    have HX:=hidI (zbjv hn1 hi hd)
    go_wp2_with fail
    refine (zm C gt cap base gp S1 a.1 1 sAs _ HM1.out (by decide)).mono ?_
    rintro e w2 ⟨rfl,m,s⟩
    rw[hi] at m ⊢
    have HM2:=hidI m
    have HT2:Hid (IS gp S (w.alloc (.cells #[.string sNone,.string sNone,.string sNone] 141)) S1 w2):=HT1.out.trans s
    clear m s
    have HG:Hid (w2.heap[w.heap.size]? =some (.cells #[.string sNone,.string sNone,.string sNone] 141 (0,0))):=IS.kept HH.out HT2.out rfl
    have HF:Hid (¬S1.has w.heap.size):=IS.free HH.out HT2.out
    obtain⟨b0,b1,b2,bf⟩:=zhg HG.out
    go_wp2
    refine bodyPost_ret (results_cell_row rfl _ _ w.heap.size 141 _ (0,0) _ rfl (put3 HG.out) Tryz.underlying141 rfl (by kernel_rfl)) rfl ?_
    rw[HX.out]
    exact⟨rfl,S1,((HM2.out.set hgp hgt HF.out _ _).set hgp hgt HF.out _ _).set hgp hgt HF.out _ _,((HT2.out.from.new (Nat.le_refl _) _ _).new (Nat.le_refl _) _ _).new (Nat.le_refl _) _ _⟩
end Go.Proofs.YtlnohpdiiileeaaGreat
