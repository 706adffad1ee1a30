/-
  What impl's isSameMod answers: the walk.
  How often expressions are used,counted in a row of numbers. No program is spoken of.
  What l5Two,l5Sum,l5Side and l5Expr of the specification answer: the walks.
  What importedName and importList of impl's parser answer: the walks.
-/
import Derived.Laws.StructEq
import Derived.Test.YthfeoomfiafldaaGreatCdTwoModToSameSpec
namespace Go.Proofs.YthfeoomfiafldaaGreat
set_option maxRecDepth 100000
set_option maxHeartbeats 6400000
open Go.RowKit Go.PlainAid Go.Sort
theorem ziB (x y:Im) (w:World):Sem.run Tryz.prog (binOp .neq 75 (.agg #[.string x.spec,.string x.first,.string x.loc]) (.agg #[.string y.spec,.string y.first,.string y.loc])) w= .ok (.bool (!zdi x y)) w:=by
 have L:=Tryz.underlying9
 have J:=Tryz.isAgg9
 have M:=Tryz.sizeOf9
 have H:=Tryz.underlying3
 have I:=Tryz.isAgg3
 have K:=Tryz.sizeOf3
 have j:Tryz.prog.underlying 75=some (.struct (Tryz.prog.fieldsOf 75)):=by kernel_rfl
 have z:Tryz.prog.stoodInHeld 75=false:=by kernel_rfl
 rw[run_neq_struct,show (10000:Nat)=9999+1 from rfl,run_equalIn_agg w 9999 75 _ _ j z]
 simp only[Program.fieldsOf,Tryz.underlying75]
 go_simp
 by_cases E:x.spec.toList=y.spec.toList<;>by_cases D:x.first.toList=y.first.toList<;>by_cases o:x.loc.toList=y.loc.toList<;>simp[zdi,E,D,o]
theorem ziC (j:BinOp) (a b:Operand) (x y:Im) (w:World):Sem.run Tryz.prog (eqGuard j 75 a b (.agg #[.string x.spec,.string x.first,.string x.loc]) (.agg #[.string y.spec,.string y.first,.string y.loc])) w= .ok () w:=run_eqGuard_agg w j 75 a b _ _ (by kernel_rfl)
theorem ziD (x y:Ep) (w:World):Sem.run Tryz.prog (binOp .neq 77 (.agg #[.int .i64 x.kind,.string x.name,.string x.loc,.string x.spec]) (.agg #[.int .i64 y.kind,.string y.name,.string y.loc,.string y.spec])) w= .ok (.bool (!zdj x y)) w:=by
 have M:=Tryz.underlying9
 have K:=Tryz.isAgg9
 have N:=Tryz.sizeOf9
 have I:=Tryz.underlying3
 have J:=Tryz.isAgg3
 have L:=Tryz.sizeOf3
 have o:Tryz.prog.underlying 77=some (.struct (Tryz.prog.fieldsOf 77)):=by kernel_rfl
 have D:Tryz.prog.stoodInHeld 77=false:=by kernel_rfl
 rw[run_neq_struct,show (10000:Nat)=9999+1 from rfl,run_equalIn_agg w 9999 77 _ _ o D]
 simp only[Program.fieldsOf,Tryz.underlying77]
 go_simp
 by_cases H:x.kind=y.kind<;>by_cases E:x.name.toList=y.name.toList<;>by_cases z:x.loc.toList=y.loc.toList<;>by_cases j:x.spec.toList=y.spec.toList<;>simp[zdj,H,E,z,j]
theorem ziE (j:BinOp) (a b:Operand) (x y:Ep) (w:World):Sem.run Tryz.prog (eqGuard j 77 a b (.agg #[.int .i64 x.kind,.string x.name,.string x.loc,.string x.spec]) (.agg #[.int .i64 y.kind,.string y.name,.string y.loc,.string y.spec])) w= .ok () w:=run_eqGuard_agg w j 77 a b _ _ (by kernel_rfl)
theorem ziF (x y:Sm) (w:World):Sem.run Tryz.prog (binOp .neq 79 (.agg #[.int .i64 x.kind,.string x.name,.int .i64 x.expr]) (.agg #[.int .i64 y.kind,.string y.name,.int .i64 y.expr])) w= .ok (.bool (!zdk x y)) w:=by
 have L:=Tryz.underlying9
 have J:=Tryz.isAgg9
 have M:=Tryz.sizeOf9
 have H:=Tryz.underlying3
 have I:=Tryz.isAgg3
 have K:=Tryz.sizeOf3
 have j:Tryz.prog.underlying 79=some (.struct (Tryz.prog.fieldsOf 79)):=by kernel_rfl
 have z:Tryz.prog.stoodInHeld 79=false:=by kernel_rfl
 rw[run_neq_struct,show (10000:Nat)=9999+1 from rfl,run_equalIn_agg w 9999 79 _ _ j z]
 simp only[Program.fieldsOf,Tryz.underlying79]
 go_simp
 by_cases E:x.kind=y.kind<;>by_cases D:x.name.toList=y.name.toList<;>by_cases o:x.expr=y.expr<;>simp[zdk,E,D,o]
theorem ziG (j:BinOp) (a b:Operand) (x y:Sm) (w:World):Sem.run Tryz.prog (eqGuard j 79 a b (.agg #[.int .i64 x.kind,.string x.name,.int .i64 x.expr]) (.agg #[.int .i64 y.kind,.string y.name,.int .i64 y.expr])) w= .ok () w:=run_eqGuard_agg w j 79 a b _ _ (by kernel_rfl)
theorem ziH (x y:Ex) (w:World):Sem.run Tryz.prog (binOp .neq 81 (.agg #[.int .i64 x.kind,.int .i64 x.num,.string x.name,.string x.field,.int .i64 x.l,.int .i64 x.r]) (.agg #[.int .i64 y.kind,.int .i64 y.num,.string y.name,.string y.field,.int .i64 y.l,.int .i64 y.r])) w= .ok (.bool (!zdl x y)) w:=by
 have O:=Tryz.underlying9
 have M:=Tryz.isAgg9
 have Q:=Tryz.sizeOf9
 have K:=Tryz.underlying3
 have L:=Tryz.isAgg3
 have N:=Tryz.sizeOf3
 have z:Tryz.prog.underlying 81=some (.struct (Tryz.prog.fieldsOf 81)):=by kernel_rfl
 have E:Tryz.prog.stoodInHeld 81=false:=by kernel_rfl
 rw[run_neq_struct,show (10000:Nat)=9999+1 from rfl,run_equalIn_agg w 9999 81 _ _ z E]
 simp only[Program.fieldsOf,Tryz.underlying81]
 go_simp
 by_cases J:x.kind=y.kind<;>by_cases H:x.num=y.num<;>by_cases D:x.name.toList=y.name.toList<;>by_cases o:x.field.toList=y.field.toList<;>by_cases I:x.l=y.l<;>by_cases j:x.r=y.r<;>simp[zdl,J,H,D,o,I,j]
theorem ziI (j:BinOp) (a b:Operand) (x y:Ex) (w:World):Sem.run Tryz.prog (eqGuard j 81 a b (.agg #[.int .i64 x.kind,.int .i64 x.num,.string x.name,.string x.field,.int .i64 x.l,.int .i64 x.r]) (.agg #[.int .i64 y.kind,.int .i64 y.num,.string y.name,.string y.field,.int .i64 y.l,.int .i64 y.r])) w= .ok () w:=run_eqGuard_agg w j 81 a b _ _ (by kernel_rfl)
theorem zrG (Z b2:Nat) (X Y:Sv) (z N:Md) (w:World) (h1:OwnMd w Z X z) (h2:OwnMd w b2 Y N) (hf:zhd z):
  Calls Tryz.prog 30 #[zbM X z,zbM Y N] w fun e w'=>zc9 (z=N) e∧Below w.heap.size w w':=by
 have H1:=zc h1
 have H2:=zc h2
 have HF:=zc hf
 clear h1 h2 hf
 unfold zbM
 go_enter Tryz.func30,Tryz.ntmps30
 go_upto_region 1 with fail
 refine zaA (R:=TwoM w Z b2 X Y z N) (zlf w Z b2 X Y z N H1.out H2.out) ?_
 clear H1 H2
 intro w0 h
 have T0:=zc h
 clear h
 obtain⟨Q,V,J,H,E,K⟩:=zaa T0.out.1
 obtain⟨L,U,M,I,D,O⟩:=zaa T0.out.2.1
 go_wp2_with fail
 refine (zrb Z b2 X.rq Y.rq z.rq N.rq w0 (by rw[←zhc];exact T0.out.2.2.1.rq) (by rw[←zhc];exact T0.out.2.2.2.1.rq) HF.out.1).mono ?_
 rintro e w1 ⟨⟨r,rfl,j⟩,o⟩
 have T1:=zc (T0.out.later o)
 have R0:=zc j
 clear o j Q V J H E K L U M I D O
 obtain⟨Q,V,J,H,E,K⟩:=zaa T1.out.1
 obtain⟨L,U,M,I,D,O⟩:=zaa T1.out.2.1
 cases r with
 |false=>
  go_wp2
  go_ret
  exact⟨⟨false,rfl,⟨fun k=>(by cases k),fun k=>(by have:=R0.out.2 (by rw[k]);cases this)⟩⟩,T1.out.2.2.2.2⟩
 |true=>
  go_wp2_with fail
  refine (zrf ziB ziC Z b2 X.im Y.im z.im N.im w1 T1.out.2.2.1.im T1.out.2.2.2.1.im HF.out.2.1).mono ?_
  rintro e w2 ⟨⟨r,rfl,j⟩,o⟩
  have T2:=zc (T1.out.later o)
  have R1:=zc j
  clear o j Q V J H E K L U M I D O
  obtain⟨Q,V,J,H,E,K⟩:=zaa T2.out.1
  obtain⟨L,U,M,I,D,O⟩:=zaa T2.out.2.1
  cases r with
  |false=>
   go_wp2
   go_ret
   exact⟨⟨false,rfl,⟨fun k=>(by cases k),fun k=>(by have:=R1.out.2 (by rw[k]);cases this)⟩⟩,T2.out.2.2.2.2⟩
  |true=>
   go_wp2_with fail
   refine (zrj ziD ziE Z b2 X.ep Y.ep z.ep N.ep w2 T2.out.2.2.1.ep T2.out.2.2.2.1.ep HF.out.2.2.1).mono ?_
   rintro e w3 ⟨⟨r,rfl,j⟩,o⟩
   have T3:=zc (T2.out.later o)
   have R2:=zc j
   clear o j Q V J H E K L U M I D O
   obtain⟨Q,V,J,H,E,K⟩:=zaa T3.out.1
   obtain⟨L,U,M,I,D,O⟩:=zaa T3.out.2.1
   cases r with
   |false=>
    go_wp2
    go_ret
    exact⟨⟨false,rfl,⟨fun k=>(by cases k),fun k=>(by have:=R2.out.2 (by rw[k]);cases this)⟩⟩,T3.out.2.2.2.2⟩
   |true=>
    go_wp2_with fail
    refine (zrn ziF ziG Z b2 X.st Y.st z.st N.st w3 T3.out.2.2.1.st T3.out.2.2.2.1.st HF.out.2.2.2.1).mono ?_
    rintro e w4 ⟨⟨r,rfl,j⟩,o⟩
    have T4:=zc (T3.out.later o)
    have R3:=zc j
    clear o j Q V J H E K L U M I D O
    obtain⟨Q,V,J,H,E,K⟩:=zaa T4.out.1
    obtain⟨L,U,M,I,D,O⟩:=zaa T4.out.2.1
    cases r with
    |false=>
     go_wp2
     go_ret
     exact⟨⟨false,rfl,⟨fun k=>(by cases k),fun k=>(by have:=R3.out.2 (by rw[k]);cases this)⟩⟩,T4.out.2.2.2.2⟩
    |true=>
     go_wp2_with fail
     refine (zrr ziH ziI Z b2 X.ex Y.ex z.ex N.ex w4 T4.out.2.2.1.ex T4.out.2.2.2.1.ex HF.out.2.2.2.2).mono ?_
     rintro e w5 ⟨⟨r,rfl,j⟩,o⟩
     have T5:=zc (T4.out.later o)
     have R4:=zc j
     clear o j Q V J H E K L U M I D O
     obtain⟨Q,V,J,H,E,K⟩:=zaa T5.out.1
     obtain⟨L,U,M,I,D,O⟩:=zaa T5.out.2.1
     cases r with
     |false=>
      go_wp2
      go_ret
      exact⟨⟨false,rfl,⟨fun k=>(by cases k),fun k=>(by have:=R4.out.2 (by rw[k]);cases this)⟩⟩,T5.out.2.2.2.2⟩
     |true=>
      go_wp2
      go_ret
      exact⟨⟨true,rfl,⟨fun _=>zrs (R0.out.1 (by simp)) (R1.out.1 (by simp)) (R2.out.1 (by simp)) (R3.out.1 (by simp)) (R4.out.1 (by simp)),fun _=>rfl⟩⟩,T5.out.2.2.2.2⟩
theorem zlq (a b:List Ex) (k:Int):zZ (a++b) k=zZ a k+zZ b k:=by simp[zZ]
theorem zlr (a b:List Sm) (k:Int):za6 (a++b) k=za6 a k+za6 b k:=by simp[za6]
theorem zls {ex:List Ex} {i:Nat} (j:i<ex.length) (k:Int):zZ (ex.take (i+1)) k=zZ (ex.take i) k+u1 ex[i] k:=by
 rw[List.take_succ_eq_append_getElem j,zlq]
 simp[zZ,u1]
theorem zrH {j:List Sm} {i:Nat} (o:i<j.length) (k:Int):za6 (j.take (i+1)) k=za6 (j.take i) k+if j[i].expr==k then 1 else 0:=by
 rw[List.take_succ_eq_append_getElem o,zlr]
 simp[za6]
theorem zlt (ex:List Ex) (k:Int):zZ ex k≤2*ex.length:=by
 induction ex with
 |nil=>simp[zZ]
 |cons x l j=>
  rw[show x::l=[x]++l from rfl,zlq]
  have:zZ [x] k≤2:=by
   simp only[zZ,List.map_cons,List.map_nil,List.sum_cons,List.sum_nil]
   split
   ·split<;>split<;>omega
   ·omega
  simp only[List.length_append,List.length_cons,List.length_nil]
  omega
theorem zrI (j:List Sm) (k:Int):za6 j k≤j.length:=by
 induction j with
 |nil=>simp[za6]
 |cons x l o=>
  rw[show x::l=[x]++l from rfl,zlr]
  have:za6 [x] k≤1:=by
   simp only[za6,List.map_cons,List.map_nil,List.sum_cons,List.sum_nil]
   split<;>omega
  simp only[List.length_append,List.length_cons,List.length_nil]
  omega
def zbu (n:Nat) (f:Nat→Nat):List Value:=(List.range n).map fun k=>.int .i64 (f k:Int)
theorem ziJ (n:Nat) (f:Nat→Nat):(zbu n f).length=n:=by simp[zbu]
theorem zhf {n:Nat} (f:Nat→Nat) {k:Nat} (j:k<n):(zbu n f)[k]? =some (.int .i64 (f k:Int)):=by
 unfold zbu
 rw[List.getElem?_map,List.getElem?_range j]
 rfl
theorem zrJ {n l:Nat} (f g:Nat→Nat) (v:Nat) (o:g l=v) (h: ∀k,k≠l→g k=f k):(zbu n f).set l (.int .i64 (v:Int))=zbu n g:=by
 apply List.ext_getElem?
 intro k
 by_cases j:k<n
 ·by_cases e:k=l
  ·subst e
   rw[List.getElem?_set_self (by rw[ziJ];exact j),zhf g j,o]
  ·rw[List.getElem?_set_ne (fun x=>e x.symm),zhf f j,zhf g j,h k e]
 ·rw[List.getElem?_eq_none (by rw[List.length_set,ziJ];omega),List.getElem?_eq_none (by rw[ziJ];omega)]
theorem zlu {n:Nat} {f g:Nat→Nat} (h: ∀k,k<n→f k=g k):zbu n f=zbu n g:=by
 unfold zbu
 refine List.map_congr_left fun k j=>?_
 rw[h k (List.mem_range.1 j)]
def zbO (f:Nat→Nat) (l:Nat):Nat→Nat:=fun k=>f k+if k=l then 1 else 0
theorem zrK (f:Nat→Nat) (l:Nat):zbO f l l=f l+1:=by simp[zbO]
theorem zrL (f:Nat→Nat) {l k:Nat} (h:k≠l):zbO f l k=f k:=by simp[zbO,h]
theorem zrM {ex:List Ex} {i:Nat} (D:i<ex.length) (z:zO ex[i].kind=true) (H:0≤ex[i].l) (E:0≤ex[i].r) (k:Nat):zbO (zbO (fun k=>zZ (ex.take i) (k:Int)) ex[i].l.toNat) ex[i].r.toNat k=zZ (ex.take (i+1)) (k:Int):=by
 rw[zls D,u1,if_pos z]
 unfold zbO
 have j:(ex[i].l==(k:Int))=decide (k=ex[i].l.toNat):=by
  rw[Bool.eq_iff_iff,beq_iff_eq,decide_eq_true_iff];omega
 have o:(ex[i].r==(k:Int))=decide (k=ex[i].r.toNat):=by
  rw[Bool.eq_iff_iff,beq_iff_eq,decide_eq_true_iff];omega
 rw[j,o]
 simp only[decide_eq_true_eq]
 omega
theorem zrN {ex:List Ex} {i:Nat} (j:i<ex.length) (o:zO ex[i].kind=false) (k:Nat):zZ (ex.take i) (k:Int)=zZ (ex.take (i+1)) (k:Int):=by
 rw[zls j,u1,if_neg (by rw[o];decide),Nat.add_zero]
theorem zrO {j:List Sm} {ex:List Ex} {i:Nat} (z:i<j.length) (D:0≤j[i].expr) (k:Nat):zbO (fun k=>zZ ex (k:Int)+za6 (j.take i) (k:Int)) j[i].expr.toNat k=zZ ex (k:Int)+za6 (j.take (i+1)) (k:Int):=by
 rw[zrH z]
 unfold zbO
 have o:(j[i].expr==(k:Int))=decide (k=j[i].expr.toNat):=by
  rw[Bool.eq_iff_iff,beq_iff_eq,decide_eq_true_iff];omega
 rw[o]
 simp only[decide_eq_true_eq]
 omega
def AheadTo (ex:List Ex) (n:Nat):Prop:=∀(i:Nat) (x:Ex),i<n→ex[i]? =some x→zO x.kind=true→0≤x.l∧x.l<(i:Int)∧0≤x.r∧x.r<(i:Int)
theorem AheadTo.all {ex:List Ex} (h:AheadTo ex ex.length):zdx ex:=fun i x j=>h i x (List.getElem?_eq_some_iff.1 j).1 j
theorem AheadTo.next {ex:List Ex} {i:Nat} (h:AheadTo ex i) (H:i<ex.length) (D:zO ex[i].kind=true→0≤ex[i].l∧ex[i].l<(i:Int)∧0≤ex[i].r∧ex[i].r<(i:Int)):AheadTo ex (i+1):=by
 intro j x E z o
 by_cases e:j=i
 ·subst e
  obtain⟨_,rfl⟩:=List.getElem?_eq_some_iff.1 z
  exact D o
 ·exact h j x (by omega) z o
theorem AheadTo.not {ex:List Ex} {i:Nat} (o:i<ex.length) (z:zO ex[i].kind=true) (j: ¬(0≤ex[i].l∧ex[i].l<(i:Int)∧0≤ex[i].r∧ex[i].r<(i:Int))): ¬zdx ex:=fun h=>j (h i _ (List.getElem?_eq_getElem o) z)
def zbl (e:Ep):Im:=⟨sNone,e.loc,e.name⟩
def zbG (C:Cx) (exp:Bool) (q:PS):Except Nat (PS×Ep):=bd (zk C true q) fun a=>bd (asP C exp a) fun b=>.ok (b.1,⟨0,b.2,a.2,sNone⟩)
theorem zlv (C:Cx) (j:Bool) (q:PS) (acc:List Ep):zay C j q acc=bd (zbG C j q) fun x=>
  if isT C x.1.pos 4 zbv then zay C j (adv x.1) (acc++[x.2]) else bd (zd C 4 zaJ x.1) fun q'=>.ok (q',acc++[x.2]):=by
 rw[zeM,zbG,zR]
 refine zaf fun a _=>?_
 rw[zR]
 rfl
theorem zrP {C:Cx} {q:PS} {a:PS×ByteArray} (j:zk C true q= .ok a) (h:isT C a.1.pos 1 sAs=true):zbG C false q=bd (zk C false (adv a.1)) fun b=>.ok (b.1,⟨0,b.2,a.2,sNone⟩):=by
 rw[zbG,j,zh,asP,if_pos h]
theorem zrQ {C:Cx} {q:PS} {a:PS×ByteArray} (j:zk C true q= .ok a) (h:isT C a.1.pos 1 sAs=false) (hd:(a.2.toList==[100,101,102,97,117,108,116])=true):zbG C false q= .error (zu C a.1.pos):=by
 rw[zbG,j,zh,asP,if_neg (by rw[h];decide),if_pos (by rw[hd];rfl)]
 rfl
theorem zrR {C:Cx} {q:PS} {a:PS×ByteArray} (j:zk C true q= .ok a) (h:isT C a.1.pos 1 sAs=false) (hd:(a.2.toList==[100,101,102,97,117,108,116])=false):zbG C false q= .ok (a.1,⟨0,a.2,a.2,sNone⟩):=by
 rw[zbG,j,zh,asP,if_neg (by rw[h];decide),if_neg (by rw[hd];decide)]
 rfl
theorem zdm {w:World} {b:Nat} {t:TypeId} {z j o:Value} (h:w.heap[b]? =some (.cells #[z,j,o] t (0,0))):
  w.cell? ⟨b,0,none⟩=some z∧w.cell? ⟨b,1,none⟩=some j∧w.cell? ⟨b,2,none⟩=some o∧∀i,w.frozen? ⟨b,i,none⟩=false:=by
 refine⟨?_,?_,?_,fun i=>?_⟩<;>simp[World.cell?,World.frozen?,h]
theorem zlw {w:World} {b:Nat} {H E D z o j:Value} {t:TypeId} (h:w.heap[b]? =some (.cells #[H,E,D] t (0,0))):
  (((w.setCell ⟨b,0,none⟩ z).setCell ⟨b,1,none⟩ o).setCell ⟨b,2,none⟩ j).heap[b]? =some (.cells #[z,o,j] t (0,0)):=by
 have e:=zbf (i:=2) (u:=j) (zbf (i:=1) (u:=o) (zbf (i:=0) (u:=z) h))
 rw[e]
 simp
theorem zrS (C:Cx) (K o j D:Nat) (S:Sv) (q:PS) (w:World) (h:IM C K o j D S q w):
  Calls Tryz.prog 138 #[.pointer (some ⟨D,0,none⟩)] w (zT C K o j D (zbG C false q) (·.1) (fun a=>imV (zbl a.2)) S w):=by
 have M:=zc h
 have H:w.heap.size≠D:=by have:=h.lt;omega
 have E:w.heap.size≠K:=by have:=(zan h.mem.tok).1;omega
 clear h
 go_enter Tryz.func138,Tryz.ntmps138
 go_wp2_with fail
 refine (zfB C K o j D S q _ (M.out.alloc _)).mono ?_
 cases L:zk C true q with
 |error p=>
  rintro e w1 ⟨rfl,hb⟩
  have HB:Hid (Below j w w1):=(M.out.back ((IS.refl _ _ _).alloc _)).trans hb
  have U:Hid (zbG C false q= .error p):=by show _=_;rw[zbG,L];rfl
  unfold Pan
  go_wp2
  refine⟨rfl,?_⟩
  rw[U.out]
  exact⟨rfl,HB.out⟩
 |ok a=>
  rintro e w1 ⟨rfl,J,m,s⟩
  have V:=zc m
  have N:=zc s
  clear m s
  cases Y:isT C a.1.pos 1 sAs with
  |true=>
   have HY:=zc (zrP L Y)
   go_wp2_with fail
   refine (zP C K o j D J a.1 1 sAs _ V.out (by decide)).mono ?_
   rintro e Z ⟨rfl,m,s⟩
   rw[Y] at m ⊢
   have I:=zc m
   have z:Hid (IS D S (w.alloc (.cells #[.string sNone,.string sNone,.string sNone] 75)) J Z):=N.out.trans s
   clear m s
   go_wp2_with fail
   refine (zd1 C K o j D J (adv a.1) _ I.out).mono ?_
   cases aa:zk C false (adv a.1) with
   |error p=>
    rintro e X ⟨rfl,hb⟩
    have HB:Hid (Below j w X):=(M.out.back z.out.from).trans hb
    have U:Hid (zbG C false q= .error p):=bdE HY.out aa
    unfold Pan
    go_wp2
    refine⟨rfl,?_⟩
    rw[U.out]
    exact⟨rfl,HB.out⟩
   |ok c=>
    rintro e X ⟨rfl,S3,m,s⟩
    have ab:=zc m
    have Q:Hid (IS D S (w.alloc (.cells #[.string sNone,.string sNone,.string sNone] 75)) S3 X):=z.out.trans s
    clear m s
    have U:=zc (bdO HY.out aa)
    have HG:Hid (X.heap[w.heap.size]? =some (.cells #[.string sNone,.string sNone,.string sNone] 75 (0,0))):=IS.kept M.out Q.out rfl
    have O:Hid (¬S3.has w.heap.size):=IS.free M.out Q.out
    obtain⟨b0,b1,b2,bf⟩:=zdm HG.out
    go_wp2
    refine bodyPost_ret (results_cell_row rfl _ _ w.heap.size 75 _ (0,0) _ rfl (zlw HG.out) Tryz.underlying75 rfl (by kernel_rfl)) rfl ?_
    rw[U.out]
    exact⟨rfl,S3,((ab.out.set H E O.out _ _).set H E O.out _ _).set H E O.out _ _,((Q.out.from.new (Nat.le_refl _) _ _).new (Nat.le_refl _) _ _).new (Nat.le_refl _) _ _⟩
  |false=>
   cases hd:(a.2.toList==[100,101,102,97,117,108,116]) with
   |true=>
    have HY:=zc (zrQ L Y hd)
    go_wp2_with fail
    refine (zP C K o j D J a.1 1 sAs _ V.out (by decide)).mono ?_
    rintro e Z ⟨rfl,m,s⟩
    rw[Y] at m ⊢
    have I:=zc m
    have z:Hid (IS D S (w.alloc (.cells #[.string sNone,.string sNone,.string sNone] 75)) J Z):=N.out.trans s
    clear m s
    go_wp2_with fail
    refine (zeT C K o j D J a.1 _ I.out).mono ?_
    rintro e X ⟨rfl,hb⟩
    have HB:Hid (Below j w X):=(M.out.back z.out.from).trans (hb.mono I.out.mem.base)
    unfold Pan
    go_wp2
    refine⟨rfl,?_⟩
    rw[HY.out]
    exact⟨rfl,HB.out⟩
   |false=>
    have U:=zc (zrR L Y hd)
    go_wp2_with fail
    refine (zP C K o j D J a.1 1 sAs _ V.out (by decide)).mono ?_
    rintro e Z ⟨rfl,m,s⟩
    rw[Y] at m ⊢
    have I:=zc m
    have z:Hid (IS D S (w.alloc (.cells #[.string sNone,.string sNone,.string sNone] 75)) J Z):=N.out.trans s
    clear m s
    have HG:Hid (Z.heap[w.heap.size]? =some (.cells #[.string sNone,.string sNone,.string sNone] 75 (0,0))):=IS.kept M.out z.out rfl
    have O:Hid (¬J.has w.heap.size):=IS.free M.out z.out
    obtain⟨b0,b1,b2,bf⟩:=zdm HG.out
    go_wp2
    refine bodyPost_ret (results_cell_row rfl _ _ w.heap.size 75 _ (0,0) _ rfl (zlw HG.out) Tryz.underlying75 rfl (by kernel_rfl)) rfl ?_
    rw[U.out]
    exact⟨rfl,J,((I.out.set H E O.out _ _).set H E O.out _ _).set H E O.out _ _,((z.out.from.new (Nat.le_refl _) _ _).new (Nat.le_refl _) _ _).new (Nat.le_refl _) _ _⟩
end Go.Proofs.YthfeoomfiafldaaGreat
