/-
  What impl's isSameMod answers: the walk.
  How often expressions are used,counted in a row of numbers. No program is spoken of.
  What l5Two,l5Sum,l5Side and l5Expr of the specification answer: the walks.
  What importedName and importList of impl's parser answer: the walks.
-/
import Derived.Laws.StructEq
import Derived.Test.YticdggnnpjachaaGreatCbSameSpec
namespace Go.Proofs.YticdggnnpjachaaGreat
set_option maxRecDepth 100000
set_option maxHeartbeats 12800000
open Go.RowKit Go.PlainAid Go.Sort
theorem zgP (x y:Im) (w:World):Sem.run Tryz.prog (binOp .neq 100 (.agg #[.string x.spec,.string x.first,.string x.loc]) (.agg #[.string y.spec,.string y.first,.string y.loc])) w= .ok (.bool (!zco x y)) w:=by
 have A:=Tryz.underlying9
 have E:=Tryz.isAgg9
 have J:=Tryz.sizeOf9
 have H:=Tryz.underlying3
 have I:=Tryz.isAgg3
 have D:=Tryz.sizeOf3
 have z:Tryz.prog.underlying 100=some (.struct (Tryz.prog.fieldsOf 100)):=by kernel_rfl
 have q:Tryz.prog.stoodInHeld 100=false:=by kernel_rfl
 rw[run_neq_struct,show (10000:Nat)=9999+1 from rfl,run_equalIn_agg w 9999 100 _ _ z q]
 simp only[Program.fieldsOf,Tryz.underlying100]
 go_simp
 by_cases j:x.spec.toList=y.spec.toList<;>by_cases o:x.first.toList=y.first.toList<;>by_cases n:x.loc.toList=y.loc.toList<;>simp[zco,j,o,n]
theorem zgQ (j:BinOp) (a b:Operand) (x y:Im) (w:World):Sem.run Tryz.prog (eqGuard j 100 a b (.agg #[.string x.spec,.string x.first,.string x.loc]) (.agg #[.string y.spec,.string y.first,.string y.loc])) w= .ok () w:=run_eqGuard_agg w j 100 a b _ _ (by kernel_rfl)
theorem zgR (x y:Ep) (w:World):Sem.run Tryz.prog (binOp .neq 102 (.agg #[.int .i64 x.kind,.string x.name,.string x.loc,.string x.spec]) (.agg #[.int .i64 y.kind,.string y.name,.string y.loc,.string y.spec])) w= .ok (.bool (!zcp x y)) w:=by
 have D:=Tryz.underlying9
 have H:=Tryz.isAgg9
 have K:=Tryz.sizeOf9
 have I:=Tryz.underlying3
 have J:=Tryz.isAgg3
 have E:=Tryz.sizeOf3
 have A:Tryz.prog.underlying 102=some (.struct (Tryz.prog.fieldsOf 102)):=by kernel_rfl
 have z:Tryz.prog.stoodInHeld 102=false:=by kernel_rfl
 rw[run_neq_struct,show (10000:Nat)=9999+1 from rfl,run_equalIn_agg w 9999 102 _ _ A z]
 simp only[Program.fieldsOf,Tryz.underlying102]
 go_simp
 by_cases j:x.kind=y.kind<;>by_cases q:x.name.toList=y.name.toList<;>by_cases o:x.loc.toList=y.loc.toList<;>by_cases n:x.spec.toList=y.spec.toList<;>simp[zcp,j,q,o,n]
theorem zgS (j:BinOp) (a b:Operand) (x y:Ep) (w:World):Sem.run Tryz.prog (eqGuard j 102 a b (.agg #[.int .i64 x.kind,.string x.name,.string x.loc,.string x.spec]) (.agg #[.int .i64 y.kind,.string y.name,.string y.loc,.string y.spec])) w= .ok () w:=run_eqGuard_agg w j 102 a b _ _ (by kernel_rfl)
theorem zgT (x y:Sm) (w:World):Sem.run Tryz.prog (binOp .neq 106 (.agg #[.int .i64 x.kind,.string x.name,.int .i64 x.expr]) (.agg #[.int .i64 y.kind,.string y.name,.int .i64 y.expr])) w= .ok (.bool (!zcq x y)) w:=by
 have A:=Tryz.underlying9
 have E:=Tryz.isAgg9
 have J:=Tryz.sizeOf9
 have H:=Tryz.underlying3
 have I:=Tryz.isAgg3
 have D:=Tryz.sizeOf3
 have z:Tryz.prog.underlying 106=some (.struct (Tryz.prog.fieldsOf 106)):=by kernel_rfl
 have q:Tryz.prog.stoodInHeld 106=false:=by kernel_rfl
 rw[run_neq_struct,show (10000:Nat)=9999+1 from rfl,run_equalIn_agg w 9999 106 _ _ z q]
 simp only[Program.fieldsOf,Tryz.underlying106]
 go_simp
 by_cases j:x.kind=y.kind<;>by_cases o:x.name.toList=y.name.toList<;>by_cases n:x.expr=y.expr<;>simp[zcq,j,o,n]
theorem zgU (j:BinOp) (a b:Operand) (x y:Sm) (w:World):Sem.run Tryz.prog (eqGuard j 106 a b (.agg #[.int .i64 x.kind,.string x.name,.int .i64 x.expr]) (.agg #[.int .i64 y.kind,.string y.name,.int .i64 y.expr])) w= .ok () w:=run_eqGuard_agg w j 106 a b _ _ (by kernel_rfl)
theorem zgV (x y:Ex) (w:World):Sem.run Tryz.prog (binOp .neq 108 (.agg #[.int .i64 x.kind,.int .i64 x.num,.string x.name,.string x.field,.int .i64 x.l,.int .i64 x.r]) (.agg #[.int .i64 y.kind,.int .i64 y.num,.string y.name,.string y.field,.int .i64 y.l,.int .i64 y.r])) w= .ok (.bool (!zcr x y)) w:=by
 have H:=Tryz.underlying9
 have J:=Tryz.isAgg9
 have M:=Tryz.sizeOf9
 have K:=Tryz.underlying3
 have L:=Tryz.isAgg3
 have I:=Tryz.sizeOf3
 have D:Tryz.prog.underlying 108=some (.struct (Tryz.prog.fieldsOf 108)):=by kernel_rfl
 have A:Tryz.prog.stoodInHeld 108=false:=by kernel_rfl
 rw[run_neq_struct,show (10000:Nat)=9999+1 from rfl,run_equalIn_agg w 9999 108 _ _ D A]
 simp only[Program.fieldsOf,Tryz.underlying108]
 go_simp
 by_cases j:x.kind=y.kind<;>by_cases z:x.num=y.num<;>by_cases o:x.name.toList=y.name.toList<;>by_cases n:x.field.toList=y.field.toList<;>by_cases q:x.l=y.l<;>by_cases E:x.r=y.r<;>simp[zcr,j,z,o,n,q,E]
theorem zgW (j:BinOp) (a b:Operand) (x y:Ex) (w:World):Sem.run Tryz.prog (eqGuard j 108 a b (.agg #[.int .i64 x.kind,.int .i64 x.num,.string x.name,.string x.field,.int .i64 x.l,.int .i64 x.r]) (.agg #[.int .i64 y.kind,.int .i64 y.num,.string y.name,.string y.field,.int .i64 y.l,.int .i64 y.r])) w= .ok () w:=run_eqGuard_agg w j 108 a b _ _ (by kernel_rfl)
theorem zoH (V b2:Nat) (Q U:Sv) (o H:Md) (w:World) (h1:OwnMd w V Q o) (h2:OwnMd w b2 U H) (hf:zem o):
  Calls Tryz.prog 51 #[zp Q o,zp U H] w fun e w'=>zbZ (o=H) e∧Below w.heap.size w w':=by
 have H1:=zc h1
 have H2:=zc h2
 have HF:=zc hf
 clear h1 h2 hf
 unfold zp
 go_enter Tryz.func51,Tryz.ntmps51
 go_upto_region 1 with fail
 refine zau (R:=TwoM w V b2 Q U o H) (zgM w V b2 Q U o H H1.out H2.out) ?_
 clear H1 H2
 intro w0 h
 have T0:=zc h
 clear h
 obtain⟨I,D,q,L,E,z⟩:=zl T0.out.1
 obtain⟨K,N,A,O,J,M⟩:=zl T0.out.2.1
 go_wp2_with fail
 refine (zos V b2 Q.rq U.rq o.rq H.rq w0 (by rw[←zel];exact T0.out.2.2.1.rq) (by rw[←zel];exact T0.out.2.2.2.1.rq) HF.out.1).mono ?_
 rintro e w1 ⟨⟨r,rfl,n⟩,j⟩
 have Z:=zc (T0.out.later j)
 have R0:=zc n
 clear j n I D q L E z K N A O J M
 obtain⟨I,D,q,L,E,z⟩:=zl Z.out.1
 obtain⟨K,N,A,O,J,M⟩:=zl Z.out.2.1
 cases r with
 |false=>
  go_wp2
  go_ret
  exact⟨⟨false,rfl,⟨fun k=>(by cases k),fun k=>(by have:=R0.out.2 (by rw[k]);cases this)⟩⟩,Z.out.2.2.2.2⟩
 |true=>
  go_wp2_with fail
  refine (zow zgP zgQ V b2 Q.im U.im o.im H.im w1 Z.out.2.2.1.im Z.out.2.2.2.1.im HF.out.2.1).mono ?_
  rintro e w2 ⟨⟨r,rfl,n⟩,j⟩
  have X:=zc (Z.out.later j)
  have R1:=zc n
  clear j n I D q L E z K N A O J M
  obtain⟨I,D,q,L,E,z⟩:=zl X.out.1
  obtain⟨K,N,A,O,J,M⟩:=zl X.out.2.1
  cases r with
  |false=>
   go_wp2
   go_ret
   exact⟨⟨false,rfl,⟨fun k=>(by cases k),fun k=>(by have:=R1.out.2 (by rw[k]);cases this)⟩⟩,X.out.2.2.2.2⟩
  |true=>
   go_wp2_with fail
   refine (zo0 zgR zgS V b2 Q.ep U.ep o.ep H.ep w2 X.out.2.2.1.ep X.out.2.2.2.1.ep HF.out.2.2.1).mono ?_
   rintro e w3 ⟨⟨r,rfl,n⟩,j⟩
   have Y:=zc (X.out.later j)
   have R2:=zc n
   clear j n I D q L E z K N A O J M
   obtain⟨I,D,q,L,E,z⟩:=zl Y.out.1
   obtain⟨K,N,A,O,J,M⟩:=zl Y.out.2.1
   cases r with
   |false=>
    go_wp2
    go_ret
    exact⟨⟨false,rfl,⟨fun k=>(by cases k),fun k=>(by have:=R2.out.2 (by rw[k]);cases this)⟩⟩,Y.out.2.2.2.2⟩
   |true=>
    go_wp2_with fail
    refine (zo4 zgT zgU V b2 Q.st U.st o.st H.st w3 Y.out.2.2.1.st Y.out.2.2.2.1.st HF.out.2.2.2.1).mono ?_
    rintro e w4 ⟨⟨r,rfl,n⟩,j⟩
    have T4:=zc (Y.out.later j)
    have R3:=zc n
    clear j n I D q L E z K N A O J M
    obtain⟨I,D,q,L,E,z⟩:=zl T4.out.1
    obtain⟨K,N,A,O,J,M⟩:=zl T4.out.2.1
    cases r with
    |false=>
     go_wp2
     go_ret
     exact⟨⟨false,rfl,⟨fun k=>(by cases k),fun k=>(by have:=R3.out.2 (by rw[k]);cases this)⟩⟩,T4.out.2.2.2.2⟩
    |true=>
     go_wp2_with fail
     refine (zo8 zgV zgW V b2 Q.ex U.ex o.ex H.ex w4 T4.out.2.2.1.ex T4.out.2.2.2.1.ex HF.out.2.2.2.2).mono ?_
     rintro e w5 ⟨⟨r,rfl,n⟩,j⟩
     have T5:=zc (T4.out.later j)
     have R4:=zc n
     clear j n I D q L E z K N A O J M
     obtain⟨I,D,q,L,E,z⟩:=zl T5.out.1
     obtain⟨K,N,A,O,J,M⟩:=zl T5.out.2.1
     cases r with
     |false=>
      go_wp2
      go_ret
      exact⟨⟨false,rfl,⟨fun k=>(by cases k),fun k=>(by have:=R4.out.2 (by rw[k]);cases this)⟩⟩,T5.out.2.2.2.2⟩
     |true=>
      go_wp2
      go_ret
      exact⟨⟨true,rfl,⟨fun _=>ziW (R0.out.1 (by simp)) (R1.out.1 (by simp)) (R2.out.1 (by simp)) (R3.out.1 (by simp)) (R4.out.1 (by simp)),fun _=>rfl⟩⟩,T5.out.2.2.2.2⟩
theorem ziZ (a b:List Ex) (k:Int):zam (a++b) k=zam a k+zam b k:=by simp[zam]
theorem zja (a b:List Sm) (k:Int):zaG (a++b) k=zaG a k+zaG b k:=by simp[zaG]
theorem zjb {ex:List Ex} {i:Nat} (j:i<ex.length) (k:Int):zam (ex.take (i+1)) k=zam (ex.take i) k+u1 ex[i] k:=by
 rw[List.take_succ_eq_append_getElem j,ziZ]
 simp[zam,u1]
theorem zoI {j:List Sm} {i:Nat} (n:i<j.length) (k:Int):zaG (j.take (i+1)) k=zaG (j.take i) k+if j[i].expr==k then 1 else 0:=by
 rw[List.take_succ_eq_append_getElem n,zja]
 simp[zaG]
theorem zfB (ex:List Ex) (k:Int):zam ex k≤2*ex.length:=by
 induction ex with
 |nil=>simp[zam]
 |cons x l j=>
  rw[show x::l=[x]++l from rfl,ziZ]
  have:zam [x] k≤2:=by
   simp only[zam,List.map_cons,List.map_nil,List.sum_cons,List.sum_nil]
   split
   ·split<;>split<;>omega
   ·omega
  simp only[List.length_append,List.length_cons,List.length_nil]
  omega
theorem zjc (j:List Sm) (k:Int):zaG j k≤j.length:=by
 induction j with
 |nil=>simp[zaG]
 |cons x l n=>
  rw[show x::l=[x]++l from rfl,zja]
  have:zaG [x] k≤1:=by
   simp only[zaG,List.map_cons,List.map_nil,List.sum_cons,List.sum_nil]
   split<;>omega
  simp only[List.length_append,List.length_cons,List.length_nil]
  omega
def zal (n:Nat) (f:Nat→Nat):List Value:=(List.range n).map fun k=>.int .i64 (f k:Int)
theorem zgX (n:Nat) (f:Nat→Nat):(zal n f).length=n:=by simp[zal]
theorem zfC {n:Nat} (f:Nat→Nat) {k:Nat} (j:k<n):(zal n f)[k]? =some (.int .i64 (f k:Int)):=by
 unfold zal
 rw[List.getElem?_map,List.getElem?_range j]
 rfl
theorem zoJ {n l:Nat} (f g:Nat→Nat) (v:Nat) (o:g l=v) (h: ∀k,k≠l→g k=f k):(zal n f).set l (.int .i64 (v:Int))=zal n g:=by
 apply List.ext_getElem?
 intro k
 by_cases j:k<n
 ·by_cases e:k=l
  ·subst e
   rw[List.getElem?_set_self (by rw[zgX];exact j),zfC g j,o]
  ·rw[List.getElem?_set_ne (fun x=>e x.symm),zfC f j,zfC g j,h k e]
 ·rw[List.getElem?_eq_none (by rw[List.length_set,zgX];omega),List.getElem?_eq_none (by rw[zgX];omega)]
theorem zdE {n:Nat} {f g:Nat→Nat} (h: ∀k,k<n→f k=g k):zal n f=zal n g:=by
 unfold zal
 refine List.map_congr_left fun k j=>?_
 rw[h k (List.mem_range.1 j)]
def zaF (f:Nat→Nat) (l:Nat):Nat→Nat:=fun k=>f k+if k=l then 1 else 0
theorem zoK (f:Nat→Nat) (l:Nat):zaF f l l=f l+1:=by simp[zaF]
theorem zoL (f:Nat→Nat) {l k:Nat} (h:k≠l):zaF f l k=f k:=by simp[zaF,h]
theorem zjd {ex:List Ex} {i:Nat} (j:i<ex.length) (q:zW ex[i].kind=true) (z:0≤ex[i].l) (A:0≤ex[i].r) (k:Nat):zaF (zaF (fun k=>zam (ex.take i) (k:Int)) ex[i].l.toNat) ex[i].r.toNat k=zam (ex.take (i+1)) (k:Int):=by
 rw[zjb j,u1,if_pos q]
 unfold zaF
 have n:(ex[i].l==(k:Int))=decide (k=ex[i].l.toNat):=by
  rw[Bool.eq_iff_iff,beq_iff_eq,decide_eq_true_iff];omega
 have o:(ex[i].r==(k:Int))=decide (k=ex[i].r.toNat):=by
  rw[Bool.eq_iff_iff,beq_iff_eq,decide_eq_true_iff];omega
 rw[n,o]
 simp only[decide_eq_true_eq]
 omega
theorem zje {ex:List Ex} {i:Nat} (j:i<ex.length) (n:zW ex[i].kind=false) (k:Nat):zam (ex.take i) (k:Int)=zam (ex.take (i+1)) (k:Int):=by
 rw[zjb j,u1,if_neg (by rw[n];decide),Nat.add_zero]
theorem zjf {j:List Sm} {ex:List Ex} {i:Nat} (o:i<j.length) (q:0≤j[i].expr) (k:Nat):zaF (fun k=>zam ex (k:Int)+zaG (j.take i) (k:Int)) j[i].expr.toNat k=zam ex (k:Int)+zaG (j.take (i+1)) (k:Int):=by
 rw[zoI o]
 unfold zaF
 have n:(j[i].expr==(k:Int))=decide (k=j[i].expr.toNat):=by
  rw[Bool.eq_iff_iff,beq_iff_eq,decide_eq_true_iff];omega
 rw[n]
 simp only[decide_eq_true_eq]
 omega
def AheadTo (ex:List Ex) (n:Nat):Prop:=∀(i:Nat) (x:Ex),i<n→ex[i]? =some x→zW x.kind=true→0≤x.l∧x.l<(i:Int)∧0≤x.r∧x.r<(i:Int)
theorem AheadTo.all {ex:List Ex} (h:AheadTo ex ex.length):zbn ex:=fun i x j=>h i x (List.getElem?_eq_some_iff.1 j).1 j
theorem AheadTo.next {ex:List Ex} {i:Nat} (h:AheadTo ex i) (z:i<ex.length) (q:zW ex[i].kind=true→0≤ex[i].l∧ex[i].l<(i:Int)∧0≤ex[i].r∧ex[i].r<(i:Int)):AheadTo ex (i+1):=by
 intro j x A n o
 by_cases e:j=i
 ·subst e
  obtain⟨_,rfl⟩:=List.getElem?_eq_some_iff.1 n
  exact q o
 ·exact h j x (by omega) n o
theorem AheadTo.not {ex:List Ex} {i:Nat} (n:i<ex.length) (o:zW ex[i].kind=true) (j: ¬(0≤ex[i].l∧ex[i].l<(i:Int)∧0≤ex[i].r∧ex[i].r<(i:Int))): ¬zbn ex:=fun h=>j (h i _ (List.getElem?_eq_getElem n) o)
theorem zjg (k:Int) (w:World):Calls Tryz.prog 121 #[.int .i64 k] w fun e q=>e= .returned (.bool (zW k))∧q=w:=by
 cases n:(k==6) with
 |true=>
  have j:Hid (zW k=true):=by show _=_;rw[zW,n];rfl
  go_enter Tryz.func121,Tryz.ntmps121
  go_wp2
  go_ret
  exact⟨zm j.out.symm,rfl⟩
 |false=>
  cases o:(k==7) with
  |true=>
   have j:Hid (zW k=true):=by show _=_;rw[zW,n,o];rfl
   go_enter Tryz.func121,Tryz.ntmps121
   go_wp2
   go_ret
   exact⟨zm j.out.symm,rfl⟩
  |false=>
   have j:Hid (zW k=(k==8)):=by show _=_;rw[zW,n,o];simp
   go_enter Tryz.func121,Tryz.ntmps121
   go_wp2
   go_ret
   exact⟨zm j.out.symm,rfl⟩
theorem zgY (j:Nat) (S:Sv) (m:Md) (i:Nat) (w:World) (h:OwnMd w j S m) (q:i<m.ex.length):
  Calls Tryz.prog 165 #[zp S m,.int .i64 i] w fun e A=>e= .returned (.bool (zO (m.ex.getD i zg).kind))∧Below w.heap.size w A:=by
 obtain⟨g,hg,hlt,c0,-,-,-,-,-⟩:=h.expr q
 have z:(i:Int)<(m.ex.length:Int):=by omega
 unfold zp
 rw[hg]
 generalize (m.ex.getD i zg).kind=k at c0 ⊢
 clear h hg
 cases o:(k==6) with
 |true=>
  have n:Hid (zO k=true):=by show _=_;rw[zO,o];rfl
  go_enter Tryz.func165,Tryz.ntmps165
  go_wp2
  go_ret
  exact⟨zm n.out.symm,(Below.refl _ _).alloc (Nat.le_refl _) _⟩
 |false=>
  have n:Hid (zO k=(k==7)):=by show _=_;rw[zO,o];simp
  go_enter Tryz.func165,Tryz.ntmps165
  go_wp2
  go_ret
  exact⟨zm n.out.symm,(Below.refl _ _).alloc (Nat.le_refl _) _⟩
def zeo (base:Nat) (S:Sv) (m:Md) (n:Nat):Prop:=∀(i:Nat) (w:World),i<n→i<m.ex.length→OwnMd w base S m→wt m.ex i≤1099511627776→
 Calls Tryz.prog 123 #[zp S m,.int .i64 i] w fun e w'=>e= .returned (.string (prX m.ex i))∧Below w.heap.size w w'
theorem zfD (j:Nat) (S:Sv) (m:Md) (n i:Nat) (b:Bool) (w:World) (K:zeo j S m n) (J:i<n) (I:i<m.ex.length) (h:OwnMd w j S m) (D:wt m.ex i≤1099511627776):
  Calls Tryz.prog 164 #[zp S m,.int .i64 i,.bool b] w fun e O=>e= .returned (.string (zE b (prX m.ex i)))∧Below w.heap.size w O:=by
 have L:=zc K
 have H:=zc h
 have E:=zc D
 unfold wt at D
 clear K h
 unfold zp
 cases b with
 |true=>
  have q:Hid (zE true (prX m.ex i)=zn++prX m.ex i++za0):=rfl
  go_enter Tryz.func164,Tryz.ntmps164
  go_wp2_with fail
  refine (L.out i _ J I (H.out.alloc _) E.out).mono ?_
  rintro e A ⟨rfl,o⟩
  have z:Hid (Below w.heap.size w A):=((Below.refl _ _).alloc (Nat.le_refl _) _).trans (o.mono (by rw[zk];omega))
  clear o
  generalize M:prX m.ex i=t at D q ⊢
  have N:=zc M
  clear M
  go_wp2
  go_ret
  exact⟨za2 (by rw[N.out];exact q.out.symm),z.out⟩
 |false=>
  have q:Hid (zE false (prX m.ex i)=prX m.ex i):=rfl
  go_enter Tryz.func164,Tryz.ntmps164
  go_wp2_with fail
  refine (L.out i _ J I (H.out.alloc _) E.out).mono ?_
  rintro e A ⟨rfl,o⟩
  have z:Hid (Below w.heap.size w A):=((Below.refl _ _).alloc (Nat.le_refl _) _).trans (o.mono (by rw[zk];omega))
  clear o
  go_wp2
  go_ret
  exact⟨za2 q.out.symm,z.out⟩
theorem zoM (g:Nat) (S:Sv) (m:Md) (i:Nat) (k j l r:Int) (nm H:ByteArray) (w:World) (n:S.ex.a=some ⟨g,0,none⟩) (J:i<m.ex.length) (D:g<w.heap.size) (M:w.cell? ⟨g,i*6,none⟩=some (.int .i64 k)) (K:w.cell? ⟨g,i*6+1,none⟩=some (.int .i64 j)) (N:w.cell? ⟨g,i*6+2,none⟩=some (.string nm)) (c3:w.cell? ⟨g,i*6+3,none⟩=some (.string H)) (c4:w.cell? ⟨g,i*6+4,none⟩=some (.int .i64 l)) (c5:w.cell? ⟨g,i*6+5,none⟩=some (.int .i64 r)) (L:(k==1)=true) (o: -9223372036854775808≤j∧j≤9223372036854775807):
  Calls Tryz.prog 123 #[zp S m,.int .i64 i] w fun e I=>e= .returned (.string (strOfNums (zb9 j)))∧Below w.heap.size w I:=by
 have z:(i:Int)<(m.ex.length:Int):=by omega
 unfold zp
 rw[n]
 clear n
 go_enter Tryz.func123,Tryz.ntmps123
 go_wp2_with fail
 refine (zgj j _ o).mono ?_
 rintro e E ⟨rfl,q⟩
 have A:Hid (Below w.heap.size w E):=(zaT w _ _).trans (q.mono (by rw[zk,zk];omega))
 clear q
 go_wp2
 go_ret
 exact⟨rfl,A.out⟩
theorem zoN (g:Nat) (S:Sv) (m:Md) (i:Nat) (k z l r:Int) (nm q:ByteArray) (w:World) (j:S.ex.a=some ⟨g,0,none⟩) (D:i<m.ex.length) (o:g<w.heap.size) (I:w.cell? ⟨g,i*6,none⟩=some (.int .i64 k)) (E:w.cell? ⟨g,i*6+1,none⟩=some (.int .i64 z)) (K:w.cell? ⟨g,i*6+2,none⟩=some (.string nm)) (c3:w.cell? ⟨g,i*6+3,none⟩=some (.string q)) (c4:w.cell? ⟨g,i*6+4,none⟩=some (.int .i64 l)) (c5:w.cell? ⟨g,i*6+5,none⟩=some (.int .i64 r)) (H:(k==1)=false) (J:(k==2)=true):
  Calls Tryz.prog 123 #[zp S m,.int .i64 i] w fun e A=>e= .returned (.string (nm))∧Below w.heap.size w A:=by
 have n:(i:Int)<(m.ex.length:Int):=by omega
 unfold zp
 rw[j]
 clear j
 go_enter Tryz.func123,Tryz.ntmps123
 go_wp2
 go_ret
 exact⟨rfl,((Below.refl _ _).alloc (Nat.le_refl _) _).alloc (by show _≤(w.heap.push _).size;simp) _⟩
theorem zoO (g:Nat) (S:Sv) (m:Md) (i:Nat) (k D l r:Int) (nm A:ByteArray) (w:World) (n:S.ex.a=some ⟨g,0,none⟩) (I:i<m.ex.length) (z:g<w.heap.size) (M:w.cell? ⟨g,i*6,none⟩=some (.int .i64 k)) (J:w.cell? ⟨g,i*6+1,none⟩=some (.int .i64 D)) (O:w.cell? ⟨g,i*6+2,none⟩=some (.string nm)) (c3:w.cell? ⟨g,i*6+3,none⟩=some (.string A)) (c4:w.cell? ⟨g,i*6+4,none⟩=some (.int .i64 l)) (c5:w.cell? ⟨g,i*6+5,none⟩=some (.int .i64 r)) (K:(k==1)=false) (N:(k==2)=false) (L:(k==3)=true) (j:(nm++cParens).size≤1099511627776):
  Calls Tryz.prog 123 #[zp S m,.int .i64 i] w fun e H=>e= .returned (.string (nm++cParens))∧Below w.heap.size w H:=by
 have q:(i:Int)<(m.ex.length:Int):=by omega
 unfold zp
 rw[n]
 clear n
 simp only[ByteArray.size_append] at j
 have o:cParens.size=2:=rfl
 have E:nm.size≤1099511627776:=by omega
 clear j o
 go_enter Tryz.func123,Tryz.ntmps123
 go_wp2
 go_ret
 exact⟨rfl,((Below.refl _ _).alloc (Nat.le_refl _) _).alloc (by show _≤(w.heap.push _).size;simp) _⟩
theorem zoP (g:Nat) (S:Sv) (m:Md) (i:Nat) (k H l r:Int) (nm o:ByteArray) (w:World) (n:S.ex.a=some ⟨g,0,none⟩) (M:i<m.ex.length) (E:g<w.heap.size) (O:w.cell? ⟨g,i*6,none⟩=some (.int .i64 k)) (N:w.cell? ⟨g,i*6+1,none⟩=some (.int .i64 H)) (K:w.cell? ⟨g,i*6+2,none⟩=some (.string nm)) (c3:w.cell? ⟨g,i*6+3,none⟩=some (.string o)) (c4:w.cell? ⟨g,i*6+4,none⟩=some (.int .i64 l)) (c5:w.cell? ⟨g,i*6+5,none⟩=some (.int .i64 r)) (U:(k==1)=false) (L:(k==2)=false) (J:(k==3)=false) (Q:(k==4)=true) (j:(nm++cPoint++o).size≤1099511627776):
  Calls Tryz.prog 123 #[zp S m,.int .i64 i] w fun e A=>e= .returned (.string (nm++cPoint++o))∧Below w.heap.size w A:=by
 have z:(i:Int)<(m.ex.length:Int):=by omega
 unfold zp
 rw[n]
 clear n
 simp only[ByteArray.size_append] at j
 have q:cPoint.size=1:=rfl
 have D:nm.size≤1099511627776:=by omega
 have I:o.size≤1099511627776:=by omega
 clear j q
 go_enter Tryz.func123,Tryz.ntmps123
 go_wp2
 go_ret
 exact⟨rfl,((Below.refl _ _).alloc (Nat.le_refl _) _).alloc (by show _≤(w.heap.push _).size;simp) _⟩
theorem zoQ (g:Nat) (S:Sv) (m:Md) (i:Nat) (k H l r:Int) (nm o:ByteArray) (w:World) (n:S.ex.a=some ⟨g,0,none⟩) (N:i<m.ex.length) (E:g<w.heap.size) (U:w.cell? ⟨g,i*6,none⟩=some (.int .i64 k)) (O:w.cell? ⟨g,i*6+1,none⟩=some (.int .i64 H)) (L:w.cell? ⟨g,i*6+2,none⟩=some (.string nm)) (c3:w.cell? ⟨g,i*6+3,none⟩=some (.string o)) (c4:w.cell? ⟨g,i*6+4,none⟩=some (.int .i64 l)) (c5:w.cell? ⟨g,i*6+5,none⟩=some (.int .i64 r)) (V:(k==1)=false) (M:(k==2)=false) (K:(k==3)=false) (X:(k==4)=false) (Q:(k==5)=true) (j:(nm++cPoint++o++cParens).size≤1099511627776):
  Calls Tryz.prog 123 #[zp S m,.int .i64 i] w fun e J=>e= .returned (.string (nm++cPoint++o++cParens))∧Below w.heap.size w J:=by
 have A:(i:Int)<(m.ex.length:Int):=by omega
 unfold zp
 rw[n]
 clear n
 simp only[ByteArray.size_append] at j
 have q:cParens.size=2:=rfl
 have z:cPoint.size=1:=rfl
 have D:nm.size≤1099511627776:=by omega
 have I:o.size≤1099511627776:=by omega
 clear j q z
 go_enter Tryz.func123,Tryz.ntmps123
 go_wp2
 go_ret
 exact⟨rfl,((Below.refl _ _).alloc (Nat.le_refl _) _).alloc (by show _≤(w.heap.push _).size;simp) _⟩
theorem zoR (g:Nat) (S:Sv) (m:Md) (i:Nat) (k z l r:Int) (nm A:ByteArray) (w:World) (j:S.ex.a=some ⟨g,0,none⟩) (J:i<m.ex.length) (q:g<w.heap.size) (M:w.cell? ⟨g,i*6,none⟩=some (.int .i64 k)) (K:w.cell? ⟨g,i*6+1,none⟩=some (.int .i64 z)) (H:w.cell? ⟨g,i*6+2,none⟩=some (.string nm)) (c3:w.cell? ⟨g,i*6+3,none⟩=some (.string A)) (c4:w.cell? ⟨g,i*6+4,none⟩=some (.int .i64 l)) (c5:w.cell? ⟨g,i*6+5,none⟩=some (.int .i64 r)) (U:(k==1)=false) (I:(k==2)=false) (E:(k==3)=false) (Q:(k==4)=false) (L:(k==5)=false) (D:(k==6)=false) (O:(k==7)=false) (N:(k==8)=false):
  Calls Tryz.prog 123 #[zp S m,.int .i64 i] w fun e o=>e= .returned (.string (sNone))∧Below w.heap.size w o:=by
 have n:(i:Int)<(m.ex.length:Int):=by omega
 unfold zp
 rw[j]
 clear j
 go_enter Tryz.func123,Tryz.ntmps123
 go_wp2
 go_ret
 exact⟨rfl,((Below.refl _ _).alloc (Nat.le_refl _) _).alloc (by show _≤(w.heap.push _).size;simp) _⟩
theorem zoS (o g:Nat) (S:Sv) (m:Md) (i n j:Nat) (k q:Int) (nm z:ByteArray) (w:World) (E:S.ex.a=some ⟨g,0,none⟩) (h:OwnMd w o S m) (hi:i<m.ex.length) (ad:g<w.heap.size) (c0:w.cell? ⟨g,i*6,none⟩=some (.int .i64 k)) (c1:w.cell? ⟨g,i*6+1,none⟩=some (.int .i64 q)) (c2:w.cell? ⟨g,i*6+2,none⟩=some (.string nm)) (c3:w.cell? ⟨g,i*6+3,none⟩=some (.string z)) (c4:w.cell? ⟨g,i*6+4,none⟩=some (.int .i64 (n:Int))) (c5:w.cell? ⟨g,i*6+5,none⟩=some (.int .i64 (j:Int))) (k1:(k==1)=false) (k2:(k==2)=false) (k3:(k==3)=false) (k4:(k==4)=false) (k5:(k==5)=false) (k6:(k==6)=true) (L:(prX m.ex n++tPlus++zE (zO (m.ex.getD j zg).kind) (prX m.ex j)).size≤1099511627776) (he:zeo o S m i) (hl:n<i) (hr:j<i) (aa:wt m.ex n≤1099511627776) (ac:wt m.ex j≤1099511627776):
  Calls Tryz.prog 123 #[zp S m,.int .i64 i] w fun e w'=>e= .returned (.string (prX m.ex n++tPlus++zE (zO (m.ex.getD j zg).kind) (prX m.ex j)))∧Below w.heap.size w w':=by
 have ah:(i:Int)<(m.ex.length:Int):=by omega
 have HA:Hid (OwnMd ((w.alloc (.cells #[.slice S.rq.a m.rq.length S.rq.cap,.slice S.im.a m.im.length S.im.cap,.slice S.ep.a m.ep.length S.ep.cap,.slice S.st.a m.st.length S.st.cap,.slice (some ⟨g,0,none⟩) m.ex.length S.ex.cap] 28)).alloc (.cells #[.int .i64 k,.int .i64 q,.string nm,.string z,.int .i64 (n:Int),.int .i64 (j:Int)] 108)) o S m):=(h.alloc _).alloc _
 have HE:=zc he
 have H:Hid (zp S m= .agg #[.slice S.rq.a m.rq.length S.rq.cap,.slice S.im.a m.im.length S.im.cap,.slice S.ep.a m.ep.length S.ep.cap,.slice S.st.a m.st.length S.st.cap,.slice (some ⟨g,0,none⟩) m.ex.length S.ex.cap]):=by show _=_;rw[zp,E]
 have aj:(n:Int)<(m.ex.length:Int):=by omega
 have ak:(j:Int)<(m.ex.length:Int):=by omega
 obtain⟨g2,hg2,-,d0,-,-,-,-,-⟩:=h.expr (i:=j) (by omega)
 have eg:g2=g:=by have:=hg2.symm.trans E;simpa using this
 rw[eg] at d0
 obtain⟨V,Q⟩: ∃V,(m.ex.getD j zg).kind=V:=⟨_,rfl⟩
 rw[Q] at d0
 have J:=zc Q
 obtain⟨U,N⟩: ∃U,prX m.ex n=U:=⟨_,rfl⟩
 obtain⟨Z,K⟩: ∃Z,zE (zO (m.ex.getD j zg).kind) (prX m.ex j)=Z:=⟨_,rfl⟩
 rw[N,K] at L
 have M:=zc N
 have O:=zc K
 have cL: ∀d A,Calls Tryz.prog 123 #[.agg #[.slice S.rq.a m.rq.length S.rq.cap,.slice S.im.a m.im.length S.im.cap,.slice S.ep.a m.ep.length S.ep.cap,.slice S.st.a m.st.length S.st.cap,.slice (some ⟨g,0,none⟩) m.ex.length S.ex.cap],.int .i64 (n:Int)] (grow (redrawn ((w.alloc (.cells #[.slice S.rq.a m.rq.length S.rq.cap,.slice S.im.a m.im.length S.im.cap,.slice S.ep.a m.ep.length S.ep.cap,.slice S.st.a m.st.length S.st.cap,.slice (some ⟨g,0,none⟩) m.ex.length S.ex.cap] 28)).alloc (.cells #[.int .i64 k,.int .i64 q,.string nm,.string z,.int .i64 (n:Int),.int .i64 (j:Int)] 108)) d) A) fun e D=>e= .returned (.string U)∧∃p:Regrown,D=grow (redrawn ((w.alloc (.cells #[.slice S.rq.a m.rq.length S.rq.cap,.slice S.im.a m.im.length S.im.cap,.slice S.ep.a m.ep.length S.ep.cap,.slice S.st.a m.st.length S.st.cap,.slice (some ⟨g,0,none⟩) m.ex.length S.ex.cap] 28)).alloc (.cells #[.int .i64 k,.int .i64 q,.string nm,.string z,.int .i64 (n:Int),.int .i64 (j:Int)] 108)) p.d) p.os:=fun d A=>Calls.regrown_of (by rw[←H.out,←M.out];exact HE.out n _ (by omega) (by omega) (HA.out.later (below_regrown _ d A)) aa)
 have cS: ∀d A,Calls Tryz.prog 165 #[.agg #[.slice S.rq.a m.rq.length S.rq.cap,.slice S.im.a m.im.length S.im.cap,.slice S.ep.a m.ep.length S.ep.cap,.slice S.st.a m.st.length S.st.cap,.slice (some ⟨g,0,none⟩) m.ex.length S.ex.cap],.int .i64 (j:Int)] (grow (redrawn ((w.alloc (.cells #[.slice S.rq.a m.rq.length S.rq.cap,.slice S.im.a m.im.length S.im.cap,.slice S.ep.a m.ep.length S.ep.cap,.slice S.st.a m.st.length S.st.cap,.slice (some ⟨g,0,none⟩) m.ex.length S.ex.cap] 28)).alloc (.cells #[.int .i64 k,.int .i64 q,.string nm,.string z,.int .i64 (n:Int),.int .i64 (j:Int)] 108)) d) A) fun e D=>e= .returned (.bool (zO V))∧∃p:Regrown,D=grow (redrawn ((w.alloc (.cells #[.slice S.rq.a m.rq.length S.rq.cap,.slice S.im.a m.im.length S.im.cap,.slice S.ep.a m.ep.length S.ep.cap,.slice S.st.a m.st.length S.st.cap,.slice (some ⟨g,0,none⟩) m.ex.length S.ex.cap] 28)).alloc (.cells #[.int .i64 k,.int .i64 q,.string nm,.string z,.int .i64 (n:Int),.int .i64 (j:Int)] 108)) p.d) p.os:=fun d A=>Calls.regrown_of (by rw[←H.out,←J.out];exact zgY o S m j _ (HA.out.later (below_regrown _ d A)) (by omega))
 have cR: ∀d A,Calls Tryz.prog 164 #[.agg #[.slice S.rq.a m.rq.length S.rq.cap,.slice S.im.a m.im.length S.im.cap,.slice S.ep.a m.ep.length S.ep.cap,.slice S.st.a m.st.length S.st.cap,.slice (some ⟨g,0,none⟩) m.ex.length S.ex.cap],.int .i64 (j:Int),.bool (zO V)] (grow (redrawn ((w.alloc (.cells #[.slice S.rq.a m.rq.length S.rq.cap,.slice S.im.a m.im.length S.im.cap,.slice S.ep.a m.ep.length S.ep.cap,.slice S.st.a m.st.length S.st.cap,.slice (some ⟨g,0,none⟩) m.ex.length S.ex.cap] 28)).alloc (.cells #[.int .i64 k,.int .i64 q,.string nm,.string z,.int .i64 (n:Int),.int .i64 (j:Int)] 108)) d) A) fun e D=>e= .returned (.string Z)∧∃p:Regrown,D=grow (redrawn ((w.alloc (.cells #[.slice S.rq.a m.rq.length S.rq.cap,.slice S.im.a m.im.length S.im.cap,.slice S.ep.a m.ep.length S.ep.cap,.slice S.st.a m.st.length S.st.cap,.slice (some ⟨g,0,none⟩) m.ex.length S.ex.cap] 28)).alloc (.cells #[.int .i64 k,.int .i64 q,.string nm,.string z,.int .i64 (n:Int),.int .i64 (j:Int)] 108)) p.d) p.os:=fun d A=>Calls.regrown_of (by rw[←H.out,←O.out,J.out];exact zfD o S m i j _ _ HE.out (by omega) (by omega) (HA.out.later (below_regrown _ d A)) ac)
 have X:Hid (Six ((w.alloc (.cells #[.slice S.rq.a m.rq.length S.rq.cap,.slice S.im.a m.im.length S.im.cap,.slice S.ep.a m.ep.length S.ep.cap,.slice S.st.a m.st.length S.st.cap,.slice (some ⟨g,0,none⟩) m.ex.length S.ex.cap] 28)).alloc (.cells #[.int .i64 k,.int .i64 q,.string nm,.string z,.int .i64 (n:Int),.int .i64 (j:Int)] 108)) (w.heap.size+1) (.int .i64 k) (.int .i64 q) (.string nm) (.string z) (.int .i64 (n:Int)) (.int .i64 (j:Int))):=zv (zbq w _ _)
 have Y:=zc (zl (zck (o':=.cells #[.int .i64 k,.int .i64 q,.string nm,.string z,.int .i64 (n:Int),.int .i64 (j:Int)] 108) (heap_alloc_new w (.cells #[.slice S.rq.a m.rq.length S.rq.cap,.slice S.im.a m.im.length S.im.cap,.slice S.ep.a m.ep.length S.ep.cap,.slice S.st.a m.st.length S.st.cap,.slice (some ⟨g,0,none⟩) m.ex.length S.ex.cap] 28))))
 have D0:Hid (((w.alloc (.cells #[.slice S.rq.a m.rq.length S.rq.cap,.slice S.im.a m.im.length S.im.cap,.slice S.ep.a m.ep.length S.ep.cap,.slice S.st.a m.st.length S.st.cap,.slice (some ⟨g,0,none⟩) m.ex.length S.ex.cap] 28)).alloc (.cells #[.int .i64 k,.int .i64 q,.string nm,.string z,.int .i64 (n:Int),.int .i64 (j:Int)] 108)).cell? ⟨g,j*6,none⟩=some (.int .i64 V)):=by show _=_;rw[World.cell?_alloc_past _ _ _ (by rw[zk];omega),World.cell?_alloc_past _ _ _ ad];exact d0
 simp only[ByteArray.size_append] at L
 have ae:tPlus.size=3:=rfl
 have ai:U.size≤1099511627776:=by omega
 have ag:Z.size≤1099511627776:=by omega
 have HV:Hid ((prX m.ex n++tPlus++zE (zO (m.ex.getD j zg).kind) (prX m.ex j))=U++tPlus++Z):=by show _=_;rw[M.out,O.out]
 unfold zp
 rw[E]
 clear E h HA HE H M O N K Q J hg2 he L ae d0 eg
 go_enter Tryz.func123,Tryz.ntmps123
 go_wp2_with fail
 have x0:=cell_regrown X.out.c0
 have x4:=cell_regrown X.out.c4
 have x5:=cell_regrown X.out.c5
 have y0:=cell_regrown Y.out.1
 have y1:=cell_regrown Y.out.2.1
 have y2:=cell_regrown Y.out.2.2.1
 have y3:=cell_regrown Y.out.2.2.2.1
 have y4:=cell_regrown Y.out.2.2.2.2.1
 have e0:=cell_regrown D0.out
 refine wp_region_quiet_below (by kernel_rfl) (by kernel_rfl) ?_
 repeat (go_big_quiet_step (first|with_reducible exact cL _ _|with_reducible exact cS _ _|with_reducible exact cR _ _))
 refine wpQuiet_nil ?_
 intro w1 ab
 obtain⟨⟨dq,al⟩,I⟩:=ab
 have af:Hid (Below w.heap.size w w1):=by show Below _ _ _;rw[I];exact (zaT w _ _).trans ((below_regrown _ _ _).mono (by rw[zk,zk];omega))
 clear I
 go_wp2
 go_ret
 exact⟨za2 HV.out.symm,af.out⟩
theorem zoT (o g:Nat) (S:Sv) (m:Md) (i n j:Nat) (k q:Int) (nm z:ByteArray) (w:World) (E:S.ex.a=some ⟨g,0,none⟩) (h:OwnMd w o S m) (hi:i<m.ex.length) (ad:g<w.heap.size) (c0:w.cell? ⟨g,i*6,none⟩=some (.int .i64 k)) (c1:w.cell? ⟨g,i*6+1,none⟩=some (.int .i64 q)) (c2:w.cell? ⟨g,i*6+2,none⟩=some (.string nm)) (c3:w.cell? ⟨g,i*6+3,none⟩=some (.string z)) (c4:w.cell? ⟨g,i*6+4,none⟩=some (.int .i64 (n:Int))) (c5:w.cell? ⟨g,i*6+5,none⟩=some (.int .i64 (j:Int))) (k1:(k==1)=false) (k2:(k==2)=false) (k3:(k==3)=false) (k4:(k==4)=false) (k5:(k==5)=false) (k6:(k==6)=false) (k7:(k==7)=true) (L:(prX m.ex n++tMinus++zE (zO (m.ex.getD j zg).kind) (prX m.ex j)).size≤1099511627776) (he:zeo o S m i) (hl:n<i) (hr:j<i) (aa:wt m.ex n≤1099511627776) (ac:wt m.ex j≤1099511627776):
  Calls Tryz.prog 123 #[zp S m,.int .i64 i] w fun e w'=>e= .returned (.string (prX m.ex n++tMinus++zE (zO (m.ex.getD j zg).kind) (prX m.ex j)))∧Below w.heap.size w w':=by
 have ah:(i:Int)<(m.ex.length:Int):=by omega
 have HA:Hid (OwnMd ((w.alloc (.cells #[.slice S.rq.a m.rq.length S.rq.cap,.slice S.im.a m.im.length S.im.cap,.slice S.ep.a m.ep.length S.ep.cap,.slice S.st.a m.st.length S.st.cap,.slice (some ⟨g,0,none⟩) m.ex.length S.ex.cap] 28)).alloc (.cells #[.int .i64 k,.int .i64 q,.string nm,.string z,.int .i64 (n:Int),.int .i64 (j:Int)] 108)) o S m):=(h.alloc _).alloc _
 have HE:=zc he
 have H:Hid (zp S m= .agg #[.slice S.rq.a m.rq.length S.rq.cap,.slice S.im.a m.im.length S.im.cap,.slice S.ep.a m.ep.length S.ep.cap,.slice S.st.a m.st.length S.st.cap,.slice (some ⟨g,0,none⟩) m.ex.length S.ex.cap]):=by show _=_;rw[zp,E]
 have aj:(n:Int)<(m.ex.length:Int):=by omega
 have ak:(j:Int)<(m.ex.length:Int):=by omega
 obtain⟨g2,hg2,-,d0,-,-,-,-,-⟩:=h.expr (i:=j) (by omega)
 have eg:g2=g:=by have:=hg2.symm.trans E;simpa using this
 rw[eg] at d0
 obtain⟨V,Q⟩: ∃V,(m.ex.getD j zg).kind=V:=⟨_,rfl⟩
 rw[Q] at d0
 have J:=zc Q
 obtain⟨U,N⟩: ∃U,prX m.ex n=U:=⟨_,rfl⟩
 obtain⟨Z,K⟩: ∃Z,zE (zO (m.ex.getD j zg).kind) (prX m.ex j)=Z:=⟨_,rfl⟩
 rw[N,K] at L
 have M:=zc N
 have O:=zc K
 have cL: ∀d A,Calls Tryz.prog 123 #[.agg #[.slice S.rq.a m.rq.length S.rq.cap,.slice S.im.a m.im.length S.im.cap,.slice S.ep.a m.ep.length S.ep.cap,.slice S.st.a m.st.length S.st.cap,.slice (some ⟨g,0,none⟩) m.ex.length S.ex.cap],.int .i64 (n:Int)] (grow (redrawn ((w.alloc (.cells #[.slice S.rq.a m.rq.length S.rq.cap,.slice S.im.a m.im.length S.im.cap,.slice S.ep.a m.ep.length S.ep.cap,.slice S.st.a m.st.length S.st.cap,.slice (some ⟨g,0,none⟩) m.ex.length S.ex.cap] 28)).alloc (.cells #[.int .i64 k,.int .i64 q,.string nm,.string z,.int .i64 (n:Int),.int .i64 (j:Int)] 108)) d) A) fun e D=>e= .returned (.string U)∧∃p:Regrown,D=grow (redrawn ((w.alloc (.cells #[.slice S.rq.a m.rq.length S.rq.cap,.slice S.im.a m.im.length S.im.cap,.slice S.ep.a m.ep.length S.ep.cap,.slice S.st.a m.st.length S.st.cap,.slice (some ⟨g,0,none⟩) m.ex.length S.ex.cap] 28)).alloc (.cells #[.int .i64 k,.int .i64 q,.string nm,.string z,.int .i64 (n:Int),.int .i64 (j:Int)] 108)) p.d) p.os:=fun d A=>Calls.regrown_of (by rw[←H.out,←M.out];exact HE.out n _ (by omega) (by omega) (HA.out.later (below_regrown _ d A)) aa)
 have cS: ∀d A,Calls Tryz.prog 165 #[.agg #[.slice S.rq.a m.rq.length S.rq.cap,.slice S.im.a m.im.length S.im.cap,.slice S.ep.a m.ep.length S.ep.cap,.slice S.st.a m.st.length S.st.cap,.slice (some ⟨g,0,none⟩) m.ex.length S.ex.cap],.int .i64 (j:Int)] (grow (redrawn ((w.alloc (.cells #[.slice S.rq.a m.rq.length S.rq.cap,.slice S.im.a m.im.length S.im.cap,.slice S.ep.a m.ep.length S.ep.cap,.slice S.st.a m.st.length S.st.cap,.slice (some ⟨g,0,none⟩) m.ex.length S.ex.cap] 28)).alloc (.cells #[.int .i64 k,.int .i64 q,.string nm,.string z,.int .i64 (n:Int),.int .i64 (j:Int)] 108)) d) A) fun e D=>e= .returned (.bool (zO V))∧∃p:Regrown,D=grow (redrawn ((w.alloc (.cells #[.slice S.rq.a m.rq.length S.rq.cap,.slice S.im.a m.im.length S.im.cap,.slice S.ep.a m.ep.length S.ep.cap,.slice S.st.a m.st.length S.st.cap,.slice (some ⟨g,0,none⟩) m.ex.length S.ex.cap] 28)).alloc (.cells #[.int .i64 k,.int .i64 q,.string nm,.string z,.int .i64 (n:Int),.int .i64 (j:Int)] 108)) p.d) p.os:=fun d A=>Calls.regrown_of (by rw[←H.out,←J.out];exact zgY o S m j _ (HA.out.later (below_regrown _ d A)) (by omega))
 have cR: ∀d A,Calls Tryz.prog 164 #[.agg #[.slice S.rq.a m.rq.length S.rq.cap,.slice S.im.a m.im.length S.im.cap,.slice S.ep.a m.ep.length S.ep.cap,.slice S.st.a m.st.length S.st.cap,.slice (some ⟨g,0,none⟩) m.ex.length S.ex.cap],.int .i64 (j:Int),.bool (zO V)] (grow (redrawn ((w.alloc (.cells #[.slice S.rq.a m.rq.length S.rq.cap,.slice S.im.a m.im.length S.im.cap,.slice S.ep.a m.ep.length S.ep.cap,.slice S.st.a m.st.length S.st.cap,.slice (some ⟨g,0,none⟩) m.ex.length S.ex.cap] 28)).alloc (.cells #[.int .i64 k,.int .i64 q,.string nm,.string z,.int .i64 (n:Int),.int .i64 (j:Int)] 108)) d) A) fun e D=>e= .returned (.string Z)∧∃p:Regrown,D=grow (redrawn ((w.alloc (.cells #[.slice S.rq.a m.rq.length S.rq.cap,.slice S.im.a m.im.length S.im.cap,.slice S.ep.a m.ep.length S.ep.cap,.slice S.st.a m.st.length S.st.cap,.slice (some ⟨g,0,none⟩) m.ex.length S.ex.cap] 28)).alloc (.cells #[.int .i64 k,.int .i64 q,.string nm,.string z,.int .i64 (n:Int),.int .i64 (j:Int)] 108)) p.d) p.os:=fun d A=>Calls.regrown_of (by rw[←H.out,←O.out,J.out];exact zfD o S m i j _ _ HE.out (by omega) (by omega) (HA.out.later (below_regrown _ d A)) ac)
 have X:Hid (Six ((w.alloc (.cells #[.slice S.rq.a m.rq.length S.rq.cap,.slice S.im.a m.im.length S.im.cap,.slice S.ep.a m.ep.length S.ep.cap,.slice S.st.a m.st.length S.st.cap,.slice (some ⟨g,0,none⟩) m.ex.length S.ex.cap] 28)).alloc (.cells #[.int .i64 k,.int .i64 q,.string nm,.string z,.int .i64 (n:Int),.int .i64 (j:Int)] 108)) (w.heap.size+1) (.int .i64 k) (.int .i64 q) (.string nm) (.string z) (.int .i64 (n:Int)) (.int .i64 (j:Int))):=zv (zbq w _ _)
 have Y:=zc (zl (zck (o':=.cells #[.int .i64 k,.int .i64 q,.string nm,.string z,.int .i64 (n:Int),.int .i64 (j:Int)] 108) (heap_alloc_new w (.cells #[.slice S.rq.a m.rq.length S.rq.cap,.slice S.im.a m.im.length S.im.cap,.slice S.ep.a m.ep.length S.ep.cap,.slice S.st.a m.st.length S.st.cap,.slice (some ⟨g,0,none⟩) m.ex.length S.ex.cap] 28))))
 have D0:Hid (((w.alloc (.cells #[.slice S.rq.a m.rq.length S.rq.cap,.slice S.im.a m.im.length S.im.cap,.slice S.ep.a m.ep.length S.ep.cap,.slice S.st.a m.st.length S.st.cap,.slice (some ⟨g,0,none⟩) m.ex.length S.ex.cap] 28)).alloc (.cells #[.int .i64 k,.int .i64 q,.string nm,.string z,.int .i64 (n:Int),.int .i64 (j:Int)] 108)).cell? ⟨g,j*6,none⟩=some (.int .i64 V)):=by show _=_;rw[World.cell?_alloc_past _ _ _ (by rw[zk];omega),World.cell?_alloc_past _ _ _ ad];exact d0
 simp only[ByteArray.size_append] at L
 have ae:tMinus.size=3:=rfl
 have ai:U.size≤1099511627776:=by omega
 have ag:Z.size≤1099511627776:=by omega
 have HV:Hid ((prX m.ex n++tMinus++zE (zO (m.ex.getD j zg).kind) (prX m.ex j))=U++tMinus++Z):=by show _=_;rw[M.out,O.out]
 unfold zp
 rw[E]
 clear E h HA HE H M O N K Q J hg2 he L ae d0 eg
 go_enter Tryz.func123,Tryz.ntmps123
 go_wp2_with fail
 have x0:=cell_regrown X.out.c0
 have x4:=cell_regrown X.out.c4
 have x5:=cell_regrown X.out.c5
 have y0:=cell_regrown Y.out.1
 have y1:=cell_regrown Y.out.2.1
 have y2:=cell_regrown Y.out.2.2.1
 have y3:=cell_regrown Y.out.2.2.2.1
 have y4:=cell_regrown Y.out.2.2.2.2.1
 have e0:=cell_regrown D0.out
 refine wp_region_quiet_below (by kernel_rfl) (by kernel_rfl) ?_
 repeat (go_big_quiet_step (first|with_reducible exact cL _ _|with_reducible exact cS _ _|with_reducible exact cR _ _))
 refine wpQuiet_nil ?_
 intro w1 ab
 obtain⟨⟨dq,al⟩,I⟩:=ab
 have af:Hid (Below w.heap.size w w1):=by show Below _ _ _;rw[I];exact (zaT w _ _).trans ((below_regrown _ _ _).mono (by rw[zk,zk];omega))
 clear I
 go_wp2
 go_ret
 exact⟨za2 HV.out.symm,af.out⟩
def zaU (e:Ep):Im:=⟨sNone,e.loc,e.name⟩
def zbs (C:Cx) (exp:Bool) (q:PS):Except Nat (PS×Ep):=bd (zj C true q) fun a=>bd (asP C exp a) fun b=>.ok (b.1,⟨0,b.2,a.2,sNone⟩)
theorem zjh (C:Cx) (j:Bool) (q:PS) (acc:List Ep):zax C j q acc=bd (zbs C j q) fun x=>
  if isT C x.1.pos 4 zbw then zax C j (adv x.1) (acc++[x.2]) else bd (zd C 4 zbm x.1) fun q'=>.ok (q',acc++[x.2]):=by
 rw[zfs,zbs,zM]
 refine zab fun a _=>?_
 rw[zM]
 rfl
theorem zoU {C:Cx} {q:PS} {a:PS×ByteArray} (j:zj C true q= .ok a) (h:isT C a.1.pos 1 sAs=true):zbs C false q=bd (zj C false (adv a.1)) fun b=>.ok (b.1,⟨0,b.2,a.2,sNone⟩):=by
 rw[zbs,j,zz,asP,if_pos h]
theorem zoV {C:Cx} {q:PS} {a:PS×ByteArray} (n:zj C true q= .ok a) (h:isT C a.1.pos 1 sAs=false) (j:(a.2.toList==[100,101,102,97,117,108,116])=true):zbs C false q= .error (zr C a.1.pos):=by
 rw[zbs,n,zz,asP,if_neg (by rw[h];decide),if_pos (by rw[j];rfl)]
 rfl
theorem zoW {C:Cx} {q:PS} {a:PS×ByteArray} (n:zj C true q= .ok a) (h:isT C a.1.pos 1 sAs=false) (j:(a.2.toList==[100,101,102,97,117,108,116])=false):zbs C false q= .ok (a.1,⟨0,a.2,a.2,sNone⟩):=by
 rw[zbs,n,zz,asP,if_neg (by rw[h];decide),if_neg (by rw[j];decide)]
 rfl
theorem zb2 {w:World} {b:Nat} {t:TypeId} {o n j:Value} (h:w.heap[b]? =some (.cells #[o,n,j] t (0,0))):
  w.cell? ⟨b,0,none⟩=some o∧w.cell? ⟨b,1,none⟩=some n∧w.cell? ⟨b,2,none⟩=some j∧∀i,w.frozen? ⟨b,i,none⟩=false:=by
 refine⟨?_,?_,?_,fun i=>?_⟩<;>simp[World.cell?,World.frozen?,h]
theorem zji {w:World} {b:Nat} {A z q o n j:Value} {t:TypeId} (h:w.heap[b]? =some (.cells #[A,z,q] t (0,0))):
  (((w.setCell ⟨b,0,none⟩ o).setCell ⟨b,1,none⟩ n).setCell ⟨b,2,none⟩ j).heap[b]? =some (.cells #[o,n,j] t (0,0)):=by
 have e:=za9 (i:=2) (u:=j) (za9 (i:=1) (u:=n) (za9 (i:=0) (u:=o) h))
 rw[e]
 simp
theorem zoX (C:Cx) (I n j z:Nat) (S:Sv) (q:PS) (w:World) (h:IM C I n j z S q w):
  Calls Tryz.prog 197 #[.pointer (some ⟨z,0,none⟩)] w (zQ C I n j z (zbs C false q) (·.1) (fun a=>imV (zaU a.2)) S w):=by
 have K:=zc h
 have E:w.heap.size≠z:=by have:=h.lt;omega
 have A:w.heap.size≠I:=by have:=(zan h.mem.tok).1;omega
 clear h
 go_enter Tryz.func197,Tryz.ntmps197
 go_wp2_with fail
 refine (zeF C I n j z S q _ (K.out.alloc _)).mono ?_
 cases J:zj C true q with
 |error p=>
  rintro e w1 ⟨rfl,hb⟩
  have Z:Hid (Below j w w1):=(K.out.back ((IS.refl _ _ _).alloc _)).trans hb
  have M:Hid (zbs C false q= .error p):=by show _=_;rw[zbs,J];rfl
  unfold Pan
  go_wp2
  refine⟨rfl,?_⟩
  rw[M.out]
  exact⟨rfl,Z.out⟩
 |ok a=>
  rintro e w1 ⟨rfl,H,m,s⟩
  have Q:=zc m
  have O:=zc s
  clear m s
  cases U:isT C a.1.pos 1 sAs with
  |true=>
   have HY:=zc (zoU J U)
   go_wp2_with fail
   refine (zK C I n j z H a.1 1 sAs _ Q.out (by decide)).mono ?_
   rintro e X ⟨rfl,m,s⟩
   rw[U] at m ⊢
   have D:=zc m
   have o:Hid (IS z S (w.alloc (.cells #[.string sNone,.string sNone,.string sNone] 100)) H X):=O.out.trans s
   clear m s
   go_wp2_with fail
   refine (zdb C I n j z H (adv a.1) _ D.out).mono ?_
   cases aa:zj C false (adv a.1) with
   |error p=>
    rintro e V ⟨rfl,hb⟩
    have Z:Hid (Below j w V):=(K.out.back o.out.from).trans hb
    have M:Hid (zbs C false q= .error p):=bdE HY.out aa
    unfold Pan
    go_wp2
    refine⟨rfl,?_⟩
    rw[M.out]
    exact⟨rfl,Z.out⟩
   |ok c=>
    rintro e V ⟨rfl,S3,m,s⟩
    have ab:=zc m
    have N:Hid (IS z S (w.alloc (.cells #[.string sNone,.string sNone,.string sNone] 100)) S3 V):=o.out.trans s
    clear m s
    have M:=zc (bdO HY.out aa)
    have Y:Hid (V.heap[w.heap.size]? =some (.cells #[.string sNone,.string sNone,.string sNone] 100 (0,0))):=IS.kept K.out N.out rfl
    have L:Hid (¬S3.has w.heap.size):=IS.free K.out N.out
    obtain⟨b0,b1,b2,bf⟩:=zb2 Y.out
    go_wp2
    refine bodyPost_ret (results_cell_row rfl _ _ w.heap.size 100 _ (0,0) _ rfl (zji Y.out) Tryz.underlying100 rfl (by kernel_rfl)) rfl ?_
    rw[M.out]
    exact⟨rfl,S3,((ab.out.set E A L.out _ _).set E A L.out _ _).set E A L.out _ _,((N.out.from.new (Nat.le_refl _) _ _).new (Nat.le_refl _) _ _).new (Nat.le_refl _) _ _⟩
  |false=>
   cases hd:(a.2.toList==[100,101,102,97,117,108,116]) with
   |true=>
    have HY:=zc (zoV J U hd)
    go_wp2_with fail
    refine (zK C I n j z H a.1 1 sAs _ Q.out (by decide)).mono ?_
    rintro e X ⟨rfl,m,s⟩
    rw[U] at m ⊢
    have D:=zc m
    have o:Hid (IS z S (w.alloc (.cells #[.string sNone,.string sNone,.string sNone] 100)) H X):=O.out.trans s
    clear m s
    go_wp2_with fail
    refine (zdZ C I n j z H a.1 _ D.out).mono ?_
    rintro e V ⟨rfl,hb⟩
    have Z:Hid (Below j w V):=(K.out.back o.out.from).trans (hb.mono D.out.mem.base)
    unfold Pan
    go_wp2
    refine⟨rfl,?_⟩
    rw[HY.out]
    exact⟨rfl,Z.out⟩
   |false=>
    have M:=zc (zoW J U hd)
    go_wp2_with fail
    refine (zK C I n j z H a.1 1 sAs _ Q.out (by decide)).mono ?_
    rintro e X ⟨rfl,m,s⟩
    rw[U] at m ⊢
    have D:=zc m
    have o:Hid (IS z S (w.alloc (.cells #[.string sNone,.string sNone,.string sNone] 100)) H X):=O.out.trans s
    clear m s
    have Y:Hid (X.heap[w.heap.size]? =some (.cells #[.string sNone,.string sNone,.string sNone] 100 (0,0))):=IS.kept K.out o.out rfl
    have L:Hid (¬H.has w.heap.size):=IS.free K.out o.out
    obtain⟨b0,b1,b2,bf⟩:=zb2 Y.out
    go_wp2
    refine bodyPost_ret (results_cell_row rfl _ _ w.heap.size 100 _ (0,0) _ rfl (zji Y.out) Tryz.underlying100 rfl (by kernel_rfl)) rfl ?_
    rw[M.out]
    exact⟨rfl,H,((D.out.set E A L.out _ _).set E A L.out _ _).set E A L.out _ _,((o.out.from.new (Nat.le_refl _) _ _).new (Nat.le_refl _) _ _).new (Nat.le_refl _) _ _⟩
end Go.Proofs.YticdggnnpjachaaGreat
