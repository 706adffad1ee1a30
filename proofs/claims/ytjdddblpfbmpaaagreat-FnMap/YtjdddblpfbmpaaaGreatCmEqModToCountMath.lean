/-
  What impl's isSameMod answers: the walk.
  What l5Two,l5Sum,l5Side and l5Expr of the specification answer: the walks.
  What l5Expr of the specification answers of a product: the walk.
  What l5Expr of the specification answers,whole. No walk is zu.
  What importedName and importList of impl's parser answer: the walks.
  What l5As,l5Quote,l5Imp,l5Exp and l5Stmt of the specification answer: the walks.
  How often expressions are used,counted in a row of numbers. No program is spoken of.
-/
import Derived.Laws.StructEq
import Derived.Test.YtjdddblpfbmpaaaGreatCmSpecMapModToSameSpec
namespace Go.Proofs.YtjdddblpfbmpaaaGreat
set_option maxRecDepth 100000
set_option maxHeartbeats 12800000
open Go.RowKit Go.PlainAid Go.Sort
theorem zie (x y:Im) (w:World):Sem.run Tryz.prog (binOp .neq 84 (.agg #[.string x.spec,.string x.first,.string x.loc]) (.agg #[.string y.spec,.string y.first,.string y.loc])) w= .ok (.bool (!zcD x y)) w:=by
 have I:=Tryz.underlying9
 have L:=Tryz.isAgg9
 have J:=Tryz.sizeOf9
 have N:=Tryz.underlying3
 have M:=Tryz.isAgg3
 have O:=Tryz.sizeOf3
 have z:Tryz.prog.underlying 84=some (.struct (Tryz.prog.fieldsOf 84)):=by kernel_rfl
 have j:Tryz.prog.stoodInHeld 84=false:=by kernel_rfl
 rw[run_neq_struct,show (10000:Nat)=9999+1 from rfl,run_equalIn_agg w 9999 84 _ _ z j]
 simp only[Program.fieldsOf,Tryz.underlying84]
 go_simp
 by_cases H:x.spec.toList=y.spec.toList<;>by_cases A:x.first.toList=y.first.toList<;>by_cases q:x.loc.toList=y.loc.toList<;>simp[zcD,H,A,q]
theorem zif (j:BinOp) (a b:Operand) (x y:Im) (w:World):Sem.run Tryz.prog (eqGuard j 84 a b (.agg #[.string x.spec,.string x.first,.string x.loc]) (.agg #[.string y.spec,.string y.first,.string y.loc])) w= .ok () w:=run_eqGuard_agg w j 84 a b _ _ (by kernel_rfl)
theorem zig (x y:Ep) (w:World):Sem.run Tryz.prog (binOp .neq 86 (.agg #[.int .i64 x.kind,.string x.name,.string x.loc,.string x.spec]) (.agg #[.int .i64 y.kind,.string y.name,.string y.loc,.string y.spec])) w= .ok (.bool (!zcE x y)) w:=by
 have J:=Tryz.underlying9
 have M:=Tryz.isAgg9
 have L:=Tryz.sizeOf9
 have O:=Tryz.underlying3
 have N:=Tryz.isAgg3
 have U:=Tryz.sizeOf3
 have z:Tryz.prog.underlying 86=some (.struct (Tryz.prog.fieldsOf 86)):=by kernel_rfl
 have j:Tryz.prog.stoodInHeld 86=false:=by kernel_rfl
 rw[run_neq_struct,show (10000:Nat)=9999+1 from rfl,run_equalIn_agg w 9999 86 _ _ z j]
 simp only[Program.fieldsOf,Tryz.underlying86]
 go_simp
 by_cases H:x.kind=y.kind<;>by_cases A:x.name.toList=y.name.toList<;>by_cases q:x.loc.toList=y.loc.toList<;>by_cases I:x.spec.toList=y.spec.toList<;>simp[zcE,H,A,q,I]
theorem zih (j:BinOp) (a b:Operand) (x y:Ep) (w:World):Sem.run Tryz.prog (eqGuard j 86 a b (.agg #[.int .i64 x.kind,.string x.name,.string x.loc,.string x.spec]) (.agg #[.int .i64 y.kind,.string y.name,.string y.loc,.string y.spec])) w= .ok () w:=run_eqGuard_agg w j 86 a b _ _ (by kernel_rfl)
theorem zii (x y:Sm) (w:World):Sem.run Tryz.prog (binOp .neq 107 (.agg #[.int .i64 x.kind,.string x.name,.int .i64 x.expr]) (.agg #[.int .i64 y.kind,.string y.name,.int .i64 y.expr])) w= .ok (.bool (!zcF x y)) w:=by
 have I:=Tryz.underlying9
 have L:=Tryz.isAgg9
 have J:=Tryz.sizeOf9
 have N:=Tryz.underlying3
 have M:=Tryz.isAgg3
 have O:=Tryz.sizeOf3
 have z:Tryz.prog.underlying 107=some (.struct (Tryz.prog.fieldsOf 107)):=by kernel_rfl
 have j:Tryz.prog.stoodInHeld 107=false:=by kernel_rfl
 rw[run_neq_struct,show (10000:Nat)=9999+1 from rfl,run_equalIn_agg w 9999 107 _ _ z j]
 simp only[Program.fieldsOf,Tryz.underlying107]
 go_simp
 by_cases H:x.kind=y.kind<;>by_cases A:x.name.toList=y.name.toList<;>by_cases q:x.expr=y.expr<;>simp[zcF,H,A,q]
theorem zij (j:BinOp) (a b:Operand) (x y:Sm) (w:World):Sem.run Tryz.prog (eqGuard j 107 a b (.agg #[.int .i64 x.kind,.string x.name,.int .i64 x.expr]) (.agg #[.int .i64 y.kind,.string y.name,.int .i64 y.expr])) w= .ok () w:=run_eqGuard_agg w j 107 a b _ _ (by kernel_rfl)
theorem zik (x y:Ex) (w:World):Sem.run Tryz.prog (binOp .neq 109 (.agg #[.int .i64 x.kind,.int .i64 x.num,.string x.name,.string x.field,.int .i64 x.l,.int .i64 x.r]) (.agg #[.int .i64 y.kind,.int .i64 y.num,.string y.name,.string y.field,.int .i64 y.l,.int .i64 y.r])) w= .ok (.bool (!zcG x y)) w:=by
 have M:=Tryz.underlying9
 have O:=Tryz.isAgg9
 have N:=Tryz.sizeOf9
 have V:=Tryz.underlying3
 have U:=Tryz.isAgg3
 have X:=Tryz.sizeOf3
 have z:Tryz.prog.underlying 109=some (.struct (Tryz.prog.fieldsOf 109)):=by kernel_rfl
 have j:Tryz.prog.stoodInHeld 109=false:=by kernel_rfl
 rw[run_neq_struct,show (10000:Nat)=9999+1 from rfl,run_equalIn_agg w 9999 109 _ _ z j]
 simp only[Program.fieldsOf,Tryz.underlying109]
 go_simp
 by_cases J:x.kind=y.kind<;>by_cases H:x.num=y.num<;>by_cases q:x.name.toList=y.name.toList<;>by_cases L:x.field.toList=y.field.toList<;>by_cases A:x.l=y.l<;>by_cases I:x.r=y.r<;>simp[zcG,J,H,q,L,A,I]
theorem zil (j:BinOp) (a b:Operand) (x y:Ex) (w:World):Sem.run Tryz.prog (eqGuard j 109 a b (.agg #[.int .i64 x.kind,.int .i64 x.num,.string x.name,.string x.field,.int .i64 x.l,.int .i64 x.r]) (.agg #[.int .i64 y.kind,.int .i64 y.num,.string y.name,.string y.field,.int .i64 y.l,.int .i64 y.r])) w= .ok () w:=run_eqGuard_agg w j 109 a b _ _ (by kernel_rfl)
theorem zkS (b1 b2:Nat) (S1 S2:Sv) (z J:Md) (w:World) (h1:OwnMd w b1 S1 z) (h2:OwnMd w b2 S2 J) (hf:zee z):
  Calls Tryz.prog 91 #[zp S1 z,zp S2 J] w fun e w'=>zbV (z=J) e∧Below w.heap.size w w':=by
 have H1:=zc h1
 have H2:=zc h2
 have HF:=zc hf
 clear h1 h2 hf
 unfold zp
 go_enter Tryz.func91,Tryz.ntmps91
 go_upto_region 1 with fail
 refine zac (R:=TwoM w b1 b2 S1 S2 z J) (zh9 w b1 b2 S1 S2 z J H1.out H2.out) ?_
 clear H1 H2
 intro w0 h
 have T0:=zc h
 clear h
 obtain⟨Z,M,O,X,N,V⟩:=zg T0.out.1
 obtain⟨U,L,A,H,Y,I⟩:=zg T0.out.2.1
 go_wp2_with fail
 refine (znR b1 b2 S1.rq S2.rq z.rq J.rq w0 (by rw[←zeD];exact T0.out.2.2.1.rq) (by rw[←zeD];exact T0.out.2.2.2.1.rq) HF.out.1).mono ?_
 rintro e w1 ⟨⟨r,rfl,q⟩,j⟩
 have T1:=zc (T0.out.later j)
 have R0:=zc q
 clear j q Z M O X N V U L A H Y I
 obtain⟨Z,M,O,X,N,V⟩:=zg T1.out.1
 obtain⟨U,L,A,H,Y,I⟩:=zg T1.out.2.1
 cases r with
 |false=>
  go_wp2
  go_ret
  exact⟨⟨false,rfl,⟨fun k=>(by cases k),fun k=>(by have:=R0.out.2 (by rw[k]);cases this)⟩⟩,T1.out.2.2.2.2⟩
 |true=>
  go_wp2_with fail
  refine (znV zie zif b1 b2 S1.im S2.im z.im J.im w1 T1.out.2.2.1.im T1.out.2.2.2.1.im HF.out.2.1).mono ?_
  rintro e w2 ⟨⟨r,rfl,q⟩,j⟩
  have T2:=zc (T1.out.later j)
  have R1:=zc q
  clear j q Z M O X N V U L A H Y I
  obtain⟨Z,M,O,X,N,V⟩:=zg T2.out.1
  obtain⟨U,L,A,H,Y,I⟩:=zg T2.out.2.1
  cases r with
  |false=>
   go_wp2
   go_ret
   exact⟨⟨false,rfl,⟨fun k=>(by cases k),fun k=>(by have:=R1.out.2 (by rw[k]);cases this)⟩⟩,T2.out.2.2.2.2⟩
  |true=>
   go_wp2_with fail
   refine (znZ zig zih b1 b2 S1.ep S2.ep z.ep J.ep w2 T2.out.2.2.1.ep T2.out.2.2.2.1.ep HF.out.2.2.1).mono ?_
   rintro e w3 ⟨⟨r,rfl,q⟩,j⟩
   have T3:=zc (T2.out.later j)
   have R2:=zc q
   clear j q Z M O X N V U L A H Y I
   obtain⟨Z,M,O,X,N,V⟩:=zg T3.out.1
   obtain⟨U,L,A,H,Y,I⟩:=zg T3.out.2.1
   cases r with
   |false=>
    go_wp2
    go_ret
    exact⟨⟨false,rfl,⟨fun k=>(by cases k),fun k=>(by have:=R2.out.2 (by rw[k]);cases this)⟩⟩,T3.out.2.2.2.2⟩
   |true=>
    go_wp2_with fail
    refine (zod zii zij b1 b2 S1.st S2.st z.st J.st w3 T3.out.2.2.1.st T3.out.2.2.2.1.st HF.out.2.2.2.1).mono ?_
    rintro e w4 ⟨⟨r,rfl,q⟩,j⟩
    have T4:=zc (T3.out.later j)
    have R3:=zc q
    clear j q Z M O X N V U L A H Y I
    obtain⟨Z,M,O,X,N,V⟩:=zg T4.out.1
    obtain⟨U,L,A,H,Y,I⟩:=zg T4.out.2.1
    cases r with
    |false=>
     go_wp2
     go_ret
     exact⟨⟨false,rfl,⟨fun k=>(by cases k),fun k=>(by have:=R3.out.2 (by rw[k]);cases this)⟩⟩,T4.out.2.2.2.2⟩
    |true=>
     go_wp2_with fail
     refine (zoh zik zil b1 b2 S1.ex S2.ex z.ex J.ex w4 T4.out.2.2.1.ex T4.out.2.2.2.1.ex HF.out.2.2.2.2).mono ?_
     rintro e w5 ⟨⟨r,rfl,q⟩,j⟩
     have T5:=zc (T4.out.later j)
     have R4:=zc q
     clear j q Z M O X N V U L A H Y I
     obtain⟨Z,M,O,X,N,V⟩:=zg T5.out.1
     obtain⟨U,L,A,H,Y,I⟩:=zg T5.out.2.1
     cases r with
     |false=>
      go_wp2
      go_ret
      exact⟨⟨false,rfl,⟨fun k=>(by cases k),fun k=>(by have:=R4.out.2 (by rw[k]);cases this)⟩⟩,T5.out.2.2.2.2⟩
     |true=>
      go_wp2
      go_ret
      exact⟨⟨true,rfl,⟨fun _=>zj1 (R0.out.1 (by simp)) (R1.out.1 (by simp)) (R2.out.1 (by simp)) (R3.out.1 (by simp)) (R4.out.1 (by simp)),fun _=>rfl⟩⟩,T5.out.2.2.2.2⟩
theorem zkT (k:Int) (w:World):Calls Tryz.prog 115 #[.int .i64 k] w fun e w'=>e= .returned (.bool (zaa k))∧w'=w:=by
 cases q:(k==6) with
 |true=>
  have j:Hid (zaa k=true):=by show _=_;rw[zaa,q];rfl
  go_enter Tryz.func115,Tryz.ntmps115
  go_wp2
  go_ret
  exact⟨zh j.out.symm,rfl⟩
 |false=>
  cases z:(k==7) with
  |true=>
   have j:Hid (zaa k=true):=by show _=_;rw[zaa,q,z];rfl
   go_enter Tryz.func115,Tryz.ntmps115
   go_wp2
   go_ret
   exact⟨zh j.out.symm,rfl⟩
  |false=>
   have j:Hid (zaa k=(k==8)):=by show _=_;rw[zaa,q,z];simp
   go_enter Tryz.func115,Tryz.ntmps115
   go_wp2
   go_ret
   exact⟨zh j.out.symm,rfl⟩
theorem zim (j:Nat) (S:Sv) (m:Md) (i:Nat) (w:World) (h:OwnMd w j S m) (H:i<m.ex.length):
  Calls Tryz.prog 155 #[zp S m,.int .i64 i] w fun e w'=>e= .returned (.bool (zR (m.ex.getD i zi).kind))∧Below w.heap.size w w':=by
 obtain⟨g,hg,hlt,c0,-,-,-,-,-⟩:=h.expr H
 have A:(i:Int)<(m.ex.length:Int):=by omega
 unfold zp
 rw[hg]
 generalize (m.ex.getD i zi).kind=k at c0 ⊢
 clear h hg
 cases z:(k==6) with
 |true=>
  have q:Hid (zR k=true):=by show _=_;rw[zR,z];rfl
  go_enter Tryz.func155,Tryz.ntmps155
  go_wp2
  go_ret
  exact⟨zh q.out.symm,(Below.refl _ _).alloc (Nat.le_refl _) _⟩
 |false=>
  have q:Hid (zR k=(k==7)):=by show _=_;rw[zR,z];simp
  go_enter Tryz.func155,Tryz.ntmps155
  go_wp2
  go_ret
  exact⟨zh q.out.symm,(Below.refl _ _).alloc (Nat.le_refl _) _⟩
def zeO (base:Nat) (S:Sv) (m:Md) (n:Nat):Prop:=∀(i:Nat) (w:World),i<n→i<m.ex.length→OwnMd w base S m→wt m.ex i≤1099511627776→
 Calls Tryz.prog 117 #[zp S m,.int .i64 i] w fun e w'=>e= .returned (.string (prX m.ex i))∧Below w.heap.size w w'
theorem zgH (j:Nat) (S:Sv) (m:Md) (n i:Nat) (b:Bool) (w:World) (J:zeO j S m n) (M:i<n) (U:i<m.ex.length) (h:OwnMd w j S m) (A:wt m.ex i≤1099511627776):
  Calls Tryz.prog 154 #[zp S m,.int .i64 i,.bool b] w fun e w'=>e= .returned (.string (zJ b (prX m.ex i)))∧Below w.heap.size w w':=by
 have O:=zc J
 have L:=zc h
 have V:=zc A
 unfold wt at A
 clear J h
 unfold zp
 cases b with
 |true=>
  have z:Hid (zJ true (prX m.ex i)=zr++prX m.ex i++za8):=rfl
  go_enter Tryz.func154,Tryz.ntmps154
  go_wp2_with fail
  refine (O.out i _ M U (L.out.alloc _) V.out).mono ?_
  rintro e H ⟨rfl,q⟩
  have I:Hid (Below w.heap.size w H):=((Below.refl _ _).alloc (Nat.le_refl _) _).trans (q.mono (by rw[zl];omega))
  clear q
  generalize N:prX m.ex i=t at A z ⊢
  have X:=zc N
  clear N
  go_wp2
  go_ret
  exact⟨zar (by rw[X.out];exact z.out.symm),I.out⟩
 |false=>
  have z:Hid (zJ false (prX m.ex i)=prX m.ex i):=rfl
  go_enter Tryz.func154,Tryz.ntmps154
  go_wp2_with fail
  refine (O.out i _ M U (L.out.alloc _) V.out).mono ?_
  rintro e H ⟨rfl,q⟩
  have I:Hid (Below w.heap.size w H):=((Below.refl _ _).alloc (Nat.le_refl _) _).trans (q.mono (by rw[zl];omega))
  clear q
  go_wp2
  go_ret
  exact⟨zar z.out.symm,I.out⟩
theorem zr7 (g:Nat) (S:Sv) (m:Md) (i:Nat) (k j l r:Int) (nm M:ByteArray) (w:World) (q:S.ex.a=some ⟨g,0,none⟩) (U:i<m.ex.length) (I:g<w.heap.size) (V:w.cell? ⟨g,i*6,none⟩=some (.int .i64 k)) (X:w.cell? ⟨g,i*6+1,none⟩=some (.int .i64 j)) (O:w.cell? ⟨g,i*6+2,none⟩=some (.string nm)) (c3:w.cell? ⟨g,i*6+3,none⟩=some (.string M)) (c4:w.cell? ⟨g,i*6+4,none⟩=some (.int .i64 l)) (c5:w.cell? ⟨g,i*6+5,none⟩=some (.int .i64 r)) (N:(k==1)=true) (z: -9223372036854775808≤j∧j≤9223372036854775807):
  Calls Tryz.prog 117 #[zp S m,.int .i64 i] w fun e w'=>e= .returned (.string (strOfNums (zbR j)))∧Below w.heap.size w w':=by
 have L:(i:Int)<(m.ex.length:Int):=by omega
 unfold zp
 rw[q]
 clear q
 go_enter Tryz.func117,Tryz.ntmps117
 go_wp2_with fail
 refine (zhM j _ z).mono ?_
 rintro e H ⟨rfl,A⟩
 have J:Hid (Below w.heap.size w H):=(zbc w _ _).trans (A.mono (by rw[zl,zl];omega))
 clear A
 go_wp2
 go_ret
 exact⟨rfl,J.out⟩
theorem zr8 (g:Nat) (S:Sv) (m:Md) (i:Nat) (k z l r:Int) (nm H:ByteArray) (w:World) (j:S.ex.a=some ⟨g,0,none⟩) (M:i<m.ex.length) (q:g<w.heap.size) (N:w.cell? ⟨g,i*6,none⟩=some (.int .i64 k)) (O:w.cell? ⟨g,i*6+1,none⟩=some (.int .i64 z)) (J:w.cell? ⟨g,i*6+2,none⟩=some (.string nm)) (c3:w.cell? ⟨g,i*6+3,none⟩=some (.string H)) (c4:w.cell? ⟨g,i*6+4,none⟩=some (.int .i64 l)) (c5:w.cell? ⟨g,i*6+5,none⟩=some (.int .i64 r)) (I:(k==1)=false) (L:(k==2)=true):
  Calls Tryz.prog 117 #[zp S m,.int .i64 i] w fun e w'=>e= .returned (.string (nm))∧Below w.heap.size w w':=by
 have A:(i:Int)<(m.ex.length:Int):=by omega
 unfold zp
 rw[j]
 clear j
 go_enter Tryz.func117,Tryz.ntmps117
 go_wp2
 go_ret
 exact⟨rfl,((Below.refl _ _).alloc (Nat.le_refl _) _).alloc (by show _≤(w.heap.push _).size;simp) _⟩
theorem zr9 (g:Nat) (S:Sv) (m:Md) (i:Nat) (k I l r:Int) (nm H:ByteArray) (w:World) (j:S.ex.a=some ⟨g,0,none⟩) (V:i<m.ex.length) (A:g<w.heap.size) (Y:w.cell? ⟨g,i*6,none⟩=some (.int .i64 k)) (X:w.cell? ⟨g,i*6+1,none⟩=some (.int .i64 I)) (N:w.cell? ⟨g,i*6+2,none⟩=some (.string nm)) (c3:w.cell? ⟨g,i*6+3,none⟩=some (.string H)) (c4:w.cell? ⟨g,i*6+4,none⟩=some (.int .i64 l)) (c5:w.cell? ⟨g,i*6+5,none⟩=some (.int .i64 r)) (M:(k==1)=false) (O:(k==2)=false) (U:(k==3)=true) (q:(nm++cParens).size≤1099511627776):
  Calls Tryz.prog 117 #[zp S m,.int .i64 i] w fun e w'=>e= .returned (.string (nm++cParens))∧Below w.heap.size w w':=by
 have J:(i:Int)<(m.ex.length:Int):=by omega
 unfold zp
 rw[j]
 clear j
 simp only[ByteArray.size_append] at q
 have z:cParens.size=2:=rfl
 have L:nm.size≤1099511627776:=by omega
 clear q z
 go_enter Tryz.func117,Tryz.ntmps117
 go_wp2
 go_ret
 exact⟨rfl,((Below.refl _ _).alloc (Nat.le_refl _) _).alloc (by show _≤(w.heap.push _).size;simp) _⟩
theorem zrA (g:Nat) (S:Sv) (m:Md) (i:Nat) (k J l r:Int) (nm z:ByteArray) (w:World) (j:S.ex.a=some ⟨g,0,none⟩) (X:i<m.ex.length) (H:g<w.heap.size) (Z:w.cell? ⟨g,i*6,none⟩=some (.int .i64 k)) (c1:w.cell? ⟨g,i*6+1,none⟩=some (.int .i64 J)) (O:w.cell? ⟨g,i*6+2,none⟩=some (.string nm)) (c3:w.cell? ⟨g,i*6+3,none⟩=some (.string z)) (c4:w.cell? ⟨g,i*6+4,none⟩=some (.int .i64 l)) (c5:w.cell? ⟨g,i*6+5,none⟩=some (.int .i64 r)) (N:(k==1)=false) (U:(k==2)=false) (V:(k==3)=false) (Y:(k==4)=true) (q:(nm++cPoint++z).size≤1099511627776):
  Calls Tryz.prog 117 #[zp S m,.int .i64 i] w fun e w'=>e= .returned (.string (nm++cPoint++z))∧Below w.heap.size w w':=by
 have L:(i:Int)<(m.ex.length:Int):=by omega
 unfold zp
 rw[j]
 clear j
 simp only[ByteArray.size_append] at q
 have A:cPoint.size=1:=rfl
 have M:nm.size≤1099511627776:=by omega
 have I:z.size≤1099511627776:=by omega
 clear q A
 go_enter Tryz.func117,Tryz.ntmps117
 go_wp2
 go_ret
 exact⟨rfl,((Below.refl _ _).alloc (Nat.le_refl _) _).alloc (by show _≤(w.heap.push _).size;simp) _⟩
theorem zrB (g:Nat) (S:Sv) (m:Md) (i:Nat) (k J l r:Int) (nm z:ByteArray) (w:World) (q:S.ex.a=some ⟨g,0,none⟩) (Z:i<m.ex.length) (I:g<w.heap.size) (c0:w.cell? ⟨g,i*6,none⟩=some (.int .i64 k)) (X:w.cell? ⟨g,i*6+1,none⟩=some (.int .i64 J)) (Y:w.cell? ⟨g,i*6+2,none⟩=some (.string nm)) (c3:w.cell? ⟨g,i*6+3,none⟩=some (.string z)) (c4:w.cell? ⟨g,i*6+4,none⟩=some (.int .i64 l)) (c5:w.cell? ⟨g,i*6+5,none⟩=some (.int .i64 r)) (O:(k==1)=false) (k2:(k==2)=false) (U:(k==3)=false) (k4:(k==4)=false) (V:(k==5)=true) (j:(nm++cPoint++z++cParens).size≤1099511627776):
  Calls Tryz.prog 117 #[zp S m,.int .i64 i] w fun e w'=>e= .returned (.string (nm++cPoint++z++cParens))∧Below w.heap.size w w':=by
 have L:(i:Int)<(m.ex.length:Int):=by omega
 unfold zp
 rw[q]
 clear q
 simp only[ByteArray.size_append] at j
 have H:cParens.size=2:=rfl
 have A:cPoint.size=1:=rfl
 have M:nm.size≤1099511627776:=by omega
 have N:z.size≤1099511627776:=by omega
 clear j H A
 go_enter Tryz.func117,Tryz.ntmps117
 go_wp2
 go_ret
 exact⟨rfl,((Below.refl _ _).alloc (Nat.le_refl _) _).alloc (by show _≤(w.heap.push _).size;simp) _⟩
theorem zrC (g:Nat) (S:Sv) (m:Md) (i:Nat) (k z l r:Int) (nm H:ByteArray) (w:World) (j:S.ex.a=some ⟨g,0,none⟩) (U:i<m.ex.length) (q:g<w.heap.size) (N:w.cell? ⟨g,i*6,none⟩=some (.int .i64 k)) (c1:w.cell? ⟨g,i*6+1,none⟩=some (.int .i64 z)) (J:w.cell? ⟨g,i*6+2,none⟩=some (.string nm)) (c3:w.cell? ⟨g,i*6+3,none⟩=some (.string H)) (c4:w.cell? ⟨g,i*6+4,none⟩=some (.int .i64 l)) (c5:w.cell? ⟨g,i*6+5,none⟩=some (.int .i64 r)) (I:(k==1)=false) (L:(k==2)=false) (M:(k==3)=false) (X:(k==4)=false) (Y:(k==5)=false) (O:(k==6)=false) (Z:(k==7)=false) (V:(k==8)=false):
  Calls Tryz.prog 117 #[zp S m,.int .i64 i] w fun e w'=>e= .returned (.string (sNone))∧Below w.heap.size w w':=by
 have A:(i:Int)<(m.ex.length:Int):=by omega
 unfold zp
 rw[j]
 clear j
 go_enter Tryz.func117,Tryz.ntmps117
 go_wp2
 go_ret
 exact⟨rfl,((Below.refl _ _).alloc (Nat.le_refl _) _).alloc (by show _≤(w.heap.push _).size;simp) _⟩
theorem zrD (z g:Nat) (S:Sv) (m:Md) (i q j:Nat) (k A:Int) (nm H:ByteArray) (w:World) (M:S.ex.a=some ⟨g,0,none⟩) (h:OwnMd w z S m) (hi:i<m.ex.length) (ad:g<w.heap.size) (c0:w.cell? ⟨g,i*6,none⟩=some (.int .i64 k)) (c1:w.cell? ⟨g,i*6+1,none⟩=some (.int .i64 A)) (c2:w.cell? ⟨g,i*6+2,none⟩=some (.string nm)) (c3:w.cell? ⟨g,i*6+3,none⟩=some (.string H)) (c4:w.cell? ⟨g,i*6+4,none⟩=some (.int .i64 (q:Int))) (c5:w.cell? ⟨g,i*6+5,none⟩=some (.int .i64 (j:Int))) (k1:(k==1)=false) (k2:(k==2)=false) (k3:(k==3)=false) (k4:(k==4)=false) (k5:(k==5)=false) (k6:(k==6)=true) (Z:(prX m.ex q++tPlus++zJ (zR (m.ex.getD j zi).kind) (prX m.ex j)).size≤1099511627776) (he:zeO z S m i) (hl:q<i) (hr:j<i) (af:wt m.ex q≤1099511627776) (ai:wt m.ex j≤1099511627776):
  Calls Tryz.prog 117 #[zp S m,.int .i64 i] w fun e w'=>e= .returned (.string (prX m.ex q++tPlus++zJ (zR (m.ex.getD j zi).kind) (prX m.ex j)))∧Below w.heap.size w w':=by
 have am:(i:Int)<(m.ex.length:Int):=by omega
 have HA:Hid (OwnMd ((w.alloc (.cells #[.slice S.rq.a m.rq.length S.rq.cap,.slice S.im.a m.im.length S.im.cap,.slice S.ep.a m.ep.length S.ep.cap,.slice S.st.a m.st.length S.st.cap,.slice (some ⟨g,0,none⟩) m.ex.length S.ex.cap] 36)).alloc (.cells #[.int .i64 k,.int .i64 A,.string nm,.string H,.int .i64 (q:Int),.int .i64 (j:Int)] 109)) z S m):=(h.alloc _).alloc _
 have HE:=zc he
 have L:Hid (zp S m= .agg #[.slice S.rq.a m.rq.length S.rq.cap,.slice S.im.a m.im.length S.im.cap,.slice S.ep.a m.ep.length S.ep.cap,.slice S.st.a m.st.length S.st.cap,.slice (some ⟨g,0,none⟩) m.ex.length S.ex.cap]):=by show _=_;rw[zp,M]
 have an:(q:Int)<(m.ex.length:Int):=by omega
 have ao:(j:Int)<(m.ex.length:Int):=by omega
 obtain⟨g2,hg2,-,d0,-,-,-,-,-⟩:=h.expr (i:=j) (by omega)
 have eg:g2=g:=by have:=hg2.symm.trans M;simpa using this
 rw[eg] at d0
 obtain⟨kr,U⟩: ∃kr,(m.ex.getD j zi).kind=kr:=⟨_,rfl⟩
 rw[U] at d0
 have O:=zc U
 obtain⟨tl,V⟩: ∃tl,prX m.ex q=tl:=⟨_,rfl⟩
 obtain⟨tr,ab⟩: ∃tr,zJ (zR (m.ex.getD j zi).kind) (prX m.ex j)=tr:=⟨_,rfl⟩
 rw[V,ab] at Z
 have ac:=zc V
 have aa:=zc ab
 have cL: ∀d I,Calls Tryz.prog 117 #[.agg #[.slice S.rq.a m.rq.length S.rq.cap,.slice S.im.a m.im.length S.im.cap,.slice S.ep.a m.ep.length S.ep.cap,.slice S.st.a m.st.length S.st.cap,.slice (some ⟨g,0,none⟩) m.ex.length S.ex.cap],.int .i64 (q:Int)] (grow (redrawn ((w.alloc (.cells #[.slice S.rq.a m.rq.length S.rq.cap,.slice S.im.a m.im.length S.im.cap,.slice S.ep.a m.ep.length S.ep.cap,.slice S.st.a m.st.length S.st.cap,.slice (some ⟨g,0,none⟩) m.ex.length S.ex.cap] 36)).alloc (.cells #[.int .i64 k,.int .i64 A,.string nm,.string H,.int .i64 (q:Int),.int .i64 (j:Int)] 109)) d) I) fun e J=>e= .returned (.string tl)∧∃p:Regrown,J=grow (redrawn ((w.alloc (.cells #[.slice S.rq.a m.rq.length S.rq.cap,.slice S.im.a m.im.length S.im.cap,.slice S.ep.a m.ep.length S.ep.cap,.slice S.st.a m.st.length S.st.cap,.slice (some ⟨g,0,none⟩) m.ex.length S.ex.cap] 36)).alloc (.cells #[.int .i64 k,.int .i64 A,.string nm,.string H,.int .i64 (q:Int),.int .i64 (j:Int)] 109)) p.d) p.os:=fun d I=>Calls.regrown_of (by rw[←L.out,←ac.out];exact HE.out q _ (by omega) (by omega) (HA.out.later (below_regrown _ d I)) af)
 have cS: ∀d I,Calls Tryz.prog 155 #[.agg #[.slice S.rq.a m.rq.length S.rq.cap,.slice S.im.a m.im.length S.im.cap,.slice S.ep.a m.ep.length S.ep.cap,.slice S.st.a m.st.length S.st.cap,.slice (some ⟨g,0,none⟩) m.ex.length S.ex.cap],.int .i64 (j:Int)] (grow (redrawn ((w.alloc (.cells #[.slice S.rq.a m.rq.length S.rq.cap,.slice S.im.a m.im.length S.im.cap,.slice S.ep.a m.ep.length S.ep.cap,.slice S.st.a m.st.length S.st.cap,.slice (some ⟨g,0,none⟩) m.ex.length S.ex.cap] 36)).alloc (.cells #[.int .i64 k,.int .i64 A,.string nm,.string H,.int .i64 (q:Int),.int .i64 (j:Int)] 109)) d) I) fun e J=>e= .returned (.bool (zR kr))∧∃p:Regrown,J=grow (redrawn ((w.alloc (.cells #[.slice S.rq.a m.rq.length S.rq.cap,.slice S.im.a m.im.length S.im.cap,.slice S.ep.a m.ep.length S.ep.cap,.slice S.st.a m.st.length S.st.cap,.slice (some ⟨g,0,none⟩) m.ex.length S.ex.cap] 36)).alloc (.cells #[.int .i64 k,.int .i64 A,.string nm,.string H,.int .i64 (q:Int),.int .i64 (j:Int)] 109)) p.d) p.os:=fun d I=>Calls.regrown_of (by rw[←L.out,←O.out];exact zim z S m j _ (HA.out.later (below_regrown _ d I)) (by omega))
 have cR: ∀d I,Calls Tryz.prog 154 #[.agg #[.slice S.rq.a m.rq.length S.rq.cap,.slice S.im.a m.im.length S.im.cap,.slice S.ep.a m.ep.length S.ep.cap,.slice S.st.a m.st.length S.st.cap,.slice (some ⟨g,0,none⟩) m.ex.length S.ex.cap],.int .i64 (j:Int),.bool (zR kr)] (grow (redrawn ((w.alloc (.cells #[.slice S.rq.a m.rq.length S.rq.cap,.slice S.im.a m.im.length S.im.cap,.slice S.ep.a m.ep.length S.ep.cap,.slice S.st.a m.st.length S.st.cap,.slice (some ⟨g,0,none⟩) m.ex.length S.ex.cap] 36)).alloc (.cells #[.int .i64 k,.int .i64 A,.string nm,.string H,.int .i64 (q:Int),.int .i64 (j:Int)] 109)) d) I) fun e J=>e= .returned (.string tr)∧∃p:Regrown,J=grow (redrawn ((w.alloc (.cells #[.slice S.rq.a m.rq.length S.rq.cap,.slice S.im.a m.im.length S.im.cap,.slice S.ep.a m.ep.length S.ep.cap,.slice S.st.a m.st.length S.st.cap,.slice (some ⟨g,0,none⟩) m.ex.length S.ex.cap] 36)).alloc (.cells #[.int .i64 k,.int .i64 A,.string nm,.string H,.int .i64 (q:Int),.int .i64 (j:Int)] 109)) p.d) p.os:=fun d I=>Calls.regrown_of (by rw[←L.out,←aa.out,O.out];exact zgH z S m i j _ _ HE.out (by omega) (by omega) (HA.out.later (below_regrown _ d I)) ai)
 have X:Hid (Six ((w.alloc (.cells #[.slice S.rq.a m.rq.length S.rq.cap,.slice S.im.a m.im.length S.im.cap,.slice S.ep.a m.ep.length S.ep.cap,.slice S.st.a m.st.length S.st.cap,.slice (some ⟨g,0,none⟩) m.ex.length S.ex.cap] 36)).alloc (.cells #[.int .i64 k,.int .i64 A,.string nm,.string H,.int .i64 (q:Int),.int .i64 (j:Int)] 109)) (w.heap.size+1) (.int .i64 k) (.int .i64 A) (.string nm) (.string H) (.int .i64 (q:Int)) (.int .i64 (j:Int))):=zx (new2 w _ _)
 have Y:=zc (zg (zcA (o':=.cells #[.int .i64 k,.int .i64 A,.string nm,.string H,.int .i64 (q:Int),.int .i64 (j:Int)] 109) (heap_alloc_new w (.cells #[.slice S.rq.a m.rq.length S.rq.cap,.slice S.im.a m.im.length S.im.cap,.slice S.ep.a m.ep.length S.ep.cap,.slice S.st.a m.st.length S.st.cap,.slice (some ⟨g,0,none⟩) m.ex.length S.ex.cap] 36))))
 have D0:Hid (((w.alloc (.cells #[.slice S.rq.a m.rq.length S.rq.cap,.slice S.im.a m.im.length S.im.cap,.slice S.ep.a m.ep.length S.ep.cap,.slice S.st.a m.st.length S.st.cap,.slice (some ⟨g,0,none⟩) m.ex.length S.ex.cap] 36)).alloc (.cells #[.int .i64 k,.int .i64 A,.string nm,.string H,.int .i64 (q:Int),.int .i64 (j:Int)] 109)).cell? ⟨g,j*6,none⟩=some (.int .i64 kr)):=by show _=_;rw[World.cell?_alloc_past _ _ _ (by rw[zl];omega),World.cell?_alloc_past _ _ _ ad];exact d0
 simp only[ByteArray.size_append] at Z
 have ag:tPlus.size=3:=rfl
 have ak:tl.size≤1099511627776:=by omega
 have al:tr.size≤1099511627776:=by omega
 have HV:Hid ((prX m.ex q++tPlus++zJ (zR (m.ex.getD j zi).kind) (prX m.ex j))=tl++tPlus++tr):=by show _=_;rw[ac.out,aa.out]
 unfold zp
 rw[M]
 clear M h HA HE L ac aa V ab U O hg2 he Z ag d0 eg
 go_enter Tryz.func117,Tryz.ntmps117
 go_wp2_with fail
 have x0:=cell_regrown X.out.c0
 have x4:=cell_regrown X.out.c4
 have x5:=cell_regrown X.out.c5
 have y0:=cell_regrown Y.out.1
 have y1:=cell_regrown Y.out.2.1
 have y2:=cell_regrown Y.out.2.2.1
 have y3:=cell_regrown Y.out.2.2.2.1
 have y4:=cell_regrown Y.out.2.2.2.2.1
 have e0:=cell_regrown D0.out
 refine wp_region_quiet_below (by kernel_rfl) (by kernel_rfl) ?_
 repeat (go_big_quiet_step (first|with_reducible exact cL _ _|with_reducible exact cS _ _|with_reducible exact cR _ _))
 refine wpQuiet_nil ?_
 intro w1 ae
 obtain⟨⟨dq,aj⟩,N⟩:=ae
 have ah:Hid (Below w.heap.size w w1):=by show Below _ _ _;rw[N];exact (zbc w _ _).trans ((below_regrown _ _ _).mono (by rw[zl,zl];omega))
 clear N
 go_wp2
 go_ret
 exact⟨zar HV.out.symm,ah.out⟩
theorem zrE (z g:Nat) (S:Sv) (m:Md) (i q j:Nat) (k A:Int) (nm H:ByteArray) (w:World) (M:S.ex.a=some ⟨g,0,none⟩) (h:OwnMd w z S m) (hi:i<m.ex.length) (ad:g<w.heap.size) (c0:w.cell? ⟨g,i*6,none⟩=some (.int .i64 k)) (c1:w.cell? ⟨g,i*6+1,none⟩=some (.int .i64 A)) (c2:w.cell? ⟨g,i*6+2,none⟩=some (.string nm)) (c3:w.cell? ⟨g,i*6+3,none⟩=some (.string H)) (c4:w.cell? ⟨g,i*6+4,none⟩=some (.int .i64 (q:Int))) (c5:w.cell? ⟨g,i*6+5,none⟩=some (.int .i64 (j:Int))) (k1:(k==1)=false) (k2:(k==2)=false) (k3:(k==3)=false) (k4:(k==4)=false) (k5:(k==5)=false) (k6:(k==6)=false) (k7:(k==7)=true) (Z:(prX m.ex q++tMinus++zJ (zR (m.ex.getD j zi).kind) (prX m.ex j)).size≤1099511627776) (he:zeO z S m i) (hl:q<i) (hr:j<i) (af:wt m.ex q≤1099511627776) (ai:wt m.ex j≤1099511627776):
  Calls Tryz.prog 117 #[zp S m,.int .i64 i] w fun e w'=>e= .returned (.string (prX m.ex q++tMinus++zJ (zR (m.ex.getD j zi).kind) (prX m.ex j)))∧Below w.heap.size w w':=by
 have am:(i:Int)<(m.ex.length:Int):=by omega
 have HA:Hid (OwnMd ((w.alloc (.cells #[.slice S.rq.a m.rq.length S.rq.cap,.slice S.im.a m.im.length S.im.cap,.slice S.ep.a m.ep.length S.ep.cap,.slice S.st.a m.st.length S.st.cap,.slice (some ⟨g,0,none⟩) m.ex.length S.ex.cap] 36)).alloc (.cells #[.int .i64 k,.int .i64 A,.string nm,.string H,.int .i64 (q:Int),.int .i64 (j:Int)] 109)) z S m):=(h.alloc _).alloc _
 have HE:=zc he
 have L:Hid (zp S m= .agg #[.slice S.rq.a m.rq.length S.rq.cap,.slice S.im.a m.im.length S.im.cap,.slice S.ep.a m.ep.length S.ep.cap,.slice S.st.a m.st.length S.st.cap,.slice (some ⟨g,0,none⟩) m.ex.length S.ex.cap]):=by show _=_;rw[zp,M]
 have an:(q:Int)<(m.ex.length:Int):=by omega
 have ao:(j:Int)<(m.ex.length:Int):=by omega
 obtain⟨g2,hg2,-,d0,-,-,-,-,-⟩:=h.expr (i:=j) (by omega)
 have eg:g2=g:=by have:=hg2.symm.trans M;simpa using this
 rw[eg] at d0
 obtain⟨kr,U⟩: ∃kr,(m.ex.getD j zi).kind=kr:=⟨_,rfl⟩
 rw[U] at d0
 have O:=zc U
 obtain⟨tl,V⟩: ∃tl,prX m.ex q=tl:=⟨_,rfl⟩
 obtain⟨tr,ab⟩: ∃tr,zJ (zR (m.ex.getD j zi).kind) (prX m.ex j)=tr:=⟨_,rfl⟩
 rw[V,ab] at Z
 have ac:=zc V
 have aa:=zc ab
 have cL: ∀d I,Calls Tryz.prog 117 #[.agg #[.slice S.rq.a m.rq.length S.rq.cap,.slice S.im.a m.im.length S.im.cap,.slice S.ep.a m.ep.length S.ep.cap,.slice S.st.a m.st.length S.st.cap,.slice (some ⟨g,0,none⟩) m.ex.length S.ex.cap],.int .i64 (q:Int)] (grow (redrawn ((w.alloc (.cells #[.slice S.rq.a m.rq.length S.rq.cap,.slice S.im.a m.im.length S.im.cap,.slice S.ep.a m.ep.length S.ep.cap,.slice S.st.a m.st.length S.st.cap,.slice (some ⟨g,0,none⟩) m.ex.length S.ex.cap] 36)).alloc (.cells #[.int .i64 k,.int .i64 A,.string nm,.string H,.int .i64 (q:Int),.int .i64 (j:Int)] 109)) d) I) fun e J=>e= .returned (.string tl)∧∃p:Regrown,J=grow (redrawn ((w.alloc (.cells #[.slice S.rq.a m.rq.length S.rq.cap,.slice S.im.a m.im.length S.im.cap,.slice S.ep.a m.ep.length S.ep.cap,.slice S.st.a m.st.length S.st.cap,.slice (some ⟨g,0,none⟩) m.ex.length S.ex.cap] 36)).alloc (.cells #[.int .i64 k,.int .i64 A,.string nm,.string H,.int .i64 (q:Int),.int .i64 (j:Int)] 109)) p.d) p.os:=fun d I=>Calls.regrown_of (by rw[←L.out,←ac.out];exact HE.out q _ (by omega) (by omega) (HA.out.later (below_regrown _ d I)) af)
 have cS: ∀d I,Calls Tryz.prog 155 #[.agg #[.slice S.rq.a m.rq.length S.rq.cap,.slice S.im.a m.im.length S.im.cap,.slice S.ep.a m.ep.length S.ep.cap,.slice S.st.a m.st.length S.st.cap,.slice (some ⟨g,0,none⟩) m.ex.length S.ex.cap],.int .i64 (j:Int)] (grow (redrawn ((w.alloc (.cells #[.slice S.rq.a m.rq.length S.rq.cap,.slice S.im.a m.im.length S.im.cap,.slice S.ep.a m.ep.length S.ep.cap,.slice S.st.a m.st.length S.st.cap,.slice (some ⟨g,0,none⟩) m.ex.length S.ex.cap] 36)).alloc (.cells #[.int .i64 k,.int .i64 A,.string nm,.string H,.int .i64 (q:Int),.int .i64 (j:Int)] 109)) d) I) fun e J=>e= .returned (.bool (zR kr))∧∃p:Regrown,J=grow (redrawn ((w.alloc (.cells #[.slice S.rq.a m.rq.length S.rq.cap,.slice S.im.a m.im.length S.im.cap,.slice S.ep.a m.ep.length S.ep.cap,.slice S.st.a m.st.length S.st.cap,.slice (some ⟨g,0,none⟩) m.ex.length S.ex.cap] 36)).alloc (.cells #[.int .i64 k,.int .i64 A,.string nm,.string H,.int .i64 (q:Int),.int .i64 (j:Int)] 109)) p.d) p.os:=fun d I=>Calls.regrown_of (by rw[←L.out,←O.out];exact zim z S m j _ (HA.out.later (below_regrown _ d I)) (by omega))
 have cR: ∀d I,Calls Tryz.prog 154 #[.agg #[.slice S.rq.a m.rq.length S.rq.cap,.slice S.im.a m.im.length S.im.cap,.slice S.ep.a m.ep.length S.ep.cap,.slice S.st.a m.st.length S.st.cap,.slice (some ⟨g,0,none⟩) m.ex.length S.ex.cap],.int .i64 (j:Int),.bool (zR kr)] (grow (redrawn ((w.alloc (.cells #[.slice S.rq.a m.rq.length S.rq.cap,.slice S.im.a m.im.length S.im.cap,.slice S.ep.a m.ep.length S.ep.cap,.slice S.st.a m.st.length S.st.cap,.slice (some ⟨g,0,none⟩) m.ex.length S.ex.cap] 36)).alloc (.cells #[.int .i64 k,.int .i64 A,.string nm,.string H,.int .i64 (q:Int),.int .i64 (j:Int)] 109)) d) I) fun e J=>e= .returned (.string tr)∧∃p:Regrown,J=grow (redrawn ((w.alloc (.cells #[.slice S.rq.a m.rq.length S.rq.cap,.slice S.im.a m.im.length S.im.cap,.slice S.ep.a m.ep.length S.ep.cap,.slice S.st.a m.st.length S.st.cap,.slice (some ⟨g,0,none⟩) m.ex.length S.ex.cap] 36)).alloc (.cells #[.int .i64 k,.int .i64 A,.string nm,.string H,.int .i64 (q:Int),.int .i64 (j:Int)] 109)) p.d) p.os:=fun d I=>Calls.regrown_of (by rw[←L.out,←aa.out,O.out];exact zgH z S m i j _ _ HE.out (by omega) (by omega) (HA.out.later (below_regrown _ d I)) ai)
 have X:Hid (Six ((w.alloc (.cells #[.slice S.rq.a m.rq.length S.rq.cap,.slice S.im.a m.im.length S.im.cap,.slice S.ep.a m.ep.length S.ep.cap,.slice S.st.a m.st.length S.st.cap,.slice (some ⟨g,0,none⟩) m.ex.length S.ex.cap] 36)).alloc (.cells #[.int .i64 k,.int .i64 A,.string nm,.string H,.int .i64 (q:Int),.int .i64 (j:Int)] 109)) (w.heap.size+1) (.int .i64 k) (.int .i64 A) (.string nm) (.string H) (.int .i64 (q:Int)) (.int .i64 (j:Int))):=zx (new2 w _ _)
 have Y:=zc (zg (zcA (o':=.cells #[.int .i64 k,.int .i64 A,.string nm,.string H,.int .i64 (q:Int),.int .i64 (j:Int)] 109) (heap_alloc_new w (.cells #[.slice S.rq.a m.rq.length S.rq.cap,.slice S.im.a m.im.length S.im.cap,.slice S.ep.a m.ep.length S.ep.cap,.slice S.st.a m.st.length S.st.cap,.slice (some ⟨g,0,none⟩) m.ex.length S.ex.cap] 36))))
 have D0:Hid (((w.alloc (.cells #[.slice S.rq.a m.rq.length S.rq.cap,.slice S.im.a m.im.length S.im.cap,.slice S.ep.a m.ep.length S.ep.cap,.slice S.st.a m.st.length S.st.cap,.slice (some ⟨g,0,none⟩) m.ex.length S.ex.cap] 36)).alloc (.cells #[.int .i64 k,.int .i64 A,.string nm,.string H,.int .i64 (q:Int),.int .i64 (j:Int)] 109)).cell? ⟨g,j*6,none⟩=some (.int .i64 kr)):=by show _=_;rw[World.cell?_alloc_past _ _ _ (by rw[zl];omega),World.cell?_alloc_past _ _ _ ad];exact d0
 simp only[ByteArray.size_append] at Z
 have ag:tMinus.size=3:=rfl
 have ak:tl.size≤1099511627776:=by omega
 have al:tr.size≤1099511627776:=by omega
 have HV:Hid ((prX m.ex q++tMinus++zJ (zR (m.ex.getD j zi).kind) (prX m.ex j))=tl++tMinus++tr):=by show _=_;rw[ac.out,aa.out]
 unfold zp
 rw[M]
 clear M h HA HE L ac aa V ab U O hg2 he Z ag d0 eg
 go_enter Tryz.func117,Tryz.ntmps117
 go_wp2_with fail
 have x0:=cell_regrown X.out.c0
 have x4:=cell_regrown X.out.c4
 have x5:=cell_regrown X.out.c5
 have y0:=cell_regrown Y.out.1
 have y1:=cell_regrown Y.out.2.1
 have y2:=cell_regrown Y.out.2.2.1
 have y3:=cell_regrown Y.out.2.2.2.1
 have y4:=cell_regrown Y.out.2.2.2.2.1
 have e0:=cell_regrown D0.out
 refine wp_region_quiet_below (by kernel_rfl) (by kernel_rfl) ?_
 repeat (go_big_quiet_step (first|with_reducible exact cL _ _|with_reducible exact cS _ _|with_reducible exact cR _ _))
 refine wpQuiet_nil ?_
 intro w1 ae
 obtain⟨⟨dq,aj⟩,N⟩:=ae
 have ah:Hid (Below w.heap.size w w1):=by show Below _ _ _;rw[N];exact (zbc w _ _).trans ((below_regrown _ _ _).mono (by rw[zl,zl];omega))
 clear N
 go_wp2
 go_ret
 exact⟨zar HV.out.symm,ah.out⟩
theorem zrF (z g:Nat) (S:Sv) (m:Md) (i q j:Nat) (k I:Int) (nm J:ByteArray) (w:World) (M:S.ex.a=some ⟨g,0,none⟩) (h:OwnMd w z S m) (hi:i<m.ex.length) (ae:g<w.heap.size) (c0:w.cell? ⟨g,i*6,none⟩=some (.int .i64 k)) (c1:w.cell? ⟨g,i*6+1,none⟩=some (.int .i64 I)) (c2:w.cell? ⟨g,i*6+2,none⟩=some (.string nm)) (c3:w.cell? ⟨g,i*6+3,none⟩=some (.string J)) (c4:w.cell? ⟨g,i*6+4,none⟩=some (.int .i64 (q:Int))) (c5:w.cell? ⟨g,i*6+5,none⟩=some (.int .i64 (j:Int))) (k1:(k==1)=false) (k2:(k==2)=false) (k3:(k==3)=false) (k4:(k==4)=false) (k5:(k==5)=false) (k6:(k==6)=false) (k7:(k==7)=false) (k8:(k==8)=true) (Z:(zJ (zR (m.ex.getD q zi).kind) (prX m.ex q)++tStar++zJ (zaa (m.ex.getD j zi).kind) (prX m.ex j)).size≤1099511627776) (he:zeO z S m i) (hl:q<i) (hr:j<i) (ag:wt m.ex q≤1099511627776) (aj:wt m.ex j≤1099511627776):
  Calls Tryz.prog 117 #[zp S m,.int .i64 i] w fun e w'=>e= .returned (.string (zJ (zR (m.ex.getD q zi).kind) (prX m.ex q)++tStar++zJ (zaa (m.ex.getD j zi).kind) (prX m.ex j)))∧Below w.heap.size w w':=by
 have an:(i:Int)<(m.ex.length:Int):=by omega
 have HA:Hid (OwnMd ((w.alloc (.cells #[.slice S.rq.a m.rq.length S.rq.cap,.slice S.im.a m.im.length S.im.cap,.slice S.ep.a m.ep.length S.ep.cap,.slice S.st.a m.st.length S.st.cap,.slice (some ⟨g,0,none⟩) m.ex.length S.ex.cap] 36)).alloc (.cells #[.int .i64 k,.int .i64 I,.string nm,.string J,.int .i64 (q:Int),.int .i64 (j:Int)] 109)) z S m):=(h.alloc _).alloc _
 have HE:=zc he
 have L:Hid (zp S m= .agg #[.slice S.rq.a m.rq.length S.rq.cap,.slice S.im.a m.im.length S.im.cap,.slice S.ep.a m.ep.length S.ep.cap,.slice S.st.a m.st.length S.st.cap,.slice (some ⟨g,0,none⟩) m.ex.length S.ex.cap]):=by show _=_;rw[zp,M]
 have ao:(q:Int)<(m.ex.length:Int):=by omega
 have ap:(j:Int)<(m.ex.length:Int):=by omega
 obtain⟨g2,hg2,-,d0,-,-,-,-,-⟩:=h.expr (i:=j) (by omega)
 have eg:g2=g:=by have:=hg2.symm.trans M;simpa using this
 rw[eg] at d0
 obtain⟨kr,U⟩: ∃kr,(m.ex.getD j zi).kind=kr:=⟨_,rfl⟩
 rw[U] at d0
 have ad:=zc U
 obtain⟨tl,V⟩: ∃tl,zJ (zR (m.ex.getD q zi).kind) (prX m.ex q)=tl:=⟨_,rfl⟩
 obtain⟨tr,ab⟩: ∃tr,zJ (zaa (m.ex.getD j zi).kind) (prX m.ex j)=tr:=⟨_,rfl⟩
 rw[V,ab] at Z
 have ac:=zc V
 have aa:=zc ab
 obtain⟨kl,O⟩: ∃kl,(m.ex.getD q zi).kind=kl:=⟨_,rfl⟩
 have cK: ∀d H,Calls Tryz.prog 155 #[.agg #[.slice S.rq.a m.rq.length S.rq.cap,.slice S.im.a m.im.length S.im.cap,.slice S.ep.a m.ep.length S.ep.cap,.slice S.st.a m.st.length S.st.cap,.slice (some ⟨g,0,none⟩) m.ex.length S.ex.cap],.int .i64 (q:Int)] (grow (redrawn ((w.alloc (.cells #[.slice S.rq.a m.rq.length S.rq.cap,.slice S.im.a m.im.length S.im.cap,.slice S.ep.a m.ep.length S.ep.cap,.slice S.st.a m.st.length S.st.cap,.slice (some ⟨g,0,none⟩) m.ex.length S.ex.cap] 36)).alloc (.cells #[.int .i64 k,.int .i64 I,.string nm,.string J,.int .i64 (q:Int),.int .i64 (j:Int)] 109)) d) H) fun e A=>e= .returned (.bool (zR kl))∧∃p:Regrown,A=grow (redrawn ((w.alloc (.cells #[.slice S.rq.a m.rq.length S.rq.cap,.slice S.im.a m.im.length S.im.cap,.slice S.ep.a m.ep.length S.ep.cap,.slice S.st.a m.st.length S.st.cap,.slice (some ⟨g,0,none⟩) m.ex.length S.ex.cap] 36)).alloc (.cells #[.int .i64 k,.int .i64 I,.string nm,.string J,.int .i64 (q:Int),.int .i64 (j:Int)] 109)) p.d) p.os:=fun d H=>Calls.regrown_of (by rw[←L.out,←O];exact zim z S m q _ (HA.out.later (below_regrown _ d H)) (by omega))
 have cL: ∀d H,Calls Tryz.prog 154 #[.agg #[.slice S.rq.a m.rq.length S.rq.cap,.slice S.im.a m.im.length S.im.cap,.slice S.ep.a m.ep.length S.ep.cap,.slice S.st.a m.st.length S.st.cap,.slice (some ⟨g,0,none⟩) m.ex.length S.ex.cap],.int .i64 (q:Int),.bool (zR kl)] (grow (redrawn ((w.alloc (.cells #[.slice S.rq.a m.rq.length S.rq.cap,.slice S.im.a m.im.length S.im.cap,.slice S.ep.a m.ep.length S.ep.cap,.slice S.st.a m.st.length S.st.cap,.slice (some ⟨g,0,none⟩) m.ex.length S.ex.cap] 36)).alloc (.cells #[.int .i64 k,.int .i64 I,.string nm,.string J,.int .i64 (q:Int),.int .i64 (j:Int)] 109)) d) H) fun e A=>e= .returned (.string tl)∧∃p:Regrown,A=grow (redrawn ((w.alloc (.cells #[.slice S.rq.a m.rq.length S.rq.cap,.slice S.im.a m.im.length S.im.cap,.slice S.ep.a m.ep.length S.ep.cap,.slice S.st.a m.st.length S.st.cap,.slice (some ⟨g,0,none⟩) m.ex.length S.ex.cap] 36)).alloc (.cells #[.int .i64 k,.int .i64 I,.string nm,.string J,.int .i64 (q:Int),.int .i64 (j:Int)] 109)) p.d) p.os:=fun d H=>Calls.regrown_of (by rw[←L.out,←ac.out,O];exact zgH z S m i q _ _ HE.out (by omega) (by omega) (HA.out.later (below_regrown _ d H)) ag)
 have cS: ∀d H,Calls Tryz.prog 115 #[.int .i64 kr] (grow (redrawn ((w.alloc (.cells #[.slice S.rq.a m.rq.length S.rq.cap,.slice S.im.a m.im.length S.im.cap,.slice S.ep.a m.ep.length S.ep.cap,.slice S.st.a m.st.length S.st.cap,.slice (some ⟨g,0,none⟩) m.ex.length S.ex.cap] 36)).alloc (.cells #[.int .i64 k,.int .i64 I,.string nm,.string J,.int .i64 (q:Int),.int .i64 (j:Int)] 109)) d) H) fun e A=>e= .returned (.bool (zaa kr))∧∃p:Regrown,A=grow (redrawn ((w.alloc (.cells #[.slice S.rq.a m.rq.length S.rq.cap,.slice S.im.a m.im.length S.im.cap,.slice S.ep.a m.ep.length S.ep.cap,.slice S.st.a m.st.length S.st.cap,.slice (some ⟨g,0,none⟩) m.ex.length S.ex.cap] 36)).alloc (.cells #[.int .i64 k,.int .i64 I,.string nm,.string J,.int .i64 (q:Int),.int .i64 (j:Int)] 109)) p.d) p.os:=fun d H=>Calls.regrown_of ((zkT kr _).mono (by rintro e w' ⟨rfl,rfl⟩;exact⟨rfl,Below.refl _ _⟩))
 have cR: ∀d H,Calls Tryz.prog 154 #[.agg #[.slice S.rq.a m.rq.length S.rq.cap,.slice S.im.a m.im.length S.im.cap,.slice S.ep.a m.ep.length S.ep.cap,.slice S.st.a m.st.length S.st.cap,.slice (some ⟨g,0,none⟩) m.ex.length S.ex.cap],.int .i64 (j:Int),.bool (zaa kr)] (grow (redrawn ((w.alloc (.cells #[.slice S.rq.a m.rq.length S.rq.cap,.slice S.im.a m.im.length S.im.cap,.slice S.ep.a m.ep.length S.ep.cap,.slice S.st.a m.st.length S.st.cap,.slice (some ⟨g,0,none⟩) m.ex.length S.ex.cap] 36)).alloc (.cells #[.int .i64 k,.int .i64 I,.string nm,.string J,.int .i64 (q:Int),.int .i64 (j:Int)] 109)) d) H) fun e A=>e= .returned (.string tr)∧∃p:Regrown,A=grow (redrawn ((w.alloc (.cells #[.slice S.rq.a m.rq.length S.rq.cap,.slice S.im.a m.im.length S.im.cap,.slice S.ep.a m.ep.length S.ep.cap,.slice S.st.a m.st.length S.st.cap,.slice (some ⟨g,0,none⟩) m.ex.length S.ex.cap] 36)).alloc (.cells #[.int .i64 k,.int .i64 I,.string nm,.string J,.int .i64 (q:Int),.int .i64 (j:Int)] 109)) p.d) p.os:=fun d H=>Calls.regrown_of (by rw[←L.out,←aa.out,ad.out];exact zgH z S m i j _ _ HE.out (by omega) (by omega) (HA.out.later (below_regrown _ d H)) aj)
 have X:Hid (Six ((w.alloc (.cells #[.slice S.rq.a m.rq.length S.rq.cap,.slice S.im.a m.im.length S.im.cap,.slice S.ep.a m.ep.length S.ep.cap,.slice S.st.a m.st.length S.st.cap,.slice (some ⟨g,0,none⟩) m.ex.length S.ex.cap] 36)).alloc (.cells #[.int .i64 k,.int .i64 I,.string nm,.string J,.int .i64 (q:Int),.int .i64 (j:Int)] 109)) (w.heap.size+1) (.int .i64 k) (.int .i64 I) (.string nm) (.string J) (.int .i64 (q:Int)) (.int .i64 (j:Int))):=zx (new2 w _ _)
 have Y:=zc (zg (zcA (o':=.cells #[.int .i64 k,.int .i64 I,.string nm,.string J,.int .i64 (q:Int),.int .i64 (j:Int)] 109) (heap_alloc_new w (.cells #[.slice S.rq.a m.rq.length S.rq.cap,.slice S.im.a m.im.length S.im.cap,.slice S.ep.a m.ep.length S.ep.cap,.slice S.st.a m.st.length S.st.cap,.slice (some ⟨g,0,none⟩) m.ex.length S.ex.cap] 36))))
 have D0:Hid (((w.alloc (.cells #[.slice S.rq.a m.rq.length S.rq.cap,.slice S.im.a m.im.length S.im.cap,.slice S.ep.a m.ep.length S.ep.cap,.slice S.st.a m.st.length S.st.cap,.slice (some ⟨g,0,none⟩) m.ex.length S.ex.cap] 36)).alloc (.cells #[.int .i64 k,.int .i64 I,.string nm,.string J,.int .i64 (q:Int),.int .i64 (j:Int)] 109)).cell? ⟨g,j*6,none⟩=some (.int .i64 kr)):=by show _=_;rw[World.cell?_alloc_past _ _ _ (by rw[zl];omega),World.cell?_alloc_past _ _ _ ae];exact d0
 simp only[ByteArray.size_append] at Z
 have ah:tStar.size=3:=rfl
 have al:tl.size≤1099511627776:=by omega
 have am:tr.size≤1099511627776:=by omega
 have HV:Hid ((zJ (zR (m.ex.getD q zi).kind) (prX m.ex q)++tStar++zJ (zaa (m.ex.getD j zi).kind) (prX m.ex j))=tl++tStar++tr):=by show _=_;rw[ac.out,aa.out]
 unfold zp
 rw[M]
 clear M h HA HE L ac aa V ab U ad hg2 he Z ah d0 eg O
 go_enter Tryz.func117,Tryz.ntmps117
 go_wp2_with fail
 have x0:=cell_regrown X.out.c0
 have x4:=cell_regrown X.out.c4
 have x5:=cell_regrown X.out.c5
 have y0:=cell_regrown Y.out.1
 have y1:=cell_regrown Y.out.2.1
 have y2:=cell_regrown Y.out.2.2.1
 have y3:=cell_regrown Y.out.2.2.2.1
 have y4:=cell_regrown Y.out.2.2.2.2.1
 have e0:=cell_regrown D0.out
 refine wp_region_quiet_below (by kernel_rfl) (by kernel_rfl) ?_
 repeat (go_big_quiet_step (first|with_reducible exact cL _ _|with_reducible exact cS _ _|with_reducible exact cR _ _|with_reducible exact cK _ _))
 refine wpQuiet_nil ?_
 intro w1 af
 obtain⟨⟨dq,ak⟩,N⟩:=af
 have ai:Hid (Below w.heap.size w w1):=by show Below _ _ _;rw[N];exact (zbc w _ _).trans ((below_regrown _ _ _).mono (by rw[zl,zl];omega))
 clear N
 go_wp2
 go_ret
 exact⟨zar HV.out.symm,ai.out⟩
theorem zgI (b:Bool) (t:ByteArray):t.size≤(zJ b t).size:=by
 unfold zJ
 split
 ·rw[ByteArray.size_append,ByteArray.size_append]
  omega
 ·exact Nat.le_refl _
theorem zrG (A:Nat) (S:Sv) (m:Md) (hn:zaW m.ex) (ha:zb3 m.ex) (n:Nat):zeO A S m n:=by
 induction n with
 |zero=>intro i w H;omega
 |succ n ih=>
  intro i w ad H h j
  by_cases ab:i<n
  ·exact ih i w ab H h j
  ·have he:zeO A S m i:=by
    have:i=n:=by omega
    rw[this]
    exact ih
   obtain⟨g,z,q,Y,N,U,V,O,X⟩:=h.expr H
   have ac:=hn (m.ex.getD i zi) (by rw[zdV H];exact List.getElem_mem H)
   have aa:=zfZ ha (i:=i)
   unfold wt at j
   rw[zhm ha] at j ⊢
   generalize m.ex.getD i zi=x at*
   by_cases I:(x.kind==1)=true
   ·rw[if_pos I]
    exact zr7 g S m i _ _ _ _ _ _ w z H q Y N U V O X I ac
   rw[if_neg I] at j ⊢
   by_cases L:(x.kind==2)=true
   ·rw[if_pos L]
    exact zr8 g S m i _ _ _ _ _ _ w z H q Y N U V O X (by simpa using I) L
   rw[if_neg L] at j ⊢
   by_cases M:(x.kind==3)=true
   ·rw[if_pos M] at j ⊢
    exact zr9 g S m i _ _ _ _ _ _ w z H q Y N U V O X (by simpa using I) (by simpa using L) M j
   rw[if_neg M] at j ⊢
   by_cases Z:(x.kind==4)=true
   ·rw[if_pos Z] at j ⊢
    exact zrA g S m i _ _ _ _ _ _ w z H q Y N U V O X (by simpa using I) (by simpa using L) (by simpa using M) Z j
   rw[if_neg Z] at j ⊢
   by_cases k5:(x.kind==5)=true
   ·rw[if_pos k5] at j ⊢
    exact zrB g S m i _ _ _ _ _ _ w z H q Y N U V O X (by simpa using I) (by simpa using L) (by simpa using M) (by simpa using Z) k5 j
   rw[if_neg k5] at j ⊢
   by_cases k6:(x.kind==6)=true
   ·rw[if_pos k6] at j ⊢
    obtain⟨h1,h2,h3,h4⟩:=aa (zbH (.inl k6))
    have J:=j
    rw[ByteArray.size_append,ByteArray.size_append] at J
    have s2:=zgI (zR (m.ex.getD x.r.toNat zi).kind) (prX m.ex x.r.toNat)
    exact zrD A g S m i x.l.toNat x.r.toNat _ _ _ _ w z h H q Y N U V (by rw[O,Int.toNat_of_nonneg h1]) (by rw[X,Int.toNat_of_nonneg h3]) (by simpa using I) (by simpa using L) (by simpa using M) (by simpa using Z) (by simpa using k5) k6 j he (by omega) (by omega) (by unfold wt;omega) (by unfold wt;omega)
   rw[if_neg k6] at j ⊢
   by_cases k7:(x.kind==7)=true
   ·rw[if_pos k7] at j ⊢
    obtain⟨h1,h2,h3,h4⟩:=aa (zbH (.inr (.inl k7)))
    have J:=j
    rw[ByteArray.size_append,ByteArray.size_append] at J
    have s2:=zgI (zR (m.ex.getD x.r.toNat zi).kind) (prX m.ex x.r.toNat)
    exact zrE A g S m i x.l.toNat x.r.toNat _ _ _ _ w z h H q Y N U V (by rw[O,Int.toNat_of_nonneg h1]) (by rw[X,Int.toNat_of_nonneg h3]) (by simpa using I) (by simpa using L) (by simpa using M) (by simpa using Z) (by simpa using k5) (by simpa using k6) k7 j he (by omega) (by omega) (by unfold wt;omega) (by unfold wt;omega)
   rw[if_neg k7] at j ⊢
   by_cases k8:(x.kind==8)=true
   ·rw[if_pos k8] at j ⊢
    obtain⟨h1,h2,h3,h4⟩:=aa (zbH (.inr (.inr k8)))
    have J:=j
    rw[ByteArray.size_append,ByteArray.size_append] at J
    have s1:=zgI (zR (m.ex.getD x.l.toNat zi).kind) (prX m.ex x.l.toNat)
    have s2:=zgI (zaa (m.ex.getD x.r.toNat zi).kind) (prX m.ex x.r.toNat)
    exact zrF A g S m i x.l.toNat x.r.toNat _ _ _ _ w z h H q Y N U V (by rw[O,Int.toNat_of_nonneg h1]) (by rw[X,Int.toNat_of_nonneg h3]) (by simpa using I) (by simpa using L) (by simpa using M) (by simpa using Z) (by simpa using k5) (by simpa using k6) (by simpa using k7) k8 j he (by omega) (by omega) (by unfold wt;omega) (by unfold wt;omega)
   rw[if_neg k8] at j ⊢
   exact zrC g S m i _ _ _ _ _ _ w z H q Y N U V O X (by simpa using I) (by simpa using L) (by simpa using M) (by simpa using Z) (by simpa using k5) (by simpa using k6) (by simpa using k7) (by simpa using k8)
theorem zem (j:Nat) (S:Sv) (m:Md) (i:Nat) (w:World) (H:zaW m.ex) (z:zb3 m.ex) (A:i<m.ex.length) (h:OwnMd w j S m) (q:wt m.ex i≤1099511627776):
  Calls Tryz.prog 117 #[zp S m,.int .i64 i] w fun e w'=>e= .returned (.string (prX m.ex i))∧Below w.heap.size w w':=zrG j S m H z (i+1) i w (Nat.lt_succ_self i) A h q
def zbg (e:Ep):Im:=⟨sNone,e.loc,e.name⟩
def zbB (C:Cx) (exp:Bool) (q:PS):Except Nat (PS×Ep):=bd (zo C true q) fun a=>bd (asP C exp a) fun b=>.ok (b.1,⟨0,b.2,a.2,sNone⟩)
theorem zkU (C:Cx) (j:Bool) (q:PS) (acc:List Ep):za5 C j q acc=bd (zbB C j q) fun x=>
  if isT C x.1.pos 4 zbF then za5 C j (adv x.1) (acc++[x.2]) else bd (zd C 4 zb2 x.1) fun q'=>.ok (q',acc++[x.2]):=by
 rw[zgd,zbB,zP]
 refine zaf fun a _=>?_
 rw[zP]
 rfl
theorem zrH {C:Cx} {q:PS} {a:PS×ByteArray} (j:zo C true q= .ok a) (h:isT C a.1.pos 1 sAs=true):zbB C false q=bd (zo C false (adv a.1)) fun b=>.ok (b.1,⟨0,b.2,a.2,sNone⟩):=by
 rw[zbB,j,zC,asP,if_pos h]
theorem zrI {C:Cx} {q:PS} {a:PS×ByteArray} (z:zo C true q= .ok a) (h:isT C a.1.pos 1 sAs=false) (j:(a.2.toList==[100,101,102,97,117,108,116])=true):zbB C false q= .error (zu C a.1.pos):=by
 rw[zbB,z,zC,asP,if_neg (by rw[h];decide),if_pos (by rw[j];rfl)]
 rfl
theorem zrJ {C:Cx} {q:PS} {a:PS×ByteArray} (z:zo C true q= .ok a) (h:isT C a.1.pos 1 sAs=false) (j:(a.2.toList==[100,101,102,97,117,108,116])=false):zbB C false q= .ok (a.1,⟨0,a.2,a.2,sNone⟩):=by
 rw[zbB,z,zC,asP,if_neg (by rw[h];decide),if_neg (by rw[j];decide)]
 rfl
theorem zbJ {w:World} {b:Nat} {t:TypeId} {v0 v1 v2:Value} (h:w.heap[b]? =some (.cells #[v0,v1,v2] t (0,0))):
  w.cell? ⟨b,0,none⟩=some v0∧w.cell? ⟨b,1,none⟩=some v1∧w.cell? ⟨b,2,none⟩=some v2∧∀i,w.frozen? ⟨b,i,none⟩=false:=by
 refine⟨?_,?_,?_,fun i=>?_⟩<;>simp[World.cell?,World.frozen?,h]
theorem put3 {w:World} {b:Nat} {v0 v1 v2 x0 x1 x2:Value} {t:TypeId} (h:w.heap[b]? =some (.cells #[v0,v1,v2] t (0,0))):
  (((w.setCell ⟨b,0,none⟩ x0).setCell ⟨b,1,none⟩ x1).setCell ⟨b,2,none⟩ x2).heap[b]? =some (.cells #[x0,x1,x2] t (0,0)):=by
 have e:=zaz (i:=2) (u:=x2) (zaz (i:=1) (u:=x1) (zaz (i:=0) (u:=x0) h))
 rw[e]
 simp
theorem zrK (C:Cx) (N A j L:Nat) (S:Sv) (q:PS) (w:World) (h:IM C N A j L S q w):
  Calls Tryz.prog 227 #[.pointer (some ⟨L,0,none⟩)] w (zW C N A j L (zbB C false q) (·.1) (fun a=>imV (zbg a.2)) S w):=by
 have J:w.heap.size≠L:=by have:=h.lt;omega
 have I:w.heap.size≠N:=by have:=(zav h.mem.tok).1;omega
 go_enter Tryz.func227,Tryz.ntmps227
 go_wp2_with fail
 refine (zfm C N A j L S q _ (h.alloc _)).mono ?_
 cases M:zo C true q with
 |error p=>
  rintro e w1 ⟨rfl,hb⟩
  have HB:Below j w w1:=(h.back ((IS.refl _ _ _).alloc _)).trans hb
  have Z:Hid (zbB C false q= .error p):=by show _=_;rw[zbB,M];rfl
  unfold Pan
  go_wp2
  refine⟨rfl,?_⟩
  rw[Z.out]
  exact⟨rfl,HB⟩
 |ok a=>
  rintro e w1 ⟨rfl,X,V,U⟩
  cases hi:isT C a.1.pos 1 sAs with
  |true=>
   have HY:=zc (zrH M hi)
   go_wp2_with fail
   refine (zO C N A j L X a.1 1 sAs _ V (by decide)).mono ?_
   rintro e w2 ⟨rfl,z,s⟩
   rw[hi] at z ⊢
   have H:=U.trans s
   clear s
   go_wp2_with fail
   refine (zd2 C N A j L X (adv a.1) _ z).mono ?_
   cases aa:zo C false (adv a.1) with
   |error p=>
    rintro e w3 ⟨rfl,hb⟩
    have HB:=(h.back H.from).trans hb
    have Z:Hid (zbB C false q= .error p):=bdE HY.out aa
    unfold Pan
    go_wp2
    refine⟨rfl,?_⟩
    rw[Z.out]
    exact⟨rfl,HB⟩
   |ok c=>
    rintro e w3 ⟨rfl,S3,ab,s⟩
    have Y:=H.trans s
    clear s
    have Z:=zc (bdO HY.out aa)
    have HG:Hid (w3.heap[w.heap.size]? =some (.cells #[.string sNone,.string sNone,.string sNone] 84 (0,0))):=IS.kept h Y rfl
    have O:Hid (¬S3.has w.heap.size):=IS.free h Y
    obtain⟨b0,b1,b2,bf⟩:=zbJ HG.out
    go_wp2
    refine bodyPost_ret (results_cell_row rfl _ _ w.heap.size 84 _ (0,0) _ rfl (put3 HG.out) Tryz.underlying84 rfl (by kernel_rfl)) rfl ?_
    rw[Z.out]
    exact⟨rfl,S3,((ab.set J I O.out _ _).set J I O.out _ _).set J I O.out _ _,((Y.from.new (Nat.le_refl _) _ _).new (Nat.le_refl _) _ _).new (Nat.le_refl _) _ _⟩
  |false=>
   cases hd:(a.2.toList==[100,101,102,97,117,108,116]) with
   |true=>
    have HY:=zc (zrI M hi hd)
    go_wp2_with fail
    refine (zO C N A j L X a.1 1 sAs _ V (by decide)).mono ?_
    rintro e w2 ⟨rfl,z,s⟩
    rw[hi] at z ⊢
    have H:=U.trans s
    clear s
    go_wp2_with fail
    refine (ze6 C N A j L X a.1 _ z).mono ?_
    rintro e w3 ⟨rfl,hb⟩
    have HB:=(h.back H.from).trans (hb.mono z.mem.base)
    unfold Pan
    go_wp2
    refine⟨rfl,?_⟩
    rw[HY.out]
    exact⟨rfl,HB⟩
   |false=>
    have Z:=zc (zrJ M hi hd)
    go_wp2_with fail
    refine (zO C N A j L X a.1 1 sAs _ V (by decide)).mono ?_
    rintro e w2 ⟨rfl,z,s⟩
    rw[hi] at z ⊢
    have H:=U.trans s
    clear s
    have HG:Hid (w2.heap[w.heap.size]? =some (.cells #[.string sNone,.string sNone,.string sNone] 84 (0,0))):=IS.kept h H rfl
    have O:Hid (¬X.has w.heap.size):=IS.free h H
    obtain⟨b0,b1,b2,bf⟩:=zbJ HG.out
    go_wp2
    refine bodyPost_ret (results_cell_row rfl _ _ w.heap.size 84 _ (0,0) _ rfl (put3 HG.out) Tryz.underlying84 rfl (by kernel_rfl)) rfl ?_
    rw[Z.out]
    exact⟨rfl,X,((z.set J I O.out _ _).set J I O.out _ _).set J I O.out _ _,((H.from.new (Nat.le_refl _) _ _).new (Nat.le_refl _) _ _).new (Nat.le_refl _) _ _⟩
theorem zin (a b:ByteArray) (w:World) (q:a.size≤1099511627776) (z:b.size≤1099511627776):Calls Tryz.prog 116 #[.string a,.string b] w fun e w'=>e= .returned (.string (asT a b))∧w'=w:=by
 cases h:(a.toList==b.toList) with
 |true=>
  have j:Hid (asT a b=a):=by show _=_;rw[asT,h];rfl
  go_enter Tryz.func116,Tryz.ntmps116
  go_wp2
  go_ret
  exact⟨zar j.out.symm,rfl⟩
 |false=>
  have j:Hid (asT a b=a++({data:=#[32,97,115,32]}:ByteArray)++b):=by show _=_;rw[asT,h];rfl
  go_enter Tryz.func116,Tryz.ntmps116
  go_wp2
  go_ret
  exact⟨zar j.out.symm,rfl⟩
theorem zgJ (s:ByteArray) (w:World) (q:s.size≤1099511627776):Calls Tryz.prog 81 #[.string s] w fun e w'=>e= .returned (.string (za2 s))∧w'=w:=by
 have j:Hid (za2 s=({data:=#[34]}:ByteArray)++s++({data:=#[34]}:ByteArray)):=rfl
 go_enter Tryz.func81,Tryz.ntmps81
 go_wp2
 go_ret
 exact⟨zar j.out.symm,rfl⟩
theorem zio (s:ByteArray):(za2 s).size=s.size+2:=by
 rw[za2,ByteArray.size_append,ByteArray.size_append]
 show 1+s.size+1=_
 omega
theorem zkV (a b:ByteArray):(asT a b).size≤a.size+b.size+4:=by
 unfold asT
 split
 ·omega
 ·rw[ByteArray.size_append,ByteArray.size_append]
  show a.size+4+b.size≤_
  omega
theorem zrL (x:Im) (w:World) (h1:x.spec.size≤4294967296) (h2:x.first.size≤4294967296) (h3:x.loc.size≤4294967296):Calls Tryz.prog 82 #[imV x] w fun e w'=>e= .returned (.string (zad x))∧Below w.heap.size w w':=by
 obtain⟨qt,A⟩: ∃t,za2 x.spec=t:=⟨_,rfl⟩
 obtain⟨at',hat⟩: ∃t,asT x.first x.loc=t:=⟨_,rfl⟩
 have hq:=zio x.spec
 have ha:=zkV x.first x.loc
 rw[A] at hq
 rw[hat] at ha
 have ab:qt.size≤8589934592:=by omega
 have aa:at'.size≤17179869184:=by omega
 have U:=zc A
 have AT:=zc hat
 have O: ∀d L,Calls Tryz.prog 81 #[.string x.spec] (grow (redrawn (w.alloc (.cells #[.string x.spec,.string x.first,.string x.loc] 84)) d) L) fun e H=>e= .returned (.string qt)∧∃p:Regrown,H=grow (redrawn (w.alloc (.cells #[.string x.spec,.string x.first,.string x.loc] 84)) p.d) p.os:=fun d L=>Calls.regrown_of (by rw[←A];exact (zgJ x.spec _ (by omega)).mono (by rintro e w' ⟨rfl,rfl⟩;exact⟨rfl,Below.refl _ _⟩))
 have N: ∀d L,Calls Tryz.prog 116 #[.string x.first,.string x.loc] (grow (redrawn (w.alloc (.cells #[.string x.spec,.string x.first,.string x.loc] 84)) d) L) fun e H=>e= .returned (.string at')∧∃p:Regrown,H=grow (redrawn (w.alloc (.cells #[.string x.spec,.string x.first,.string x.loc] 84)) p.d) p.os:=fun d L=>Calls.regrown_of (by rw[←hat];exact (zin x.first x.loc _ (by omega) (by omega)).mono (by rintro e w' ⟨rfl,rfl⟩;exact⟨rfl,Below.refl _ _⟩))
 have X:=zc (zbJ (heap_alloc_new w (.cells #[.string x.spec,.string x.first,.string x.loc] 84)))
 clear A hat hq ha
 unfold imV
 cases V:(x.first.toList==[42]) with
 |true=>
  have M:Hid (zad x=({data:=#[105,109,112,111,114,116,32,42,32,97,115,32]}:ByteArray)++x.loc++({data:=#[32,102,114,111,109,32]}:ByteArray)++za2 x.spec++({data:=#[59,10]}:ByteArray)):=by show _=_;rw[zad,V];rfl
  go_enter Tryz.func82,Tryz.ntmps82
  go_wp2_with fail
  have y0:=cell_regrown X.out.1
  have Z:=cell_regrown X.out.2.1
  have y2:=cell_regrown X.out.2.2.1
  refine wp_region_quiet_below (by kernel_rfl) (by kernel_rfl) ?_
  repeat (go_big_quiet_step (first|with_reducible exact O _ _|with_reducible exact N _ _))
  refine wpQuiet_nil ?_
  intro I q
  obtain⟨⟨Y,J⟩,j⟩:=q
  have z:Hid (Below w.heap.size w I):=by show Below _ _ _;rw[j];exact ((Below.refl _ _).alloc (Nat.le_refl _) _).trans ((below_regrown _ _ _).mono (by rw[zl];omega))
  clear j
  go_wp2
  go_ret
  exact⟨zar (by rw[M.out,U.out]),z.out⟩
 |false=>
  cases e2:(x.first.toList==[100,101,102,97,117,108,116]) with
  |true=>
   have M:Hid (zad x=({data:=#[105,109,112,111,114,116,32]}:ByteArray)++x.loc++({data:=#[32,102,114,111,109,32]}:ByteArray)++za2 x.spec++({data:=#[59,10]}:ByteArray)):=by show _=_;rw[zad,V,e2];rfl
   go_enter Tryz.func82,Tryz.ntmps82
   go_wp2_with fail
   have y0:=cell_regrown X.out.1
   have Z:=cell_regrown X.out.2.1
   have y2:=cell_regrown X.out.2.2.1
   refine wp_region_quiet_below (by kernel_rfl) (by kernel_rfl) ?_
   repeat (go_big_quiet_step (first|with_reducible exact O _ _|with_reducible exact N _ _))
   refine wpQuiet_nil ?_
   intro I q
   obtain⟨⟨Y,J⟩,j⟩:=q
   have z:Hid (Below w.heap.size w I):=by show Below _ _ _;rw[j];exact ((Below.refl _ _).alloc (Nat.le_refl _) _).trans ((below_regrown _ _ _).mono (by rw[zl];omega))
   clear j
   go_wp2
   go_ret
   exact⟨zar (by rw[M.out,U.out]),z.out⟩
  |false=>
   have M:Hid (zad x=({data:=#[105,109,112,111,114,116,32,123,32]}:ByteArray)++asT x.first x.loc++({data:=#[32,125,32,102,114,111,109,32]}:ByteArray)++za2 x.spec++({data:=#[59,10]}:ByteArray)):=by show _=_;rw[zad,V,e2];rfl
   go_enter Tryz.func82,Tryz.ntmps82
   go_wp2_with fail
   have y0:=cell_regrown X.out.1
   have Z:=cell_regrown X.out.2.1
   have y2:=cell_regrown X.out.2.2.1
   refine wp_region_quiet_below (by kernel_rfl) (by kernel_rfl) ?_
   repeat (go_big_quiet_step (first|with_reducible exact O _ _|with_reducible exact N _ _))
   refine wpQuiet_nil ?_
   intro I q
   obtain⟨⟨Y,J⟩,j⟩:=q
   have z:Hid (Below w.heap.size w I):=by show Below _ _ _;rw[j];exact ((Below.refl _ _).alloc (Nat.le_refl _) _).trans ((below_regrown _ _ _).mono (by rw[zl];omega))
   clear j
   go_wp2
   go_ret
   exact⟨zar (by rw[M.out,U.out,AT.out]),z.out⟩
theorem zrM (x:Ep) (w:World) (h1:x.spec.size≤4294967296) (h2:x.name.size≤4294967296) (h3:x.loc.size≤4294967296):Calls Tryz.prog 83 #[epV x] w fun e w'=>e= .returned (.string (zbw x))∧Below w.heap.size w w':=by
 obtain⟨N,j⟩: ∃t,za2 x.spec=t:=⟨_,rfl⟩
 obtain⟨at',hat⟩: ∃t,asT x.loc x.name=t:=⟨_,rfl⟩
 have Y:=zio x.spec
 have ha:=zkV x.loc x.name
 rw[j] at Y
 rw[hat] at ha
 have ac:N.size≤8589934592:=by omega
 have ab:at'.size≤17179869184:=by omega
 have QT:=zc j
 have AT:=zc hat
 have cQ: ∀d H,Calls Tryz.prog 81 #[.string x.spec] (grow (redrawn (w.alloc (.cells #[.int .i64 x.kind,.string x.name,.string x.loc,.string x.spec] 86)) d) H) fun e z=>e= .returned (.string N)∧∃p:Regrown,z=grow (redrawn (w.alloc (.cells #[.int .i64 x.kind,.string x.name,.string x.loc,.string x.spec] 86)) p.d) p.os:=fun d H=>Calls.regrown_of (by rw[←j];exact (zgJ x.spec _ (by omega)).mono (by rintro e w' ⟨rfl,rfl⟩;exact⟨rfl,Below.refl _ _⟩))
 have cA: ∀d H,Calls Tryz.prog 116 #[.string x.loc,.string x.name] (grow (redrawn (w.alloc (.cells #[.int .i64 x.kind,.string x.name,.string x.loc,.string x.spec] 86)) d) H) fun e z=>e= .returned (.string at')∧∃p:Regrown,z=grow (redrawn (w.alloc (.cells #[.int .i64 x.kind,.string x.name,.string x.loc,.string x.spec] 86)) p.d) p.os:=fun d H=>Calls.regrown_of (by rw[←hat];exact (zin x.loc x.name _ (by omega) (by omega)).mono (by rintro e w' ⟨rfl,rfl⟩;exact⟨rfl,Below.refl _ _⟩))
 have V: ∀w:World,Calls Tryz.prog 81 #[.string x.spec] w fun e w'=>e= .returned (.string N)∧w'=w:=fun w=>by rw[←j];exact zgJ x.spec w (by omega)
 have M: ∀w:World,Calls Tryz.prog 116 #[.string x.loc,.string x.name] w fun e w'=>e= .returned (.string at')∧w'=w:=fun w=>by rw[←hat];exact zin x.loc x.name w (by omega) (by omega)
 have X:=zc (zdH (heap_alloc_new w (.cells #[.int .i64 x.kind,.string x.name,.string x.loc,.string x.spec] 86)))
 clear j hat Y ha
 unfold epV
 cases U:(x.kind==3) with
 |true=>
  have J:Hid (zbw x=({data:=#[101,120,112,111,114,116,32,42,32,102,114,111,109,32]}:ByteArray)++za2 x.spec++({data:=#[59,10]}:ByteArray)):=by show _=_;rw[zbw,U];rfl
  go_enter Tryz.func83,Tryz.ntmps83
  go_wp2_with fail
  refine (V _).mono ?_
  rintro e A ⟨rfl,I⟩
  rw[I]
  clear I A
  go_wp2
  go_ret
  exact⟨zar (by rw[J.out,QT.out]),(Below.refl _ _).alloc (Nat.le_refl _) _⟩
 |false=>
  cases Z:(x.kind==2) with
  |true=>
   have J:Hid (zbw x=({data:=#[101,120,112,111,114,116,32,123,32]}:ByteArray)++asT x.loc x.name++({data:=#[32,125,32,102,114,111,109,32]}:ByteArray)++za2 x.spec++({data:=#[59,10]}:ByteArray)):=by show _=_;rw[zbw,U,Z];rfl
   go_enter Tryz.func83,Tryz.ntmps83
   go_wp2_with fail
   have y0:=cell_regrown X.out.1
   have y1:=cell_regrown X.out.2.1
   have y2:=cell_regrown X.out.2.2.1
   have y3:=cell_regrown X.out.2.2.2.1
   refine wp_region_quiet_below (by kernel_rfl) (by kernel_rfl) ?_
   repeat (go_big_quiet_step (first|with_reducible exact cQ _ _|with_reducible exact cA _ _))
   refine wpQuiet_nil ?_
   intro A L
   obtain⟨⟨dq,aa⟩,q⟩:=L
   have O:Hid (Below w.heap.size w A):=by show Below _ _ _;rw[q];exact ((Below.refl _ _).alloc (Nat.le_refl _) _).trans ((below_regrown _ _ _).mono (by rw[zl];omega))
   clear q
   go_wp2
   go_ret
   exact⟨zar (by rw[J.out,QT.out,AT.out]),O.out⟩
  |false=>
   have J:Hid (zbw x=({data:=#[101,120,112,111,114,116,32,123,32]}:ByteArray)++asT x.loc x.name++({data:=#[32,125,59,10]}:ByteArray)):=by show _=_;rw[zbw,U,Z];rfl
   go_enter Tryz.func83,Tryz.ntmps83
   go_wp2_with fail
   refine (M _).mono ?_
   rintro e A ⟨rfl,I⟩
   rw[I]
   clear I A
   go_wp2
   go_ret
   exact⟨zar (by rw[J.out,AT.out]),(Below.refl _ _).alloc (Nat.le_refl _) _⟩
theorem zrN (j:Nat) (S:Sv) (m:Md) (k:Int) (n:ByteArray) (i:Nat) (w:World) (h:OwnMd w j S m) (O:i<m.ex.length) (U:zaW m.ex) (Y:zb3 m.ex) (I:wt m.ex i≤1099511627776) (_:n.size≤4294967296) (J:(k==1)=true) (N:(n.toList==[42,100,101,102,97,117,108,116])=true):
  Calls Tryz.prog 84 #[zp S m,.agg #[.int .i64 k,.string n,.int .i64 (i:Int)]] w fun e w'=>e= .returned (.string (za7 k n (prX m.ex i)))∧Below w.heap.size w w':=by
 have X:=zc h
 have Z:Hid (za7 k n (prX m.ex i)=({data:=#[101,120,112,111,114,116,32,100,101,102,97,117,108,116,32]}:ByteArray)++prX m.ex i++({data:=#[59,10]}:ByteArray)):=by show _=_;rw[za7,J,N];rfl
 have q:=I
 unfold wt at q
 have V:=zc (And.intro (zcA (o':=.cells #[.int .i64 k,.string n,.int .i64 (i:Int)] 107) (heap_alloc_new w (.cells #[.slice S.rq.a m.rq.length S.rq.cap,.slice S.im.a m.im.length S.im.cap,.slice S.ep.a m.ep.length S.ep.cap,.slice S.st.a m.st.length S.st.cap,.slice S.ex.a m.ex.length S.ex.cap] 36))) (new2 w (.cells #[.slice S.rq.a m.rq.length S.rq.cap,.slice S.im.a m.im.length S.im.cap,.slice S.ep.a m.ep.length S.ep.cap,.slice S.st.a m.st.length S.st.cap,.slice S.ex.a m.ex.length S.ex.cap] 36) (.cells #[.int .i64 k,.string n,.int .i64 (i:Int)] 107)))
 clear h
 unfold zp
 go_enter Tryz.func84,Tryz.ntmps84
 go_wp2_with fail
 refine (zem j S m i _ U Y O ((X.out.alloc _).alloc _) I).mono ?_
 rintro e L ⟨rfl,A⟩
 have M:Hid (Below w.heap.size w L):=(zbc w _ _).trans (A.mono (by rw[zl,zl];omega))
 have H:=zc ((A.block _ (by rw[zl,zl];omega)).trans V.out.2)
 obtain⟨c0,c1,c2,cf⟩:=zbJ H.out
 clear A
 obtain⟨t,z⟩: ∃t,prX m.ex i=t:=⟨_,rfl⟩
 rw[z] at q ⊢
 have HT:=zc z
 clear z
 go_wp2
 go_ret
 exact⟨zar (by rw[Z.out,HT.out]),M.out⟩
theorem zrO (j:Nat) (S:Sv) (m:Md) (k:Int) (n:ByteArray) (i:Nat) (w:World) (h:OwnMd w j S m) (O:i<m.ex.length) (U:zaW m.ex) (Y:zb3 m.ex) (I:wt m.ex i≤1099511627776) (hs:n.size≤4294967296) (J:(k==1)=true) (N:(n.toList==[42,100,101,102,97,117,108,116])=false):
  Calls Tryz.prog 84 #[zp S m,.agg #[.int .i64 k,.string n,.int .i64 (i:Int)]] w fun e w'=>e= .returned (.string (za7 k n (prX m.ex i)))∧Below w.heap.size w w':=by
 have X:=zc h
 have Z:Hid (za7 k n (prX m.ex i)=({data:=#[108,101,116,32]}:ByteArray)++n++({data:=#[32,61,32]}:ByteArray)++prX m.ex i++({data:=#[59,10]}:ByteArray)):=by show _=_;rw[za7,J,N];rfl
 have q:=I
 unfold wt at q
 have V:=zc (And.intro (zcA (o':=.cells #[.int .i64 k,.string n,.int .i64 (i:Int)] 107) (heap_alloc_new w (.cells #[.slice S.rq.a m.rq.length S.rq.cap,.slice S.im.a m.im.length S.im.cap,.slice S.ep.a m.ep.length S.ep.cap,.slice S.st.a m.st.length S.st.cap,.slice S.ex.a m.ex.length S.ex.cap] 36))) (new2 w (.cells #[.slice S.rq.a m.rq.length S.rq.cap,.slice S.im.a m.im.length S.im.cap,.slice S.ep.a m.ep.length S.ep.cap,.slice S.st.a m.st.length S.st.cap,.slice S.ex.a m.ex.length S.ex.cap] 36) (.cells #[.int .i64 k,.string n,.int .i64 (i:Int)] 107)))
 clear h
 unfold zp
 go_enter Tryz.func84,Tryz.ntmps84
 go_wp2_with fail
 refine (zem j S m i _ U Y O ((X.out.alloc _).alloc _) I).mono ?_
 rintro e L ⟨rfl,A⟩
 have M:Hid (Below w.heap.size w L):=(zbc w _ _).trans (A.mono (by rw[zl,zl];omega))
 have H:=zc ((A.block _ (by rw[zl,zl];omega)).trans V.out.2)
 obtain⟨c0,c1,c2,cf⟩:=zbJ H.out
 clear A
 obtain⟨t,z⟩: ∃t,prX m.ex i=t:=⟨_,rfl⟩
 rw[z] at q ⊢
 have HT:=zc z
 clear z
 go_wp2
 go_ret
 exact⟨zar (by rw[Z.out,HT.out]),M.out⟩
theorem zrP (j:Nat) (S:Sv) (m:Md) (k:Int) (n:ByteArray) (i:Nat) (w:World) (h:OwnMd w j S m) (N:i<m.ex.length) (O:zaW m.ex) (Y:zb3 m.ex) (I:wt m.ex i≤1099511627776) (hs:n.size≤4294967296) (J:(k==1)=false) (U:(k==2)=true):
  Calls Tryz.prog 84 #[zp S m,.agg #[.int .i64 k,.string n,.int .i64 (i:Int)]] w fun e w'=>e= .returned (.string (za7 k n (prX m.ex i)))∧Below w.heap.size w w':=by
 have X:=zc h
 have Z:Hid (za7 k n (prX m.ex i)=({data:=#[102,117,110,99,116,105,111,110,32]}:ByteArray)++n++({data:=#[40,41,32,123,32,114,101,116,117,114,110,32]}:ByteArray)++prX m.ex i++({data:=#[59,32,125,10]}:ByteArray)):=by show _=_;rw[za7,J,U];rfl
 have q:=I
 unfold wt at q
 have V:=zc (And.intro (zcA (o':=.cells #[.int .i64 k,.string n,.int .i64 (i:Int)] 107) (heap_alloc_new w (.cells #[.slice S.rq.a m.rq.length S.rq.cap,.slice S.im.a m.im.length S.im.cap,.slice S.ep.a m.ep.length S.ep.cap,.slice S.st.a m.st.length S.st.cap,.slice S.ex.a m.ex.length S.ex.cap] 36))) (new2 w (.cells #[.slice S.rq.a m.rq.length S.rq.cap,.slice S.im.a m.im.length S.im.cap,.slice S.ep.a m.ep.length S.ep.cap,.slice S.st.a m.st.length S.st.cap,.slice S.ex.a m.ex.length S.ex.cap] 36) (.cells #[.int .i64 k,.string n,.int .i64 (i:Int)] 107)))
 clear h
 unfold zp
 go_enter Tryz.func84,Tryz.ntmps84
 go_wp2_with fail
 refine (zem j S m i _ O Y N ((X.out.alloc _).alloc _) I).mono ?_
 rintro e L ⟨rfl,A⟩
 have M:Hid (Below w.heap.size w L):=(zbc w _ _).trans (A.mono (by rw[zl,zl];omega))
 have H:=zc ((A.block _ (by rw[zl,zl];omega)).trans V.out.2)
 obtain⟨c0,c1,c2,cf⟩:=zbJ H.out
 clear A
 obtain⟨t,z⟩: ∃t,prX m.ex i=t:=⟨_,rfl⟩
 rw[z] at q ⊢
 have HT:=zc z
 clear z
 go_wp2
 go_ret
 exact⟨zar (by rw[Z.out,HT.out]),M.out⟩
theorem zrQ (j:Nat) (S:Sv) (m:Md) (k:Int) (n:ByteArray) (i:Nat) (w:World) (h:OwnMd w j S m) (O:i<m.ex.length) (U:zaW m.ex) (Z:zb3 m.ex) (I:wt m.ex i≤1099511627776) (hs:n.size≤4294967296) (J:(k==1)=false) (V:(k==2)=false) (M:(k==3)=true):
  Calls Tryz.prog 84 #[zp S m,.agg #[.int .i64 k,.string n,.int .i64 (i:Int)]] w fun e w'=>e= .returned (.string (za7 k n (prX m.ex i)))∧Below w.heap.size w w':=by
 have Y:=zc h
 have HV:Hid (za7 k n (prX m.ex i)=n++({data:=#[32,61,32]}:ByteArray)++prX m.ex i++({data:=#[59,10]}:ByteArray)):=by show _=_;rw[za7,J,V,M];rfl
 have q:=I
 unfold wt at q
 have X:=zc (And.intro (zcA (o':=.cells #[.int .i64 k,.string n,.int .i64 (i:Int)] 107) (heap_alloc_new w (.cells #[.slice S.rq.a m.rq.length S.rq.cap,.slice S.im.a m.im.length S.im.cap,.slice S.ep.a m.ep.length S.ep.cap,.slice S.st.a m.st.length S.st.cap,.slice S.ex.a m.ex.length S.ex.cap] 36))) (new2 w (.cells #[.slice S.rq.a m.rq.length S.rq.cap,.slice S.im.a m.im.length S.im.cap,.slice S.ep.a m.ep.length S.ep.cap,.slice S.st.a m.st.length S.st.cap,.slice S.ex.a m.ex.length S.ex.cap] 36) (.cells #[.int .i64 k,.string n,.int .i64 (i:Int)] 107)))
 clear h
 unfold zp
 go_enter Tryz.func84,Tryz.ntmps84
 go_wp2_with fail
 refine (zem j S m i _ U Z O ((Y.out.alloc _).alloc _) I).mono ?_
 rintro e L ⟨rfl,A⟩
 have N:Hid (Below w.heap.size w L):=(zbc w _ _).trans (A.mono (by rw[zl,zl];omega))
 have H:=zc ((A.block _ (by rw[zl,zl];omega)).trans X.out.2)
 obtain⟨c0,c1,c2,cf⟩:=zbJ H.out
 clear A
 obtain⟨t,z⟩: ∃t,prX m.ex i=t:=⟨_,rfl⟩
 rw[z] at q ⊢
 have HT:=zc z
 clear z
 go_wp2
 go_ret
 exact⟨zar (by rw[HV.out,HT.out]),N.out⟩
theorem zrR (j:Nat) (S:Sv) (m:Md) (k:Int) (n:ByteArray) (i:Nat) (w:World) (h:OwnMd w j S m) (O:i<m.ex.length) (U:zaW m.ex) (Z:zb3 m.ex) (I:wt m.ex i≤1099511627776) (_:n.size≤4294967296) (J:(k==1)=false) (V:(k==2)=false) (M:(k==3)=false) (k4:(k==4)=true):
  Calls Tryz.prog 84 #[zp S m,.agg #[.int .i64 k,.string n,.int .i64 (i:Int)]] w fun e w'=>e= .returned (.string (za7 k n (prX m.ex i)))∧Below w.heap.size w w':=by
 have Y:=zc h
 have HV:Hid (za7 k n (prX m.ex i)=({data:=#[112,114,105,110,116,40]}:ByteArray)++prX m.ex i++({data:=#[41,59,10]}:ByteArray)):=by show _=_;rw[za7,J,V,M,k4];rfl
 have q:=I
 unfold wt at q
 have X:=zc (And.intro (zcA (o':=.cells #[.int .i64 k,.string n,.int .i64 (i:Int)] 107) (heap_alloc_new w (.cells #[.slice S.rq.a m.rq.length S.rq.cap,.slice S.im.a m.im.length S.im.cap,.slice S.ep.a m.ep.length S.ep.cap,.slice S.st.a m.st.length S.st.cap,.slice S.ex.a m.ex.length S.ex.cap] 36))) (new2 w (.cells #[.slice S.rq.a m.rq.length S.rq.cap,.slice S.im.a m.im.length S.im.cap,.slice S.ep.a m.ep.length S.ep.cap,.slice S.st.a m.st.length S.st.cap,.slice S.ex.a m.ex.length S.ex.cap] 36) (.cells #[.int .i64 k,.string n,.int .i64 (i:Int)] 107)))
 clear h
 unfold zp
 go_enter Tryz.func84,Tryz.ntmps84
 go_wp2_with fail
 refine (zem j S m i _ U Z O ((Y.out.alloc _).alloc _) I).mono ?_
 rintro e L ⟨rfl,A⟩
 have N:Hid (Below w.heap.size w L):=(zbc w _ _).trans (A.mono (by rw[zl,zl];omega))
 have H:=zc ((A.block _ (by rw[zl,zl];omega)).trans X.out.2)
 obtain⟨c0,c1,c2,cf⟩:=zbJ H.out
 clear A
 obtain⟨t,z⟩: ∃t,prX m.ex i=t:=⟨_,rfl⟩
 rw[z] at q ⊢
 have HT:=zc z
 clear z
 go_wp2
 go_ret
 exact⟨zar (by rw[HV.out,HT.out]),N.out⟩
theorem zrS (j:Nat) (S:Sv) (m:Md) (k:Int) (n:ByteArray) (i:Nat) (w:World) (h:OwnMd w j S m) (V:i<m.ex.length) (X:zaW m.ex) (ha:zb3 m.ex) (I:wt m.ex i≤1099511627776) (_:n.size≤4294967296) (J:(k==1)=false) (Y:(k==2)=false) (N:(k==3)=false) (k4:(k==4)=false) (U:(k==5)=true):
  Calls Tryz.prog 84 #[zp S m,.agg #[.int .i64 k,.string n,.int .i64 (i:Int)]] w fun e w'=>e= .returned (.string (za7 k n (prX m.ex i)))∧Below w.heap.size w w':=by
 have Z:=zc h
 have HV:Hid (za7 k n (prX m.ex i)=({data:=#[116,104,114,111,119,32]}:ByteArray)++prX m.ex i++({data:=#[59,10]}:ByteArray)):=by show _=_;rw[za7,J,Y,N,k4,U];rfl
 have q:=I
 unfold wt at q
 have HX:=zc (And.intro (zcA (o':=.cells #[.int .i64 k,.string n,.int .i64 (i:Int)] 107) (heap_alloc_new w (.cells #[.slice S.rq.a m.rq.length S.rq.cap,.slice S.im.a m.im.length S.im.cap,.slice S.ep.a m.ep.length S.ep.cap,.slice S.st.a m.st.length S.st.cap,.slice S.ex.a m.ex.length S.ex.cap] 36))) (new2 w (.cells #[.slice S.rq.a m.rq.length S.rq.cap,.slice S.im.a m.im.length S.im.cap,.slice S.ep.a m.ep.length S.ep.cap,.slice S.st.a m.st.length S.st.cap,.slice S.ex.a m.ex.length S.ex.cap] 36) (.cells #[.int .i64 k,.string n,.int .i64 (i:Int)] 107)))
 clear h
 unfold zp
 go_enter Tryz.func84,Tryz.ntmps84
 go_wp2_with fail
 refine (zem j S m i _ X ha V ((Z.out.alloc _).alloc _) I).mono ?_
 rintro e L ⟨rfl,A⟩
 have O:Hid (Below w.heap.size w L):=(zbc w _ _).trans (A.mono (by rw[zl,zl];omega))
 have H:=zc ((A.block _ (by rw[zl,zl];omega)).trans HX.out.2)
 obtain⟨c0,c1,c2,cf⟩:=zbJ H.out
 clear A
 obtain⟨t,z⟩: ∃t,prX m.ex i=t:=⟨_,rfl⟩
 rw[z] at q ⊢
 have M:=zc z
 clear z
 go_wp2
 go_ret
 exact⟨zar (by rw[HV.out,M.out]),O.out⟩
theorem zrT (j:Nat) (S:Sv) (m:Md) (k:Int) (n:ByteArray) (i:Nat) (w:World) (h:OwnMd w j S m) (V:i<m.ex.length) (X:zaW m.ex) (ha:zb3 m.ex) (I:wt m.ex i≤1099511627776) (_:n.size≤4294967296) (J:(k==1)=false) (Y:(k==2)=false) (N:(k==3)=false) (k4:(k==4)=false) (U:(k==5)=false):
  Calls Tryz.prog 84 #[zp S m,.agg #[.int .i64 k,.string n,.int .i64 (i:Int)]] w fun e w'=>e= .returned (.string (za7 k n (prX m.ex i)))∧Below w.heap.size w w':=by
 have Z:=zc h
 have HV:Hid (za7 k n (prX m.ex i)=({data:=#[102,97,105,108,32]}:ByteArray)++prX m.ex i++({data:=#[59,10]}:ByteArray)):=by show _=_;rw[za7,J,Y,N,k4,U];rfl
 have q:=I
 unfold wt at q
 have HX:=zc (And.intro (zcA (o':=.cells #[.int .i64 k,.string n,.int .i64 (i:Int)] 107) (heap_alloc_new w (.cells #[.slice S.rq.a m.rq.length S.rq.cap,.slice S.im.a m.im.length S.im.cap,.slice S.ep.a m.ep.length S.ep.cap,.slice S.st.a m.st.length S.st.cap,.slice S.ex.a m.ex.length S.ex.cap] 36))) (new2 w (.cells #[.slice S.rq.a m.rq.length S.rq.cap,.slice S.im.a m.im.length S.im.cap,.slice S.ep.a m.ep.length S.ep.cap,.slice S.st.a m.st.length S.st.cap,.slice S.ex.a m.ex.length S.ex.cap] 36) (.cells #[.int .i64 k,.string n,.int .i64 (i:Int)] 107)))
 clear h
 unfold zp
 go_enter Tryz.func84,Tryz.ntmps84
 go_wp2_with fail
 refine (zem j S m i _ X ha V ((Z.out.alloc _).alloc _) I).mono ?_
 rintro e L ⟨rfl,A⟩
 have O:Hid (Below w.heap.size w L):=(zbc w _ _).trans (A.mono (by rw[zl,zl];omega))
 have H:=zc ((A.block _ (by rw[zl,zl];omega)).trans HX.out.2)
 obtain⟨c0,c1,c2,cf⟩:=zbJ H.out
 clear A
 obtain⟨t,z⟩: ∃t,prX m.ex i=t:=⟨_,rfl⟩
 rw[z] at q ⊢
 have M:=zc z
 clear z
 go_wp2
 go_ret
 exact⟨zar (by rw[HV.out,M.out]),O.out⟩
theorem zrU (j:Nat) (S:Sv) (m:Md) (k:Int) (n:ByteArray) (i:Nat) (w:World) (h:OwnMd w j S m) (I:i<m.ex.length) (J:zaW m.ex) (A:zb3 m.ex) (z:wt m.ex i≤1099511627776) (H:n.size≤4294967296):
  Calls Tryz.prog 84 #[zp S m,.agg #[.int .i64 k,.string n,.int .i64 (i:Int)]] w fun e w'=>e= .returned (.string (za7 k n (prX m.ex i)))∧Below w.heap.size w w':=by
 cases q:(k==1) with
 |true=>
  cases O:(n.toList==[42,100,101,102,97,117,108,116]) with
  |true=>exact zrN j S m k n i w h I J A z H q O
  |false=>exact zrO j S m k n i w h I J A z H q O
 |false=>
  cases L:(k==2) with
  |true=>exact zrP j S m k n i w h I J A z H q L
  |false=>
   cases M:(k==3) with
   |true=>exact zrQ j S m k n i w h I J A z H q L M
   |false=>
    cases N:(k==4) with
    |true=>exact zrR j S m k n i w h I J A z H q L M N
    |false=>
     cases U:(k==5) with
     |true=>exact zrS j S m k n i w h I J A z H q L M N U
     |false=>exact zrT j S m k n i w h I J A z H q L M N U
theorem zkW (a b:List Ex) (k:Int):zau (a++b) k=zau a k+zau b k:=by simp[zau]
theorem zkX (a b:List Sm) (k:Int):zaN (a++b) k=zaN a k+zaN b k:=by simp[zaN]
theorem zkY {ex:List Ex} {i:Nat} (j:i<ex.length) (k:Int):zau (ex.take (i+1)) k=zau (ex.take i) k+u1 ex[i] k:=by
 rw[List.take_succ_eq_append_getElem j,zkW]
 simp[zau,u1]
theorem zrV {j:List Sm} {i:Nat} (q:i<j.length) (k:Int):zaN (j.take (i+1)) k=zaN (j.take i) k+if j[i].expr==k then 1 else 0:=by
 rw[List.take_succ_eq_append_getElem q,zkX]
 simp[zaN]
theorem zgK (ex:List Ex) (k:Int):zau ex k≤2*ex.length:=by
 induction ex with
 |nil=>simp[zau]
 |cons x l j=>
  rw[show x::l=[x]++l from rfl,zkW]
  have:zau [x] k≤2:=by
   simp only[zau,List.map_cons,List.map_nil,List.sum_cons,List.sum_nil]
   split
   ·split<;>split<;>omega
   ·omega
  simp only[List.length_append,List.length_cons,List.length_nil]
  omega
theorem zkZ (j:List Sm) (k:Int):zaN j k≤j.length:=by
 induction j with
 |nil=>simp[zaN]
 |cons x l q=>
  rw[show x::l=[x]++l from rfl,zkX]
  have:zaN [x] k≤1:=by
   simp only[zaN,List.map_cons,List.map_nil,List.sum_cons,List.sum_nil]
   split<;>omega
  simp only[List.length_append,List.length_cons,List.length_nil]
  omega
def zat (n:Nat) (f:Nat→Nat):List Value:=(List.range n).map fun k=>.int .i64 (f k:Int)
theorem zip (n:Nat) (f:Nat→Nat):(zat n f).length=n:=by simp[zat]
theorem zgL {n:Nat} (f:Nat→Nat) {k:Nat} (j:k<n):(zat n f)[k]? =some (.int .i64 (f k:Int)):=by
 unfold zat
 rw[List.getElem?_map,List.getElem?_range j]
 rfl
theorem zrW {n l:Nat} (f g:Nat→Nat) (v:Nat) (q:g l=v) (h: ∀k,k≠l→g k=f k):(zat n f).set l (.int .i64 (v:Int))=zat n g:=by
 apply List.ext_getElem?
 intro k
 by_cases j:k<n
 ·by_cases e:k=l
  ·subst e
   rw[List.getElem?_set_self (by rw[zip];exact j),zgL g j,q]
  ·rw[List.getElem?_set_ne (fun x=>e x.symm),zgL f j,zgL g j,h k e]
 ·rw[List.getElem?_eq_none (by rw[List.length_set,zip];omega),List.getElem?_eq_none (by rw[zip];omega)]
theorem zen {n:Nat} {f g:Nat→Nat} (h: ∀k,k<n→f k=g k):zat n f=zat n g:=by
 unfold zat
 refine List.map_congr_left fun k j=>?_
 rw[h k (List.mem_range.1 j)]
def zaK (f:Nat→Nat) (l:Nat):Nat→Nat:=fun k=>f k+if k=l then 1 else 0
theorem zrX (f:Nat→Nat) (l:Nat):zaK f l l=f l+1:=by simp[zaK]
theorem zrY (f:Nat→Nat) {l k:Nat} (h:k≠l):zaK f l k=f k:=by simp[zaK,h]
theorem zla {ex:List Ex} {i:Nat} (A:i<ex.length) (z:zaa ex[i].kind=true) (I:0≤ex[i].l) (H:0≤ex[i].r) (k:Nat):zaK (zaK (fun k=>zau (ex.take i) (k:Int)) ex[i].l.toNat) ex[i].r.toNat k=zau (ex.take (i+1)) (k:Int):=by
 rw[zkY A,u1,if_pos z]
 unfold zaK
 have j:(ex[i].l==(k:Int))=decide (k=ex[i].l.toNat):=by
  rw[Bool.eq_iff_iff,beq_iff_eq,decide_eq_true_iff];omega
 have q:(ex[i].r==(k:Int))=decide (k=ex[i].r.toNat):=by
  rw[Bool.eq_iff_iff,beq_iff_eq,decide_eq_true_iff];omega
 rw[j,q]
 simp only[decide_eq_true_eq]
 omega
theorem zlb {ex:List Ex} {i:Nat} (j:i<ex.length) (q:zaa ex[i].kind=false) (k:Nat):zau (ex.take i) (k:Int)=zau (ex.take (i+1)) (k:Int):=by
 rw[zkY j,u1,if_neg (by rw[q];decide),Nat.add_zero]
theorem zlc {j:List Sm} {ex:List Ex} {i:Nat} (q:i<j.length) (A:0≤j[i].expr) (k:Nat):zaK (fun k=>zau ex (k:Int)+zaN (j.take i) (k:Int)) j[i].expr.toNat k=zau ex (k:Int)+zaN (j.take (i+1)) (k:Int):=by
 rw[zrV q]
 unfold zaK
 have z:(j[i].expr==(k:Int))=decide (k=j[i].expr.toNat):=by
  rw[Bool.eq_iff_iff,beq_iff_eq,decide_eq_true_iff];omega
 rw[z]
 simp only[decide_eq_true_eq]
 omega
def AheadTo (ex:List Ex) (n:Nat):Prop:=∀(i:Nat) (x:Ex),i<n→ex[i]? =some x→zaa x.kind=true→0≤x.l∧x.l<(i:Int)∧0≤x.r∧x.r<(i:Int)
theorem AheadTo.all {ex:List Ex} (h:AheadTo ex ex.length):zb3 ex:=fun i x j=>h i x (List.getElem?_eq_some_iff.1 j).1 j
theorem AheadTo.next {ex:List Ex} {i:Nat} (h:AheadTo ex i) (I:i<ex.length) (A:zaa ex[i].kind=true→0≤ex[i].l∧ex[i].l<(i:Int)∧0≤ex[i].r∧ex[i].r<(i:Int)):AheadTo ex (i+1):=by
 intro j x H q z
 by_cases e:j=i
 ·subst e
  obtain⟨_,rfl⟩:=List.getElem?_eq_some_iff.1 q
  exact A z
 ·exact h j x (by omega) q z
theorem AheadTo.not {ex:List Ex} {i:Nat} (j:i<ex.length) (q:zaa ex[i].kind=true) (z: ¬(0≤ex[i].l∧ex[i].l<(i:Int)∧0≤ex[i].r∧ex[i].r<(i:Int))): ¬zb3 ex:=fun h=>z (h i _ (List.getElem?_eq_getElem j) q)
end Go.Proofs.YtjdddblpfbmpaaaGreat
