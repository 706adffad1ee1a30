/-
 What is known of a program that came in.
-/
import Derived.Test.YticdggnnpjachaaGreatCcLawSzToLawToMod
import Derived.ChangeArms
namespace Go.Proofs.YticdggnnpjachaaGreat
open Go.RowKit Go.PlainAid Go.Deep
theorem zqI {n:Int} (h:(Lit.int .i64 n).wf=true): -9223372036854775808≤n∧n≤9223372036854775807:=bounds_i64 h
theorem list3 {α:Type} {l:List α} (h:l.length=3): ∃o j n,l=[o,j,n]:=by
 match l,h with
 |[o,j,n],_=>exact⟨o,j,n,rfl⟩
theorem zjw {α:Type} {l:List α} (h:l.length=4): ∃o j n q,l=[o,j,n,q]:=by
 match l,h with
 |[o,j,n,q],_=>exact⟨o,j,n,q,rfl⟩
theorem zjx {α:Type} {l:List α} (h:l.length=5): ∃o n j q w,l=[o,n,j,q,w]:=by
 match l,h with
 |[o,n,j,q,w],_=>exact⟨o,n,j,q,w,rfl⟩
theorem zjy {α:Type} {l:List α} (h:l.length=6): ∃q n j w z o,l=[q,n,j,w,z,o]:=by
 match l,h with
 |[q,n,j,w,z,o],_=>exact⟨q,n,j,w,z,o,rfl⟩
theorem zqJ {H:Type} {enc:TypeId×Value→H} {w:World} {q:Nat} {j:Nat→Bool} {o:Bool} {n:Nat} {A:List Value} {y:DataW H×List MemPlace} (h:DataW.trod enc Tryz.prog w q j o n 9 A=some y) (_:A.length=1): ∃x:ByteArray,A=[Value.string x]∧zea x:=by
 obtain⟨s,e,_,z⟩:=DataW.trod_string Tryz.underlying9 h
 refine⟨s,e,?_⟩
 unfold zea
 unfold maxLen at z
 omega
theorem zqK {H:Type} {enc:TypeId×Value→H} {w:World} {q:Nat} {j:Nat→Bool} {o:Bool} {n:Nat} {K:List Value} {y:DataW H×List MemPlace} (h:DataW.trod enc Tryz.prog w q j o n 135 K=some y) (hl:K.length=3): ∃x:Im,K=imL x∧zdz x:=by
 obtain⟨xs,k,_,_,_,M,L⟩:=DataW.trod_struct Tryz.underlying135 h
 have cS:Tryz.prog.cellsOf 9=1:=by kernel_rfl
 obtain⟨z,I,D,rfl⟩:=list3 hl
 obtain⟨N,X,O,rfl⟩:=list3 (M.trans rfl)
 have E:DataW.trod enc Tryz.prog w q j o k 9 (List.take (Tryz.prog.cellsOf 9) (List.drop 0 [z,I,D]))=some N:=L 0 _ rfl
 rw[cS] at E
 replace E:DataW.trod enc Tryz.prog w q j o k 9 [z]=some N:=E
 have J:DataW.trod enc Tryz.prog w q j o k 9 (List.take (Tryz.prog.cellsOf 9) (List.drop 1 [z,I,D]))=some X:=L 1 _ rfl
 rw[cS] at J
 replace J:DataW.trod enc Tryz.prog w q j o k 9 [I]=some X:=J
 have A:DataW.trod enc Tryz.prog w q j o k 9 (List.take (Tryz.prog.cellsOf 9) (List.drop 2 [z,I,D]))=some O:=L 2 _ rfl
 rw[cS] at A
 replace A:DataW.trod enc Tryz.prog w q j o k 9 [D]=some O:=A
 obtain⟨s0,Y,_,z0⟩:=DataW.trod_string Tryz.underlying9 E
 simp only[List.cons.injEq,and_true] at Y
 subst Y
 obtain⟨Z,V,_,z1⟩:=DataW.trod_string Tryz.underlying9 J
 simp only[List.cons.injEq,and_true] at V
 subst V
 obtain⟨s2,U,_,z2⟩:=DataW.trod_string Tryz.underlying9 A
 simp only[List.cons.injEq,and_true] at U
 subst U
 refine⟨⟨s0,Z,s2⟩,rfl,?_⟩
 unfold zdz
 unfold maxLen at z0
 unfold maxLen at z1
 unfold maxLen at z2
 exact⟨by show _≤_;omega,by show _≤_;omega,by show _≤_;omega⟩
theorem zqL {H:Type} {enc:TypeId×Value→H} {w:World} {q:Nat} {j:Nat→Bool} {o:Bool} {n:Nat} {N:List Value} {y:DataW H×List MemPlace} (h:DataW.trod enc Tryz.prog w q j o n 137 N=some y) (hl:N.length=4): ∃x:Ep,N=epL x∧zd0 x:=by
 obtain⟨xs,k,_,_,_,O,I⟩:=DataW.trod_struct Tryz.underlying137 h
 have cS:Tryz.prog.cellsOf 9=1:=by kernel_rfl
 have cI:Tryz.prog.cellsOf 3=1:=by kernel_rfl
 obtain⟨z,E,A,D,rfl⟩:=zjw hl
 obtain⟨X,y1,Y,V,rfl⟩:=zjw (O.trans rfl)
 have K:DataW.trod enc Tryz.prog w q j o k 3 (List.take (Tryz.prog.cellsOf 3) (List.drop 0 [z,E,A,D]))=some X:=I 0 _ rfl
 rw[cI] at K
 replace K:DataW.trod enc Tryz.prog w q j o k 3 [z]=some X:=K
 have M:DataW.trod enc Tryz.prog w q j o k 9 (List.take (Tryz.prog.cellsOf 9) (List.drop 1 [z,E,A,D]))=some y1:=I 1 _ rfl
 rw[cS] at M
 replace M:DataW.trod enc Tryz.prog w q j o k 9 [E]=some y1:=M
 have J:DataW.trod enc Tryz.prog w q j o k 9 (List.take (Tryz.prog.cellsOf 9) (List.drop 2 [z,E,A,D]))=some Y:=I 2 _ rfl
 rw[cS] at J
 replace J:DataW.trod enc Tryz.prog w q j o k 9 [A]=some Y:=J
 have L:DataW.trod enc Tryz.prog w q j o k 9 (List.take (Tryz.prog.cellsOf 9) (List.drop 3 [z,E,A,D]))=some V:=I 3 _ rfl
 rw[cS] at L
 replace L:DataW.trod enc Tryz.prog w q j o k 9 [D]=some V:=L
 obtain⟨s0,e0,_,z0⟩:=DataW.trod_int Tryz.underlying3 K
 simp only[List.cons.injEq,and_true] at e0
 subst e0
 obtain⟨s1,e1,_,z1⟩:=DataW.trod_string Tryz.underlying9 M
 simp only[List.cons.injEq,and_true] at e1
 subst e1
 obtain⟨s2,Z,_,z2⟩:=DataW.trod_string Tryz.underlying9 J
 simp only[List.cons.injEq,and_true] at Z
 subst Z
 obtain⟨s3,U,_,z3⟩:=DataW.trod_string Tryz.underlying9 L
 simp only[List.cons.injEq,and_true] at U
 subst U
 refine⟨⟨s0,s1,s2,s3⟩,rfl,?_⟩
 unfold zd0
 unfold maxLen at z1
 unfold maxLen at z2
 unfold maxLen at z3
 exact⟨by show _≤_;omega,by show _≤_;omega,by show _≤_;omega⟩
theorem zqM {H:Type} {enc:TypeId×Value→H} {w:World} {q:Nat} {j:Nat→Bool} {o:Bool} {n:Nat} {K:List Value} {y:DataW H×List MemPlace} (h:DataW.trod enc Tryz.prog w q j o n 139 K=some y) (hl:K.length=3): ∃x:Sm,K=smL x∧zd1 x:=by
 obtain⟨xs,k,_,_,_,M,L⟩:=DataW.trod_struct Tryz.underlying139 h
 have cS:Tryz.prog.cellsOf 9=1:=by kernel_rfl
 have Y:Tryz.prog.cellsOf 3=1:=by kernel_rfl
 obtain⟨z,I,D,rfl⟩:=list3 hl
 obtain⟨N,X,O,rfl⟩:=list3 (M.trans rfl)
 have E:DataW.trod enc Tryz.prog w q j o k 3 (List.take (Tryz.prog.cellsOf 3) (List.drop 0 [z,I,D]))=some N:=L 0 _ rfl
 rw[Y] at E
 replace E:DataW.trod enc Tryz.prog w q j o k 3 [z]=some N:=E
 have J:DataW.trod enc Tryz.prog w q j o k 9 (List.take (Tryz.prog.cellsOf 9) (List.drop 1 [z,I,D]))=some X:=L 1 _ rfl
 rw[cS] at J
 replace J:DataW.trod enc Tryz.prog w q j o k 9 [I]=some X:=J
 have A:DataW.trod enc Tryz.prog w q j o k 3 (List.take (Tryz.prog.cellsOf 3) (List.drop 2 [z,I,D]))=some O:=L 2 _ rfl
 rw[Y] at A
 replace A:DataW.trod enc Tryz.prog w q j o k 3 [D]=some O:=A
 obtain⟨s0,Z,_,z0⟩:=DataW.trod_int Tryz.underlying3 E
 simp only[List.cons.injEq,and_true] at Z
 subst Z
 obtain⟨s1,V,_,z1⟩:=DataW.trod_string Tryz.underlying9 J
 simp only[List.cons.injEq,and_true] at V
 subst V
 obtain⟨s2,U,_,z2⟩:=DataW.trod_int Tryz.underlying3 A
 simp only[List.cons.injEq,and_true] at U
 subst U
 refine⟨⟨s0,s1,s2⟩,rfl,?_⟩
 unfold zd1
 unfold maxLen at z1
 show _≤_
 omega
theorem zqN {H:Type} {enc:TypeId×Value→H} {w:World} {q:Nat} {j:Nat→Bool} {o:Bool} {n:Nat} {Y:List Value} {y:DataW H×List MemPlace} (h:DataW.trod enc Tryz.prog w q j o n 141 Y=some y) (hl:Y.length=6): ∃x:Ex,Y=exL x∧zd2 x∧(-9223372036854775808≤x.num∧x.num≤9223372036854775807):=by
 obtain⟨xs,k,_,_,_,Z,K⟩:=DataW.trod_struct Tryz.underlying141 h
 have cS:Tryz.prog.cellsOf 9=1:=by kernel_rfl
 have L:Tryz.prog.cellsOf 3=1:=by kernel_rfl
 obtain⟨z,I,A,D,J,E,rfl⟩:=zjy hl
 obtain⟨y0,y1,y2,y3,y4,y5,rfl⟩:=zjy (Z.trans rfl)
 have N:DataW.trod enc Tryz.prog w q j o k 3 (List.take (Tryz.prog.cellsOf 3) (List.drop 0 [z,I,A,D,J,E]))=some y0:=K 0 _ rfl
 rw[L] at N
 replace N:DataW.trod enc Tryz.prog w q j o k 3 [z]=some y0:=N
 have X:DataW.trod enc Tryz.prog w q j o k 3 (List.take (Tryz.prog.cellsOf 3) (List.drop 1 [z,I,A,D,J,E]))=some y1:=K 1 _ rfl
 rw[L] at X
 replace X:DataW.trod enc Tryz.prog w q j o k 3 [I]=some y1:=X
 have M:DataW.trod enc Tryz.prog w q j o k 9 (List.take (Tryz.prog.cellsOf 9) (List.drop 2 [z,I,A,D,J,E]))=some y2:=K 2 _ rfl
 rw[cS] at M
 replace M:DataW.trod enc Tryz.prog w q j o k 9 [A]=some y2:=M
 have U:DataW.trod enc Tryz.prog w q j o k 9 (List.take (Tryz.prog.cellsOf 9) (List.drop 3 [z,I,A,D,J,E]))=some y3:=K 3 _ rfl
 rw[cS] at U
 replace U:DataW.trod enc Tryz.prog w q j o k 9 [D]=some y3:=U
 have V:DataW.trod enc Tryz.prog w q j o k 3 (List.take (Tryz.prog.cellsOf 3) (List.drop 4 [z,I,A,D,J,E]))=some y4:=K 4 _ rfl
 rw[L] at V
 replace V:DataW.trod enc Tryz.prog w q j o k 3 [J]=some y4:=V
 have O:DataW.trod enc Tryz.prog w q j o k 3 (List.take (Tryz.prog.cellsOf 3) (List.drop 5 [z,I,A,D,J,E]))=some y5:=K 5 _ rfl
 rw[L] at O
 replace O:DataW.trod enc Tryz.prog w q j o k 3 [E]=some y5:=O
 obtain⟨s0,e0,_,z0⟩:=DataW.trod_int Tryz.underlying3 N
 simp only[List.cons.injEq,and_true] at e0
 subst e0
 obtain⟨s1,e1,_,z1⟩:=DataW.trod_int Tryz.underlying3 X
 simp only[List.cons.injEq,and_true] at e1
 subst e1
 obtain⟨s2,e2,_,z2⟩:=DataW.trod_string Tryz.underlying9 M
 simp only[List.cons.injEq,and_true] at e2
 subst e2
 obtain⟨s3,e3,_,z3⟩:=DataW.trod_string Tryz.underlying9 U
 simp only[List.cons.injEq,and_true] at e3
 subst e3
 obtain⟨s4,e4,_,z4⟩:=DataW.trod_int Tryz.underlying3 V
 simp only[List.cons.injEq,and_true] at e4
 subst e4
 obtain⟨s5,e5,_,z5⟩:=DataW.trod_int Tryz.underlying3 O
 simp only[List.cons.injEq,and_true] at e5
 subst e5
 refine⟨⟨s0,s1,s2,s3,s4,s5⟩,rfl,?_,zqI z1⟩
 unfold zd2
 unfold maxLen at z2
 unfold maxLen at z3
 exact⟨by show _≤_;omega,by show _≤_;omega⟩
theorem zqO {H:Type} {enc:TypeId×Value→H} {w:World} {q:Nat} {j:Nat→Bool} {o:Bool} {U:Nat} {E:List Value} {z:DataW H×List MemPlace} (h:DataW.trod enc Tryz.prog w q j o U 39 E=some z):
  ∃(A:MA) (m:Md),E=(zcZ A m).cells.toList∧ModIn w A m∧zf3 m∧zbg m.ex:=by
 obtain⟨xs,k,_,_,D,ad,N⟩:=DataW.trod_struct Tryz.underlying39 h
 have cM:Tryz.prog.cellsOf 39=5:=by kernel_rfl
 rw[cM] at D
 have O:Tryz.prog.cellsOf 22=1:=by kernel_rfl
 have ac:Tryz.prog.cellsOf 34=1:=by kernel_rfl
 have aa:Tryz.prog.cellsOf 35=1:=by kernel_rfl
 have ae:Tryz.prog.cellsOf 36=1:=by kernel_rfl
 have ab:Tryz.prog.cellsOf 37=1:=by kernel_rfl
 obtain⟨I,L,J,K,M,rfl⟩:=zjx D
 obtain⟨y0,y1,y2,y3,y4,rfl⟩:=zjx (ad.trans rfl)
 have X:DataW.trod enc Tryz.prog w q j o k 22 (List.take (Tryz.prog.cellsOf 22) (List.drop 0 [I,L,J,K,M]))=some y0:=N 0 _ rfl
 rw[O] at X
 replace X:DataW.trod enc Tryz.prog w q j o k 22 [I]=some y0:=X
 have g1:DataW.trod enc Tryz.prog w q j o k 34 (List.take (Tryz.prog.cellsOf 34) (List.drop 1 [I,L,J,K,M]))=some y1:=N 1 _ rfl
 rw[ac] at g1
 replace g1:DataW.trod enc Tryz.prog w q j o k 34 [L]=some y1:=g1
 have V:DataW.trod enc Tryz.prog w q j o k 35 (List.take (Tryz.prog.cellsOf 35) (List.drop 2 [I,L,J,K,M]))=some y2:=N 2 _ rfl
 rw[aa] at V
 replace V:DataW.trod enc Tryz.prog w q j o k 35 [J]=some y2:=V
 have Y:DataW.trod enc Tryz.prog w q j o k 36 (List.take (Tryz.prog.cellsOf 36) (List.drop 3 [I,L,J,K,M]))=some y3:=N 3 _ rfl
 rw[ae] at Y
 replace Y:DataW.trod enc Tryz.prog w q j o k 36 [K]=some y3:=Y
 have Z:DataW.trod enc Tryz.prog w q j o k 37 (List.take (Tryz.prog.cellsOf 37) (List.drop 4 [I,L,J,K,M]))=some y4:=N 4 _ rfl
 rw[ab] at Z
 replace Z:DataW.trod enc Tryz.prog w q j o k 37 [M]=some y4:=Z
 obtain⟨a0,c0,l0,e0,b0,r0,q0⟩:=zeB sNone (α:=ByteArray) (f:=(fun x=>[Value.string x])) (m:=1) (Q:=zea) (by omega) (fun _=>rfl) Tryz.underlying22 (by kernel_rfl) (fun n E y h D=>zqJ h D) X
 subst e0
 obtain⟨a1,c1,l1,e1,b1,r1,q1⟩:=zeB ⟨sNone,sNone,sNone⟩ (α:=Im) (f:=imL) (m:=3) (Q:=zdz) (by omega) (fun _=>rfl) Tryz.underlying34 (by kernel_rfl) (fun n E y h D=>zqK h D) g1
 subst e1
 obtain⟨a2,c2,l2,e2,b2,r2,q2⟩:=zeB ⟨0,sNone,sNone,sNone⟩ (α:=Ep) (f:=epL) (m:=4) (Q:=zd0) (by omega) (fun _=>rfl) Tryz.underlying35 (by kernel_rfl) (fun n E y h D=>zqL h D) V
 subst e2
 obtain⟨a3,c3,l3,e3,b3,r3,q3⟩:=zeB ⟨0,sNone,0⟩ (α:=Sm) (f:=smL) (m:=3) (Q:=zd1) (by omega) (fun _=>rfl) Tryz.underlying36 (by kernel_rfl) (fun n E y h D=>zqM h D) Y
 subst e3
 obtain⟨a4,c4,l4,e4,b4,r4,q4⟩:=zeB zf (α:=Ex) (f:=exL) (m:=6) (Q:=(fun x=>zd2 x∧(-9223372036854775808≤x.num∧x.num≤9223372036854775807))) (by omega) (fun _=>rfl) Tryz.underlying37 (by kernel_rfl) (fun n E y h D=>zqN h D) Z
 subst e4
 unfold maxLen at b0 b1 b2 b3 b4
 refine⟨⟨a0,a1,a2,a3,a4,c0,c1,c2,c3,c4⟩,⟨l0,l1,l2,l3,l4⟩,rfl,⟨r0,r1,r2,r3,r4⟩,⟨⟨?_,q0⟩,⟨?_,q1⟩,⟨?_,q2⟩,⟨?_,q3⟩,⟨?_,fun x hx=>(q4 x hx).1⟩⟩,fun x hx=>(q4 x hx).2⟩
 ·show l0.length≤_
  omega
 ·show l1.length≤_
  omega
 ·show l2.length≤_
  omega
 ·show l3.length≤_
  omega
 ·show l4.length≤_
  omega
end Go.Proofs.YticdggnnpjachaaGreat