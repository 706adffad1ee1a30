/-
 What is known of a program that came in.
-/
import Derived.Test.YticdggnnpjachaaGreatCcLawSzToLawToMod
import Derived.ChangeArms
namespace Go.Proofs.YticdggnnpjachaaGreat
open Go.RowKit Go.PlainAid Go.Deep
theorem zqI {n:Int} (h:(Lit.int .i64 n).wf=true): -9223372036854775808≤n∧n≤9223372036854775807:=bounds_i64 h
theorem list3 {α:Type} {l:List α} (h:l.length=3): ∃o n j,l=[o,n,j]:=by
 match l,h with
 |[o,n,j],_=>exact⟨o,n,j,rfl⟩
theorem zjw {α:Type} {l:List α} (h:l.length=4): ∃q n j o,l=[q,n,j,o]:=by
 match l,h with
 |[q,n,j,o],_=>exact⟨q,n,j,o,rfl⟩
theorem zjx {α:Type} {l:List α} (h:l.length=5): ∃w o j q n,l=[w,o,j,q,n]:=by
 match l,h with
 |[w,o,j,q,n],_=>exact⟨w,o,j,q,n,rfl⟩
theorem zjy {α:Type} {l:List α} (h:l.length=6): ∃z q j w o n,l=[z,q,j,w,o,n]:=by
 match l,h with
 |[z,q,j,w,o,n],_=>exact⟨z,q,j,w,o,n,rfl⟩
theorem zqJ {H:Type} {enc:TypeId×Value→H} {w:World} {q:Nat} {j:Nat→Bool} {o:Bool} {n:Nat} {A:List Value} {y:DataW H×List MemPlace} (h:DataW.trod enc Tryz.prog w q j o n 9 A=some y) (_:A.length=1): ∃x:ByteArray,A=[Value.string x]∧zea x:=by
 obtain⟨s,e,_,z⟩:=DataW.trod_string Tryz.underlying9 h
 refine⟨s,e,?_⟩
 unfold zea
 unfold maxLen at z
 omega
theorem zqK {H:Type} {enc:TypeId×Value→H} {w:World} {q:Nat} {j:Nat→Bool} {o:Bool} {n:Nat} {K:List Value} {y:DataW H×List MemPlace} (h:DataW.trod enc Tryz.prog w q j o n 135 K=some y) (hl:K.length=3): ∃x:Im,K=imL x∧zdz x:=by
 obtain⟨xs,k,_,_,_,L,M⟩:=DataW.trod_struct Tryz.underlying135 h
 have cS:Tryz.prog.cellsOf 9=1:=by kernel_rfl
 obtain⟨A,z,J,rfl⟩:=list3 hl
 obtain⟨O,X,U,rfl⟩:=list3 (L.trans rfl)
 have E:DataW.trod enc Tryz.prog w q j o k 9 (List.take (Tryz.prog.cellsOf 9) (List.drop 0 [A,z,J]))=some O:=M 0 _ rfl
 rw[cS] at E
 replace E:DataW.trod enc Tryz.prog w q j o k 9 [A]=some O:=E
 have I:DataW.trod enc Tryz.prog w q j o k 9 (List.take (Tryz.prog.cellsOf 9) (List.drop 1 [A,z,J]))=some X:=M 1 _ rfl
 rw[cS] at I
 replace I:DataW.trod enc Tryz.prog w q j o k 9 [z]=some X:=I
 have D:DataW.trod enc Tryz.prog w q j o k 9 (List.take (Tryz.prog.cellsOf 9) (List.drop 2 [A,z,J]))=some U:=M 2 _ rfl
 rw[cS] at D
 replace D:DataW.trod enc Tryz.prog w q j o k 9 [J]=some U:=D
 obtain⟨s0,V,_,z0⟩:=DataW.trod_string Tryz.underlying9 E
 simp only[List.cons.injEq,and_true] at V
 subst V
 obtain⟨s1,Y,_,z1⟩:=DataW.trod_string Tryz.underlying9 I
 simp only[List.cons.injEq,and_true] at Y
 subst Y
 obtain⟨s2,N,_,Z⟩:=DataW.trod_string Tryz.underlying9 D
 simp only[List.cons.injEq,and_true] at N
 subst N
 refine⟨⟨s0,s1,s2⟩,rfl,?_⟩
 unfold zdz
 unfold maxLen at z0
 unfold maxLen at z1
 unfold maxLen at Z
 exact⟨by show _≤_;omega,by show _≤_;omega,by show _≤_;omega⟩
theorem zqL {H:Type} {enc:TypeId×Value→H} {w:World} {q:Nat} {j:Nat→Bool} {o:Bool} {n:Nat} {N:List Value} {y:DataW H×List MemPlace} (h:DataW.trod enc Tryz.prog w q j o n 137 N=some y) (hl:N.length=4): ∃x:Ep,N=epL x∧zd0 x:=by
 obtain⟨xs,k,_,_,_,O,L⟩:=DataW.trod_struct Tryz.underlying137 h
 have cS:Tryz.prog.cellsOf 9=1:=by kernel_rfl
 have cI:Tryz.prog.cellsOf 3=1:=by kernel_rfl
 obtain⟨A,z,D,E,rfl⟩:=zjw hl
 obtain⟨V,y1,Z,Y,rfl⟩:=zjw (O.trans rfl)
 have K:DataW.trod enc Tryz.prog w q j o k 3 (List.take (Tryz.prog.cellsOf 3) (List.drop 0 [A,z,D,E]))=some V:=L 0 _ rfl
 rw[cI] at K
 replace K:DataW.trod enc Tryz.prog w q j o k 3 [A]=some V:=K
 have M:DataW.trod enc Tryz.prog w q j o k 9 (List.take (Tryz.prog.cellsOf 9) (List.drop 1 [A,z,D,E]))=some y1:=L 1 _ rfl
 rw[cS] at M
 replace M:DataW.trod enc Tryz.prog w q j o k 9 [z]=some y1:=M
 have J:DataW.trod enc Tryz.prog w q j o k 9 (List.take (Tryz.prog.cellsOf 9) (List.drop 2 [A,z,D,E]))=some Z:=L 2 _ rfl
 rw[cS] at J
 replace J:DataW.trod enc Tryz.prog w q j o k 9 [D]=some Z:=J
 have I:DataW.trod enc Tryz.prog w q j o k 9 (List.take (Tryz.prog.cellsOf 9) (List.drop 3 [A,z,D,E]))=some Y:=L 3 _ rfl
 rw[cS] at I
 replace I:DataW.trod enc Tryz.prog w q j o k 9 [E]=some Y:=I
 obtain⟨s0,e0,_,z0⟩:=DataW.trod_int Tryz.underlying3 K
 simp only[List.cons.injEq,and_true] at e0
 subst e0
 obtain⟨s1,e1,_,z1⟩:=DataW.trod_string Tryz.underlying9 M
 simp only[List.cons.injEq,and_true] at e1
 subst e1
 obtain⟨s2,U,_,z2⟩:=DataW.trod_string Tryz.underlying9 J
 simp only[List.cons.injEq,and_true] at U
 subst U
 obtain⟨s3,X,_,z3⟩:=DataW.trod_string Tryz.underlying9 I
 simp only[List.cons.injEq,and_true] at X
 subst X
 refine⟨⟨s0,s1,s2,s3⟩,rfl,?_⟩
 unfold zd0
 unfold maxLen at z1
 unfold maxLen at z2
 unfold maxLen at z3
 exact⟨by show _≤_;omega,by show _≤_;omega,by show _≤_;omega⟩
theorem zqM {H:Type} {enc:TypeId×Value→H} {w:World} {q:Nat} {j:Nat→Bool} {o:Bool} {n:Nat} {K:List Value} {y:DataW H×List MemPlace} (h:DataW.trod enc Tryz.prog w q j o n 139 K=some y) (hl:K.length=3): ∃x:Sm,K=smL x∧zd1 x:=by
 obtain⟨xs,k,_,_,_,L,M⟩:=DataW.trod_struct Tryz.underlying139 h
 have cS:Tryz.prog.cellsOf 9=1:=by kernel_rfl
 have V:Tryz.prog.cellsOf 3=1:=by kernel_rfl
 obtain⟨A,z,J,rfl⟩:=list3 hl
 obtain⟨O,Y,U,rfl⟩:=list3 (L.trans rfl)
 have E:DataW.trod enc Tryz.prog w q j o k 3 (List.take (Tryz.prog.cellsOf 3) (List.drop 0 [A,z,J]))=some O:=M 0 _ rfl
 rw[V] at E
 replace E:DataW.trod enc Tryz.prog w q j o k 3 [A]=some O:=E
 have I:DataW.trod enc Tryz.prog w q j o k 9 (List.take (Tryz.prog.cellsOf 9) (List.drop 1 [A,z,J]))=some Y:=M 1 _ rfl
 rw[cS] at I
 replace I:DataW.trod enc Tryz.prog w q j o k 9 [z]=some Y:=I
 have D:DataW.trod enc Tryz.prog w q j o k 3 (List.take (Tryz.prog.cellsOf 3) (List.drop 2 [A,z,J]))=some U:=M 2 _ rfl
 rw[V] at D
 replace D:DataW.trod enc Tryz.prog w q j o k 3 [J]=some U:=D
 obtain⟨s0,X,_,z0⟩:=DataW.trod_int Tryz.underlying3 E
 simp only[List.cons.injEq,and_true] at X
 subst X
 obtain⟨s1,Z,_,z1⟩:=DataW.trod_string Tryz.underlying9 I
 simp only[List.cons.injEq,and_true] at Z
 subst Z
 obtain⟨s2,N,_,z2⟩:=DataW.trod_int Tryz.underlying3 D
 simp only[List.cons.injEq,and_true] at N
 subst N
 refine⟨⟨s0,s1,s2⟩,rfl,?_⟩
 unfold zd1
 unfold maxLen at z1
 show _≤_
 omega
theorem zqN {H:Type} {enc:TypeId×Value→H} {w:World} {q:Nat} {j:Nat→Bool} {o:Bool} {n:Nat} {Y:List Value} {y:DataW H×List MemPlace} (h:DataW.trod enc Tryz.prog w q j o n 141 Y=some y) (hl:Y.length=6): ∃x:Ex,Y=exL x∧zd2 x∧(-9223372036854775808≤x.num∧x.num≤9223372036854775807):=by
 obtain⟨xs,k,_,_,_,Z,K⟩:=DataW.trod_struct Tryz.underlying141 h
 have cS:Tryz.prog.cellsOf 9=1:=by kernel_rfl
 have M:Tryz.prog.cellsOf 3=1:=by kernel_rfl
 obtain⟨A,z,J,I,D,E,rfl⟩:=zjy hl
 obtain⟨y0,y1,y2,y3,y4,y5,rfl⟩:=zjy (Z.trans rfl)
 have U:DataW.trod enc Tryz.prog w q j o k 3 (List.take (Tryz.prog.cellsOf 3) (List.drop 0 [A,z,J,I,D,E]))=some y0:=K 0 _ rfl
 rw[M] at U
 replace U:DataW.trod enc Tryz.prog w q j o k 3 [A]=some y0:=U
 have X:DataW.trod enc Tryz.prog w q j o k 3 (List.take (Tryz.prog.cellsOf 3) (List.drop 1 [A,z,J,I,D,E]))=some y1:=K 1 _ rfl
 rw[M] at X
 replace X:DataW.trod enc Tryz.prog w q j o k 3 [z]=some y1:=X
 have O:DataW.trod enc Tryz.prog w q j o k 9 (List.take (Tryz.prog.cellsOf 9) (List.drop 2 [A,z,J,I,D,E]))=some y2:=K 2 _ rfl
 rw[cS] at O
 replace O:DataW.trod enc Tryz.prog w q j o k 9 [J]=some y2:=O
 have N:DataW.trod enc Tryz.prog w q j o k 9 (List.take (Tryz.prog.cellsOf 9) (List.drop 3 [A,z,J,I,D,E]))=some y3:=K 3 _ rfl
 rw[cS] at N
 replace N:DataW.trod enc Tryz.prog w q j o k 9 [I]=some y3:=N
 have L:DataW.trod enc Tryz.prog w q j o k 3 (List.take (Tryz.prog.cellsOf 3) (List.drop 4 [A,z,J,I,D,E]))=some y4:=K 4 _ rfl
 rw[M] at L
 replace L:DataW.trod enc Tryz.prog w q j o k 3 [D]=some y4:=L
 have V:DataW.trod enc Tryz.prog w q j o k 3 (List.take (Tryz.prog.cellsOf 3) (List.drop 5 [A,z,J,I,D,E]))=some y5:=K 5 _ rfl
 rw[M] at V
 replace V:DataW.trod enc Tryz.prog w q j o k 3 [E]=some y5:=V
 obtain⟨s0,e0,_,z0⟩:=DataW.trod_int Tryz.underlying3 U
 simp only[List.cons.injEq,and_true] at e0
 subst e0
 obtain⟨s1,e1,_,z1⟩:=DataW.trod_int Tryz.underlying3 X
 simp only[List.cons.injEq,and_true] at e1
 subst e1
 obtain⟨s2,e2,_,z2⟩:=DataW.trod_string Tryz.underlying9 O
 simp only[List.cons.injEq,and_true] at e2
 subst e2
 obtain⟨s3,e3,_,z3⟩:=DataW.trod_string Tryz.underlying9 N
 simp only[List.cons.injEq,and_true] at e3
 subst e3
 obtain⟨s4,e4,_,z4⟩:=DataW.trod_int Tryz.underlying3 L
 simp only[List.cons.injEq,and_true] at e4
 subst e4
 obtain⟨s5,e5,_,z5⟩:=DataW.trod_int Tryz.underlying3 V
 simp only[List.cons.injEq,and_true] at e5
 subst e5
 refine⟨⟨s0,s1,s2,s3,s4,s5⟩,rfl,?_,zqI z1⟩
 unfold zd2
 unfold maxLen at z2
 unfold maxLen at z3
 exact⟨by show _≤_;omega,by show _≤_;omega⟩
theorem zqO {H:Type} {enc:TypeId×Value→H} {w:World} {q:Nat} {j:Nat→Bool} {o:Bool} {N:Nat} {E:List Value} {z:DataW H×List MemPlace} (h:DataW.trod enc Tryz.prog w q j o N 39 E=some z):
  ∃(A:MA) (m:Md),E=(zcZ A m).cells.toList∧ModIn w A m∧zf3 m∧zbg m.ex:=by
 obtain⟨xs,k,_,_,D,ab,U⟩:=DataW.trod_struct Tryz.underlying39 h
 have cM:Tryz.prog.cellsOf 39=5:=by kernel_rfl
 rw[cM] at D
 have O:Tryz.prog.cellsOf 22=1:=by kernel_rfl
 have ad:Tryz.prog.cellsOf 34=1:=by kernel_rfl
 have aa:Tryz.prog.cellsOf 35=1:=by kernel_rfl
 have ae:Tryz.prog.cellsOf 36=1:=by kernel_rfl
 have ac:Tryz.prog.cellsOf 37=1:=by kernel_rfl
 obtain⟨J,I,M,L,K,rfl⟩:=zjx D
 obtain⟨y0,y1,y2,y3,y4,rfl⟩:=zjx (ab.trans rfl)
 have Z:DataW.trod enc Tryz.prog w q j o k 22 (List.take (Tryz.prog.cellsOf 22) (List.drop 0 [J,I,M,L,K]))=some y0:=U 0 _ rfl
 rw[O] at Z
 replace Z:DataW.trod enc Tryz.prog w q j o k 22 [J]=some y0:=Z
 have g1:DataW.trod enc Tryz.prog w q j o k 34 (List.take (Tryz.prog.cellsOf 34) (List.drop 1 [J,I,M,L,K]))=some y1:=U 1 _ rfl
 rw[ad] at g1
 replace g1:DataW.trod enc Tryz.prog w q j o k 34 [I]=some y1:=g1
 have Y:DataW.trod enc Tryz.prog w q j o k 35 (List.take (Tryz.prog.cellsOf 35) (List.drop 2 [J,I,M,L,K]))=some y2:=U 2 _ rfl
 rw[aa] at Y
 replace Y:DataW.trod enc Tryz.prog w q j o k 35 [M]=some y2:=Y
 have X:DataW.trod enc Tryz.prog w q j o k 36 (List.take (Tryz.prog.cellsOf 36) (List.drop 3 [J,I,M,L,K]))=some y3:=U 3 _ rfl
 rw[ae] at X
 replace X:DataW.trod enc Tryz.prog w q j o k 36 [L]=some y3:=X
 have V:DataW.trod enc Tryz.prog w q j o k 37 (List.take (Tryz.prog.cellsOf 37) (List.drop 4 [J,I,M,L,K]))=some y4:=U 4 _ rfl
 rw[ac] at V
 replace V:DataW.trod enc Tryz.prog w q j o k 37 [K]=some y4:=V
 obtain⟨a0,c0,l0,e0,b0,r0,q0⟩:=zeB sNone (α:=ByteArray) (f:=(fun x=>[Value.string x])) (m:=1) (Q:=zea) (by omega) (fun _=>rfl) Tryz.underlying22 (by kernel_rfl) (fun n E y h D=>zqJ h D) Z
 subst e0
 obtain⟨a1,c1,l1,e1,b1,r1,q1⟩:=zeB ⟨sNone,sNone,sNone⟩ (α:=Im) (f:=imL) (m:=3) (Q:=zdz) (by omega) (fun _=>rfl) Tryz.underlying34 (by kernel_rfl) (fun n E y h D=>zqK h D) g1
 subst e1
 obtain⟨a2,c2,l2,e2,b2,r2,q2⟩:=zeB ⟨0,sNone,sNone,sNone⟩ (α:=Ep) (f:=epL) (m:=4) (Q:=zd0) (by omega) (fun _=>rfl) Tryz.underlying35 (by kernel_rfl) (fun n E y h D=>zqL h D) Y
 subst e2
 obtain⟨a3,c3,l3,e3,b3,r3,q3⟩:=zeB ⟨0,sNone,0⟩ (α:=Sm) (f:=smL) (m:=3) (Q:=zd1) (by omega) (fun _=>rfl) Tryz.underlying36 (by kernel_rfl) (fun n E y h D=>zqM h D) X
 subst e3
 obtain⟨a4,c4,l4,e4,b4,r4,q4⟩:=zeB zf (α:=Ex) (f:=exL) (m:=6) (Q:=(fun x=>zd2 x∧(-9223372036854775808≤x.num∧x.num≤9223372036854775807))) (by omega) (fun _=>rfl) Tryz.underlying37 (by kernel_rfl) (fun n E y h D=>zqN h D) V
 subst e4
 unfold maxLen at b0 b1 b2 b3 b4
 refine⟨⟨a0,a1,a2,a3,a4,c0,c1,c2,c3,c4⟩,⟨l0,l1,l2,l3,l4⟩,rfl,⟨r0,r1,r2,r3,r4⟩,⟨⟨?_,q0⟩,⟨?_,q1⟩,⟨?_,q2⟩,⟨?_,q3⟩,⟨?_,fun x hx=>(q4 x hx).1⟩⟩,fun x hx=>(q4 x hx).2⟩
 ·show l0.length≤_
  omega
 ·show l1.length≤_
  omega
 ·show l2.length≤_
  omega
 ·show l3.length≤_
  omega
 ·show l4.length≤_
  omega
end Go.Proofs.YticdggnnpjachaaGreat