/-
 What is known of a program that came in.
-/
import Derived.Test.YticdggnnpjachaaGreatCcLawSzToLawToMod
import Derived.ChangeArms
namespace Go.Proofs.YticdggnnpjachaaGreat
open Go.RowKit Go.PlainAid Go.Deep
theorem zqI {n:Int} (h:(Lit.int .i64 n).wf=true): -9223372036854775808≤n∧n≤9223372036854775807:=bounds_i64 h
theorem list3 {α:Type} {l:List α} (h:l.length=3): ∃n o j,l=[n,o,j]:=by
 match l,h with
 |[n,o,j],_=>exact⟨n,o,j,rfl⟩
theorem zjw {α:Type} {l:List α} (h:l.length=4): ∃n q j o,l=[n,q,j,o]:=by
 match l,h with
 |[n,q,j,o],_=>exact⟨n,q,j,o,rfl⟩
theorem zjx {α:Type} {l:List α} (h:l.length=5): ∃w o j q n,l=[w,o,j,q,n]:=by
 match l,h with
 |[w,o,j,q,n],_=>exact⟨w,o,j,q,n,rfl⟩
theorem zjy {α:Type} {l:List α} (h:l.length=6): ∃z o j q n w,l=[z,o,j,q,n,w]:=by
 match l,h with
 |[z,o,j,q,n,w],_=>exact⟨z,o,j,q,n,w,rfl⟩
theorem zqJ {H:Type} {enc:TypeId×Value→H} {w:World} {o:Nat} {j:Nat→Bool} {q:Bool} {n:Nat} {A:List Value} {y:DataW H×List MemPlace} (h:DataW.trod enc Tryz.prog w o j q n 9 A=some y) (_:A.length=1): ∃x:ByteArray,A=[Value.string x]∧zea x:=by
 obtain⟨s,e,_,z⟩:=DataW.trod_string Tryz.underlying9 h
 refine⟨s,e,?_⟩
 unfold zea
 unfold maxLen at z
 omega
theorem zqK {H:Type} {enc:TypeId×Value→H} {w:World} {o:Nat} {j:Nat→Bool} {q:Bool} {n:Nat} {M:List Value} {y:DataW H×List MemPlace} (h:DataW.trod enc Tryz.prog w o j q n 135 M=some y) (Z:M.length=3): ∃x:Im,M=imL x∧zdz x:=by
 obtain⟨xs,k,_,_,_,L,K⟩:=DataW.trod_struct Tryz.underlying135 h
 have cS:Tryz.prog.cellsOf 9=1:=by kernel_rfl
 obtain⟨A,J,z,rfl⟩:=list3 Z
 obtain⟨X,Y,V,rfl⟩:=list3 (L.trans rfl)
 have E:DataW.trod enc Tryz.prog w o j q k 9 (List.take (Tryz.prog.cellsOf 9) (List.drop 0 [A,J,z]))=some X:=K 0 _ rfl
 rw[cS] at E
 replace E:DataW.trod enc Tryz.prog w o j q k 9 [A]=some X:=E
 have D:DataW.trod enc Tryz.prog w o j q k 9 (List.take (Tryz.prog.cellsOf 9) (List.drop 1 [A,J,z]))=some Y:=K 1 _ rfl
 rw[cS] at D
 replace D:DataW.trod enc Tryz.prog w o j q k 9 [J]=some Y:=D
 have I:DataW.trod enc Tryz.prog w o j q k 9 (List.take (Tryz.prog.cellsOf 9) (List.drop 2 [A,J,z]))=some V:=K 2 _ rfl
 rw[cS] at I
 replace I:DataW.trod enc Tryz.prog w o j q k 9 [z]=some V:=I
 obtain⟨s0,N,_,z0⟩:=DataW.trod_string Tryz.underlying9 E
 simp only[List.cons.injEq,and_true] at N
 subst N
 obtain⟨s1,O,_,z1⟩:=DataW.trod_string Tryz.underlying9 D
 simp only[List.cons.injEq,and_true] at O
 subst O
 obtain⟨s2,U,_,z2⟩:=DataW.trod_string Tryz.underlying9 I
 simp only[List.cons.injEq,and_true] at U
 subst U
 refine⟨⟨s0,s1,s2⟩,rfl,?_⟩
 unfold zdz
 unfold maxLen at z0
 unfold maxLen at z1
 unfold maxLen at z2
 exact⟨by show _≤_;omega,by show _≤_;omega,by show _≤_;omega⟩
theorem zqL {H:Type} {enc:TypeId×Value→H} {w:World} {o:Nat} {j:Nat→Bool} {q:Bool} {n:Nat} {O:List Value} {y:DataW H×List MemPlace} (h:DataW.trod enc Tryz.prog w o j q n 137 O=some y) (hl:O.length=4): ∃x:Ep,O=epL x∧zd0 x:=by
 obtain⟨xs,k,_,_,_,N,I⟩:=DataW.trod_struct Tryz.underlying137 h
 have cS:Tryz.prog.cellsOf 9=1:=by kernel_rfl
 have cI:Tryz.prog.cellsOf 3=1:=by kernel_rfl
 obtain⟨A,E,z,D,rfl⟩:=zjw hl
 obtain⟨y0,y1,Y,y3,rfl⟩:=zjw (N.trans rfl)
 have L:DataW.trod enc Tryz.prog w o j q k 3 (List.take (Tryz.prog.cellsOf 3) (List.drop 0 [A,E,z,D]))=some y0:=I 0 _ rfl
 rw[cI] at L
 replace L:DataW.trod enc Tryz.prog w o j q k 3 [A]=some y0:=L
 have K:DataW.trod enc Tryz.prog w o j q k 9 (List.take (Tryz.prog.cellsOf 9) (List.drop 1 [A,E,z,D]))=some y1:=I 1 _ rfl
 rw[cS] at K
 replace K:DataW.trod enc Tryz.prog w o j q k 9 [E]=some y1:=K
 have M:DataW.trod enc Tryz.prog w o j q k 9 (List.take (Tryz.prog.cellsOf 9) (List.drop 2 [A,E,z,D]))=some Y:=I 2 _ rfl
 rw[cS] at M
 replace M:DataW.trod enc Tryz.prog w o j q k 9 [z]=some Y:=M
 have J:DataW.trod enc Tryz.prog w o j q k 9 (List.take (Tryz.prog.cellsOf 9) (List.drop 3 [A,E,z,D]))=some y3:=I 3 _ rfl
 rw[cS] at J
 replace J:DataW.trod enc Tryz.prog w o j q k 9 [D]=some y3:=J
 obtain⟨s0,U,_,z0⟩:=DataW.trod_int Tryz.underlying3 L
 simp only[List.cons.injEq,and_true] at U
 subst U
 obtain⟨s1,V,_,z1⟩:=DataW.trod_string Tryz.underlying9 K
 simp only[List.cons.injEq,and_true] at V
 subst V
 obtain⟨s2,X,_,z2⟩:=DataW.trod_string Tryz.underlying9 M
 simp only[List.cons.injEq,and_true] at X
 subst X
 obtain⟨s3,Z,_,z3⟩:=DataW.trod_string Tryz.underlying9 J
 simp only[List.cons.injEq,and_true] at Z
 subst Z
 refine⟨⟨s0,s1,s2,s3⟩,rfl,?_⟩
 unfold zd0
 unfold maxLen at z1
 unfold maxLen at z2
 unfold maxLen at z3
 exact⟨by show _≤_;omega,by show _≤_;omega,by show _≤_;omega⟩
theorem zqM {H:Type} {enc:TypeId×Value→H} {w:World} {o:Nat} {j:Nat→Bool} {q:Bool} {n:Nat} {M:List Value} {y:DataW H×List MemPlace} (h:DataW.trod enc Tryz.prog w o j q n 139 M=some y) (hl:M.length=3): ∃x:Sm,M=smL x∧zd1 x:=by
 obtain⟨xs,k,_,_,_,L,K⟩:=DataW.trod_struct Tryz.underlying139 h
 have cS:Tryz.prog.cellsOf 9=1:=by kernel_rfl
 have X:Tryz.prog.cellsOf 3=1:=by kernel_rfl
 obtain⟨A,J,z,rfl⟩:=list3 hl
 obtain⟨Y,Z,V,rfl⟩:=list3 (L.trans rfl)
 have E:DataW.trod enc Tryz.prog w o j q k 3 (List.take (Tryz.prog.cellsOf 3) (List.drop 0 [A,J,z]))=some Y:=K 0 _ rfl
 rw[X] at E
 replace E:DataW.trod enc Tryz.prog w o j q k 3 [A]=some Y:=E
 have D:DataW.trod enc Tryz.prog w o j q k 9 (List.take (Tryz.prog.cellsOf 9) (List.drop 1 [A,J,z]))=some Z:=K 1 _ rfl
 rw[cS] at D
 replace D:DataW.trod enc Tryz.prog w o j q k 9 [J]=some Z:=D
 have I:DataW.trod enc Tryz.prog w o j q k 3 (List.take (Tryz.prog.cellsOf 3) (List.drop 2 [A,J,z]))=some V:=K 2 _ rfl
 rw[X] at I
 replace I:DataW.trod enc Tryz.prog w o j q k 3 [z]=some V:=I
 obtain⟨s0,N,_,z0⟩:=DataW.trod_int Tryz.underlying3 E
 simp only[List.cons.injEq,and_true] at N
 subst N
 obtain⟨s1,O,_,z1⟩:=DataW.trod_string Tryz.underlying9 D
 simp only[List.cons.injEq,and_true] at O
 subst O
 obtain⟨s2,U,_,z2⟩:=DataW.trod_int Tryz.underlying3 I
 simp only[List.cons.injEq,and_true] at U
 subst U
 refine⟨⟨s0,s1,s2⟩,rfl,?_⟩
 unfold zd1
 unfold maxLen at z1
 show _≤_
 omega
theorem zqN {H:Type} {enc:TypeId×Value→H} {w:World} {o:Nat} {j:Nat→Bool} {q:Bool} {n:Nat} {Z:List Value} {y:DataW H×List MemPlace} (h:DataW.trod enc Tryz.prog w o j q n 141 Z=some y) (hl:Z.length=6): ∃x:Ex,Z=exL x∧zd2 x∧(-9223372036854775808≤x.num∧x.num≤9223372036854775807):=by
 obtain⟨xs,k,_,_,_,Y,K⟩:=DataW.trod_struct Tryz.underlying141 h
 have cS:Tryz.prog.cellsOf 9=1:=by kernel_rfl
 have X:Tryz.prog.cellsOf 3=1:=by kernel_rfl
 obtain⟨A,I,z,E,J,D,rfl⟩:=zjy hl
 obtain⟨y0,y1,y2,y3,y4,y5,rfl⟩:=zjy (Y.trans rfl)
 have O:DataW.trod enc Tryz.prog w o j q k 3 (List.take (Tryz.prog.cellsOf 3) (List.drop 0 [A,I,z,E,J,D]))=some y0:=K 0 _ rfl
 rw[X] at O
 replace O:DataW.trod enc Tryz.prog w o j q k 3 [A]=some y0:=O
 have N:DataW.trod enc Tryz.prog w o j q k 3 (List.take (Tryz.prog.cellsOf 3) (List.drop 1 [A,I,z,E,J,D]))=some y1:=K 1 _ rfl
 rw[X] at N
 replace N:DataW.trod enc Tryz.prog w o j q k 3 [I]=some y1:=N
 have U:DataW.trod enc Tryz.prog w o j q k 9 (List.take (Tryz.prog.cellsOf 9) (List.drop 2 [A,I,z,E,J,D]))=some y2:=K 2 _ rfl
 rw[cS] at U
 replace U:DataW.trod enc Tryz.prog w o j q k 9 [z]=some y2:=U
 have M:DataW.trod enc Tryz.prog w o j q k 9 (List.take (Tryz.prog.cellsOf 9) (List.drop 3 [A,I,z,E,J,D]))=some y3:=K 3 _ rfl
 rw[cS] at M
 replace M:DataW.trod enc Tryz.prog w o j q k 9 [E]=some y3:=M
 have V:DataW.trod enc Tryz.prog w o j q k 3 (List.take (Tryz.prog.cellsOf 3) (List.drop 4 [A,I,z,E,J,D]))=some y4:=K 4 _ rfl
 rw[X] at V
 replace V:DataW.trod enc Tryz.prog w o j q k 3 [J]=some y4:=V
 have L:DataW.trod enc Tryz.prog w o j q k 3 (List.take (Tryz.prog.cellsOf 3) (List.drop 5 [A,I,z,E,J,D]))=some y5:=K 5 _ rfl
 rw[X] at L
 replace L:DataW.trod enc Tryz.prog w o j q k 3 [D]=some y5:=L
 obtain⟨s0,e0,_,z0⟩:=DataW.trod_int Tryz.underlying3 O
 simp only[List.cons.injEq,and_true] at e0
 subst e0
 obtain⟨s1,e1,_,z1⟩:=DataW.trod_int Tryz.underlying3 N
 simp only[List.cons.injEq,and_true] at e1
 subst e1
 obtain⟨s2,e2,_,z2⟩:=DataW.trod_string Tryz.underlying9 U
 simp only[List.cons.injEq,and_true] at e2
 subst e2
 obtain⟨s3,e3,_,z3⟩:=DataW.trod_string Tryz.underlying9 M
 simp only[List.cons.injEq,and_true] at e3
 subst e3
 obtain⟨s4,e4,_,z4⟩:=DataW.trod_int Tryz.underlying3 V
 simp only[List.cons.injEq,and_true] at e4
 subst e4
 obtain⟨s5,e5,_,z5⟩:=DataW.trod_int Tryz.underlying3 L
 simp only[List.cons.injEq,and_true] at e5
 subst e5
 refine⟨⟨s0,s1,s2,s3,s4,s5⟩,rfl,?_,zqI z1⟩
 unfold zd2
 unfold maxLen at z2
 unfold maxLen at z3
 exact⟨by show _≤_;omega,by show _≤_;omega⟩
theorem zqO {H:Type} {enc:TypeId×Value→H} {w:World} {o:Nat} {j:Nat→Bool} {q:Bool} {U:Nat} {E:List Value} {z:DataW H×List MemPlace} (h:DataW.trod enc Tryz.prog w o j q U 39 E=some z):
  ∃(A:MA) (m:Md),E=(zcZ A m).cells.toList∧ModIn w A m∧zf3 m∧zbg m.ex:=by
 obtain⟨xs,k,_,_,D,ad,O⟩:=DataW.trod_struct Tryz.underlying39 h
 have cM:Tryz.prog.cellsOf 39=5:=by kernel_rfl
 rw[cM] at D
 have N:Tryz.prog.cellsOf 22=1:=by kernel_rfl
 have ae:Tryz.prog.cellsOf 34=1:=by kernel_rfl
 have aa:Tryz.prog.cellsOf 35=1:=by kernel_rfl
 have ab:Tryz.prog.cellsOf 36=1:=by kernel_rfl
 have ac:Tryz.prog.cellsOf 37=1:=by kernel_rfl
 obtain⟨J,M,I,K,L,rfl⟩:=zjx D
 obtain⟨y0,y1,y2,y3,y4,rfl⟩:=zjx (ad.trans rfl)
 have Y:DataW.trod enc Tryz.prog w o j q k 22 (List.take (Tryz.prog.cellsOf 22) (List.drop 0 [J,M,I,K,L]))=some y0:=O 0 _ rfl
 rw[N] at Y
 replace Y:DataW.trod enc Tryz.prog w o j q k 22 [J]=some y0:=Y
 have X:DataW.trod enc Tryz.prog w o j q k 34 (List.take (Tryz.prog.cellsOf 34) (List.drop 1 [J,M,I,K,L]))=some y1:=O 1 _ rfl
 rw[ae] at X
 replace X:DataW.trod enc Tryz.prog w o j q k 34 [M]=some y1:=X
 have Z:DataW.trod enc Tryz.prog w o j q k 35 (List.take (Tryz.prog.cellsOf 35) (List.drop 2 [J,M,I,K,L]))=some y2:=O 2 _ rfl
 rw[aa] at Z
 replace Z:DataW.trod enc Tryz.prog w o j q k 35 [I]=some y2:=Z
 have V:DataW.trod enc Tryz.prog w o j q k 36 (List.take (Tryz.prog.cellsOf 36) (List.drop 3 [J,M,I,K,L]))=some y3:=O 3 _ rfl
 rw[ab] at V
 replace V:DataW.trod enc Tryz.prog w o j q k 36 [K]=some y3:=V
 have g4:DataW.trod enc Tryz.prog w o j q k 37 (List.take (Tryz.prog.cellsOf 37) (List.drop 4 [J,M,I,K,L]))=some y4:=O 4 _ rfl
 rw[ac] at g4
 replace g4:DataW.trod enc Tryz.prog w o j q k 37 [L]=some y4:=g4
 obtain⟨a0,c0,l0,e0,b0,r0,q0⟩:=zeB sNone (α:=ByteArray) (f:=(fun x=>[Value.string x])) (m:=1) (Q:=zea) (by omega) (fun _=>rfl) Tryz.underlying22 (by kernel_rfl) (fun n E y h D=>zqJ h D) Y
 subst e0
 obtain⟨a1,c1,l1,e1,b1,r1,q1⟩:=zeB ⟨sNone,sNone,sNone⟩ (α:=Im) (f:=imL) (m:=3) (Q:=zdz) (by omega) (fun _=>rfl) Tryz.underlying34 (by kernel_rfl) (fun n E y h D=>zqK h D) X
 subst e1
 obtain⟨a2,c2,l2,e2,b2,r2,q2⟩:=zeB ⟨0,sNone,sNone,sNone⟩ (α:=Ep) (f:=epL) (m:=4) (Q:=zd0) (by omega) (fun _=>rfl) Tryz.underlying35 (by kernel_rfl) (fun n E y h D=>zqL h D) Z
 subst e2
 obtain⟨a3,c3,l3,e3,b3,r3,q3⟩:=zeB ⟨0,sNone,0⟩ (α:=Sm) (f:=smL) (m:=3) (Q:=zd1) (by omega) (fun _=>rfl) Tryz.underlying36 (by kernel_rfl) (fun n E y h D=>zqM h D) V
 subst e3
 obtain⟨a4,c4,l4,e4,b4,r4,q4⟩:=zeB zf (α:=Ex) (f:=exL) (m:=6) (Q:=(fun x=>zd2 x∧(-9223372036854775808≤x.num∧x.num≤9223372036854775807))) (by omega) (fun _=>rfl) Tryz.underlying37 (by kernel_rfl) (fun n E y h D=>zqN h D) g4
 subst e4
 unfold maxLen at b0 b1 b2 b3 b4
 refine⟨⟨a0,a1,a2,a3,a4,c0,c1,c2,c3,c4⟩,⟨l0,l1,l2,l3,l4⟩,rfl,⟨r0,r1,r2,r3,r4⟩,⟨⟨?_,q0⟩,⟨?_,q1⟩,⟨?_,q2⟩,⟨?_,q3⟩,⟨?_,fun x hx=>(q4 x hx).1⟩⟩,fun x hx=>(q4 x hx).2⟩
 ·show l0.length≤_
  omega
 ·show l1.length≤_
  omega
 ·show l2.length≤_
  omega
 ·show l3.length≤_
  omega
 ·show l4.length≤_
  omega
end Go.Proofs.YticdggnnpjachaaGreat