/-
 What is known of a program that came in.
-/
import Derived.Test.YticdggnnpjachaaGreatCcLawSzToLawToMod
import Derived.ChangeArms
namespace Go.Proofs.YticdggnnpjachaaGreat
open Go.RowKit Go.PlainAid Go.Deep
theorem zqI {n:Int} (h:(Lit.int .i64 n).wf=true): -9223372036854775808≤n∧n≤9223372036854775807:=bounds_i64 h
theorem list3 {α:Type} {l:List α} (h:l.length=3): ∃n j o,l=[n,j,o]:=by
 match l,h with
 |[n,j,o],_=>exact⟨n,j,o,rfl⟩
theorem zjw {α:Type} {l:List α} (h:l.length=4): ∃j n q o,l=[j,n,q,o]:=by
 match l,h with
 |[j,n,q,o],_=>exact⟨j,n,q,o,rfl⟩
theorem zjx {α:Type} {l:List α} (h:l.length=5): ∃j n q o w,l=[j,n,q,o,w]:=by
 match l,h with
 |[j,n,q,o,w],_=>exact⟨j,n,q,o,w,rfl⟩
theorem zjy {α:Type} {l:List α} (h:l.length=6): ∃j n q o z w,l=[j,n,q,o,z,w]:=by
 match l,h with
 |[j,n,q,o,z,w],_=>exact⟨j,n,q,o,z,w,rfl⟩
theorem zqJ {H:Type} {enc:TypeId×Value→H} {w:World} {q:Nat} {j:Nat→Bool} {o:Bool} {n:Nat} {A:List Value} {y:DataW H×List MemPlace} (h:DataW.trod enc Tryz.prog w q j o n 9 A=some y) (_:A.length=1): ∃x:ByteArray,A=[Value.string x]∧zea x:=by
 obtain⟨s,e,_,z⟩:=DataW.trod_string Tryz.underlying9 h
 refine⟨s,e,?_⟩
 unfold zea
 unfold maxLen at z
 omega
theorem zqK {H:Type} {enc:TypeId×Value→H} {w:World} {o:Nat} {j:Nat→Bool} {q:Bool} {n:Nat} {L:List Value} {y:DataW H×List MemPlace} (h:DataW.trod enc Tryz.prog w o j q n 135 L=some y) (hl:L.length=3): ∃x:Im,L=imL x∧zdz x:=by
 obtain⟨xs,k,_,_,_,K,M⟩:=DataW.trod_struct Tryz.underlying135 h
 have cS:Tryz.prog.cellsOf 9=1:=by kernel_rfl
 obtain⟨D,A,E,rfl⟩:=list3 hl
 obtain⟨X,U,O,rfl⟩:=list3 (K.trans rfl)
 have J:DataW.trod enc Tryz.prog w o j q k 9 (List.take (Tryz.prog.cellsOf 9) (List.drop 0 [D,A,E]))=some X:=M 0 _ rfl
 rw[cS] at J
 replace J:DataW.trod enc Tryz.prog w o j q k 9 [D]=some X:=J
 have z:DataW.trod enc Tryz.prog w o j q k 9 (List.take (Tryz.prog.cellsOf 9) (List.drop 1 [D,A,E]))=some U:=M 1 _ rfl
 rw[cS] at z
 replace z:DataW.trod enc Tryz.prog w o j q k 9 [A]=some U:=z
 have I:DataW.trod enc Tryz.prog w o j q k 9 (List.take (Tryz.prog.cellsOf 9) (List.drop 2 [D,A,E]))=some O:=M 2 _ rfl
 rw[cS] at I
 replace I:DataW.trod enc Tryz.prog w o j q k 9 [E]=some O:=I
 obtain⟨s0,V,_,z0⟩:=DataW.trod_string Tryz.underlying9 J
 simp only[List.cons.injEq,and_true] at V
 subst V
 obtain⟨s1,N,_,z1⟩:=DataW.trod_string Tryz.underlying9 z
 simp only[List.cons.injEq,and_true] at N
 subst N
 obtain⟨Z,Y,_,z2⟩:=DataW.trod_string Tryz.underlying9 I
 simp only[List.cons.injEq,and_true] at Y
 subst Y
 refine⟨⟨s0,s1,Z⟩,rfl,?_⟩
 unfold zdz
 unfold maxLen at z0
 unfold maxLen at z1
 unfold maxLen at z2
 exact⟨by show _≤_;omega,by show _≤_;omega,by show _≤_;omega⟩
theorem zqL {H:Type} {enc:TypeId×Value→H} {w:World} {o:Nat} {j:Nat→Bool} {q:Bool} {n:Nat} {O:List Value} {y:DataW H×List MemPlace} (h:DataW.trod enc Tryz.prog w o j q n 137 O=some y) (hl:O.length=4): ∃x:Ep,O=epL x∧zd0 x:=by
 obtain⟨xs,k,_,_,_,N,L⟩:=DataW.trod_struct Tryz.underlying137 h
 have cS:Tryz.prog.cellsOf 9=1:=by kernel_rfl
 have cI:Tryz.prog.cellsOf 3=1:=by kernel_rfl
 obtain⟨A,z,D,E,rfl⟩:=zjw hl
 obtain⟨y0,Y,X,y3,rfl⟩:=zjw (N.trans rfl)
 have M:DataW.trod enc Tryz.prog w o j q k 3 (List.take (Tryz.prog.cellsOf 3) (List.drop 0 [A,z,D,E]))=some y0:=L 0 _ rfl
 rw[cI] at M
 replace M:DataW.trod enc Tryz.prog w o j q k 3 [A]=some y0:=M
 have J:DataW.trod enc Tryz.prog w o j q k 9 (List.take (Tryz.prog.cellsOf 9) (List.drop 1 [A,z,D,E]))=some Y:=L 1 _ rfl
 rw[cS] at J
 replace J:DataW.trod enc Tryz.prog w o j q k 9 [z]=some Y:=J
 have K:DataW.trod enc Tryz.prog w o j q k 9 (List.take (Tryz.prog.cellsOf 9) (List.drop 2 [A,z,D,E]))=some X:=L 2 _ rfl
 rw[cS] at K
 replace K:DataW.trod enc Tryz.prog w o j q k 9 [D]=some X:=K
 have I:DataW.trod enc Tryz.prog w o j q k 9 (List.take (Tryz.prog.cellsOf 9) (List.drop 3 [A,z,D,E]))=some y3:=L 3 _ rfl
 rw[cS] at I
 replace I:DataW.trod enc Tryz.prog w o j q k 9 [E]=some y3:=I
 obtain⟨s0,Z,_,z0⟩:=DataW.trod_int Tryz.underlying3 M
 simp only[List.cons.injEq,and_true] at Z
 subst Z
 obtain⟨s1,U,_,z1⟩:=DataW.trod_string Tryz.underlying9 J
 simp only[List.cons.injEq,and_true] at U
 subst U
 obtain⟨s2,e2,_,z2⟩:=DataW.trod_string Tryz.underlying9 K
 simp only[List.cons.injEq,and_true] at e2
 subst e2
 obtain⟨s3,V,_,z3⟩:=DataW.trod_string Tryz.underlying9 I
 simp only[List.cons.injEq,and_true] at V
 subst V
 refine⟨⟨s0,s1,s2,s3⟩,rfl,?_⟩
 unfold zd0
 unfold maxLen at z1
 unfold maxLen at z2
 unfold maxLen at z3
 exact⟨by show _≤_;omega,by show _≤_;omega,by show _≤_;omega⟩
theorem zqM {H:Type} {enc:TypeId×Value→H} {w:World} {o:Nat} {j:Nat→Bool} {q:Bool} {n:Nat} {L:List Value} {y:DataW H×List MemPlace} (h:DataW.trod enc Tryz.prog w o j q n 139 L=some y) (hl:L.length=3): ∃x:Sm,L=smL x∧zd1 x:=by
 obtain⟨xs,k,_,_,_,K,M⟩:=DataW.trod_struct Tryz.underlying139 h
 have cS:Tryz.prog.cellsOf 9=1:=by kernel_rfl
 have V:Tryz.prog.cellsOf 3=1:=by kernel_rfl
 obtain⟨D,A,E,rfl⟩:=list3 hl
 obtain⟨Y,U,O,rfl⟩:=list3 (K.trans rfl)
 have J:DataW.trod enc Tryz.prog w o j q k 3 (List.take (Tryz.prog.cellsOf 3) (List.drop 0 [D,A,E]))=some Y:=M 0 _ rfl
 rw[V] at J
 replace J:DataW.trod enc Tryz.prog w o j q k 3 [D]=some Y:=J
 have z:DataW.trod enc Tryz.prog w o j q k 9 (List.take (Tryz.prog.cellsOf 9) (List.drop 1 [D,A,E]))=some U:=M 1 _ rfl
 rw[cS] at z
 replace z:DataW.trod enc Tryz.prog w o j q k 9 [A]=some U:=z
 have I:DataW.trod enc Tryz.prog w o j q k 3 (List.take (Tryz.prog.cellsOf 3) (List.drop 2 [D,A,E]))=some O:=M 2 _ rfl
 rw[V] at I
 replace I:DataW.trod enc Tryz.prog w o j q k 3 [E]=some O:=I
 obtain⟨s0,X,_,z0⟩:=DataW.trod_int Tryz.underlying3 J
 simp only[List.cons.injEq,and_true] at X
 subst X
 obtain⟨s1,N,_,z1⟩:=DataW.trod_string Tryz.underlying9 z
 simp only[List.cons.injEq,and_true] at N
 subst N
 obtain⟨s2,Z,_,z2⟩:=DataW.trod_int Tryz.underlying3 I
 simp only[List.cons.injEq,and_true] at Z
 subst Z
 refine⟨⟨s0,s1,s2⟩,rfl,?_⟩
 unfold zd1
 unfold maxLen at z1
 show _≤_
 omega
theorem zqN {H:Type} {enc:TypeId×Value→H} {w:World} {o:Nat} {j:Nat→Bool} {q:Bool} {n:Nat} {Z:List Value} {y:DataW H×List MemPlace} (h:DataW.trod enc Tryz.prog w o j q n 141 Z=some y) (hl:Z.length=6): ∃x:Ex,Z=exL x∧zd2 x∧(-9223372036854775808≤x.num∧x.num≤9223372036854775807):=by
 obtain⟨xs,k,_,_,_,Y,K⟩:=DataW.trod_struct Tryz.underlying141 h
 have cS:Tryz.prog.cellsOf 9=1:=by kernel_rfl
 have U:Tryz.prog.cellsOf 3=1:=by kernel_rfl
 obtain⟨E,D,I,J,z,A,rfl⟩:=zjy hl
 obtain⟨y0,y1,y2,y3,y4,y5,rfl⟩:=zjy (Y.trans rfl)
 have V:DataW.trod enc Tryz.prog w o j q k 3 (List.take (Tryz.prog.cellsOf 3) (List.drop 0 [E,D,I,J,z,A]))=some y0:=K 0 _ rfl
 rw[U] at V
 replace V:DataW.trod enc Tryz.prog w o j q k 3 [E]=some y0:=V
 have M:DataW.trod enc Tryz.prog w o j q k 3 (List.take (Tryz.prog.cellsOf 3) (List.drop 1 [E,D,I,J,z,A]))=some y1:=K 1 _ rfl
 rw[U] at M
 replace M:DataW.trod enc Tryz.prog w o j q k 3 [D]=some y1:=M
 have O:DataW.trod enc Tryz.prog w o j q k 9 (List.take (Tryz.prog.cellsOf 9) (List.drop 2 [E,D,I,J,z,A]))=some y2:=K 2 _ rfl
 rw[cS] at O
 replace O:DataW.trod enc Tryz.prog w o j q k 9 [I]=some y2:=O
 have L:DataW.trod enc Tryz.prog w o j q k 9 (List.take (Tryz.prog.cellsOf 9) (List.drop 3 [E,D,I,J,z,A]))=some y3:=K 3 _ rfl
 rw[cS] at L
 replace L:DataW.trod enc Tryz.prog w o j q k 9 [J]=some y3:=L
 have X:DataW.trod enc Tryz.prog w o j q k 3 (List.take (Tryz.prog.cellsOf 3) (List.drop 4 [E,D,I,J,z,A]))=some y4:=K 4 _ rfl
 rw[U] at X
 replace X:DataW.trod enc Tryz.prog w o j q k 3 [z]=some y4:=X
 have N:DataW.trod enc Tryz.prog w o j q k 3 (List.take (Tryz.prog.cellsOf 3) (List.drop 5 [E,D,I,J,z,A]))=some y5:=K 5 _ rfl
 rw[U] at N
 replace N:DataW.trod enc Tryz.prog w o j q k 3 [A]=some y5:=N
 obtain⟨s0,e0,_,z0⟩:=DataW.trod_int Tryz.underlying3 V
 simp only[List.cons.injEq,and_true] at e0
 subst e0
 obtain⟨s1,e1,_,z1⟩:=DataW.trod_int Tryz.underlying3 M
 simp only[List.cons.injEq,and_true] at e1
 subst e1
 obtain⟨s2,e2,_,z2⟩:=DataW.trod_string Tryz.underlying9 O
 simp only[List.cons.injEq,and_true] at e2
 subst e2
 obtain⟨s3,e3,_,z3⟩:=DataW.trod_string Tryz.underlying9 L
 simp only[List.cons.injEq,and_true] at e3
 subst e3
 obtain⟨s4,e4,_,z4⟩:=DataW.trod_int Tryz.underlying3 X
 simp only[List.cons.injEq,and_true] at e4
 subst e4
 obtain⟨s5,e5,_,z5⟩:=DataW.trod_int Tryz.underlying3 N
 simp only[List.cons.injEq,and_true] at e5
 subst e5
 refine⟨⟨s0,s1,s2,s3,s4,s5⟩,rfl,?_,zqI z1⟩
 unfold zd2
 unfold maxLen at z2
 unfold maxLen at z3
 exact⟨by show _≤_;omega,by show _≤_;omega⟩
theorem zqO {H:Type} {enc:TypeId×Value→H} {w:World} {o:Nat} {j:Nat→Bool} {q:Bool} {N:Nat} {E:List Value} {z:DataW H×List MemPlace} (h:DataW.trod enc Tryz.prog w o j q N 39 E=some z):
  ∃(A:MA) (m:Md),E=(zcZ A m).cells.toList∧ModIn w A m∧zf3 m∧zbg m.ex:=by
 obtain⟨xs,k,_,_,D,aa,U⟩:=DataW.trod_struct Tryz.underlying39 h
 have cM:Tryz.prog.cellsOf 39=5:=by kernel_rfl
 rw[cM] at D
 have O:Tryz.prog.cellsOf 22=1:=by kernel_rfl
 have ae:Tryz.prog.cellsOf 34=1:=by kernel_rfl
 have ad:Tryz.prog.cellsOf 35=1:=by kernel_rfl
 have ab:Tryz.prog.cellsOf 36=1:=by kernel_rfl
 have ac:Tryz.prog.cellsOf 37=1:=by kernel_rfl
 obtain⟨K,J,L,M,I,rfl⟩:=zjx D
 obtain⟨y0,y1,y2,y3,y4,rfl⟩:=zjx (aa.trans rfl)
 have Z:DataW.trod enc Tryz.prog w o j q k 22 (List.take (Tryz.prog.cellsOf 22) (List.drop 0 [K,J,L,M,I]))=some y0:=U 0 _ rfl
 rw[O] at Z
 replace Z:DataW.trod enc Tryz.prog w o j q k 22 [K]=some y0:=Z
 have X:DataW.trod enc Tryz.prog w o j q k 34 (List.take (Tryz.prog.cellsOf 34) (List.drop 1 [K,J,L,M,I]))=some y1:=U 1 _ rfl
 rw[ae] at X
 replace X:DataW.trod enc Tryz.prog w o j q k 34 [J]=some y1:=X
 have Y:DataW.trod enc Tryz.prog w o j q k 35 (List.take (Tryz.prog.cellsOf 35) (List.drop 2 [K,J,L,M,I]))=some y2:=U 2 _ rfl
 rw[ad] at Y
 replace Y:DataW.trod enc Tryz.prog w o j q k 35 [L]=some y2:=Y
 have V:DataW.trod enc Tryz.prog w o j q k 36 (List.take (Tryz.prog.cellsOf 36) (List.drop 3 [K,J,L,M,I]))=some y3:=U 3 _ rfl
 rw[ab] at V
 replace V:DataW.trod enc Tryz.prog w o j q k 36 [M]=some y3:=V
 have g4:DataW.trod enc Tryz.prog w o j q k 37 (List.take (Tryz.prog.cellsOf 37) (List.drop 4 [K,J,L,M,I]))=some y4:=U 4 _ rfl
 rw[ac] at g4
 replace g4:DataW.trod enc Tryz.prog w o j q k 37 [I]=some y4:=g4
 obtain⟨a0,c0,l0,e0,b0,r0,q0⟩:=zeB sNone (α:=ByteArray) (f:=(fun x=>[Value.string x])) (m:=1) (Q:=zea) (by omega) (fun _=>rfl) Tryz.underlying22 (by kernel_rfl) (fun n E y h D=>zqJ h D) Z
 subst e0
 obtain⟨a1,c1,l1,e1,b1,r1,q1⟩:=zeB ⟨sNone,sNone,sNone⟩ (α:=Im) (f:=imL) (m:=3) (Q:=zdz) (by omega) (fun _=>rfl) Tryz.underlying34 (by kernel_rfl) (fun n E y h D=>zqK h D) X
 subst e1
 obtain⟨a2,c2,l2,e2,b2,r2,q2⟩:=zeB ⟨0,sNone,sNone,sNone⟩ (α:=Ep) (f:=epL) (m:=4) (Q:=zd0) (by omega) (fun _=>rfl) Tryz.underlying35 (by kernel_rfl) (fun n E y h D=>zqL h D) Y
 subst e2
 obtain⟨a3,c3,l3,e3,b3,r3,q3⟩:=zeB ⟨0,sNone,0⟩ (α:=Sm) (f:=smL) (m:=3) (Q:=zd1) (by omega) (fun _=>rfl) Tryz.underlying36 (by kernel_rfl) (fun n E y h D=>zqM h D) V
 subst e3
 obtain⟨a4,c4,l4,e4,b4,r4,q4⟩:=zeB zf (α:=Ex) (f:=exL) (m:=6) (Q:=(fun x=>zd2 x∧(-9223372036854775808≤x.num∧x.num≤9223372036854775807))) (by omega) (fun _=>rfl) Tryz.underlying37 (by kernel_rfl) (fun n E y h D=>zqN h D) g4
 subst e4
 unfold maxLen at b0 b1 b2 b3 b4
 refine⟨⟨a0,a1,a2,a3,a4,c0,c1,c2,c3,c4⟩,⟨l0,l1,l2,l3,l4⟩,rfl,⟨r0,r1,r2,r3,r4⟩,⟨⟨?_,q0⟩,⟨?_,q1⟩,⟨?_,q2⟩,⟨?_,q3⟩,⟨?_,fun x hx=>(q4 x hx).1⟩⟩,fun x hx=>(q4 x hx).2⟩
 ·show l0.length≤_
  omega
 ·show l1.length≤_
  omega
 ·show l2.length≤_
  omega
 ·show l3.length≤_
  omega
 ·show l4.length≤_
  omega
end Go.Proofs.YticdggnnpjachaaGreat