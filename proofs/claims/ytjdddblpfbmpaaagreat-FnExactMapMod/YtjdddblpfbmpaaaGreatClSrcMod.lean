/-
 What is known of a program that came in.
-/
import Derived.Test.YtjdddblpfbmpaaaGreatClLawSz
import Derived.ChangeArms
namespace Go.Proofs.YtjdddblpfbmpaaaGreat
open Go.RowKit Go.PlainAid Go.Deep
theorem zoX {n:Int} (h:(Lit.int .i64 n).wf=true): -9223372036854775808≤n∧n≤9223372036854775807:=bounds_i64 h
theorem list3 {α:Type} {l:List α} (h:l.length=3): ∃w j z,l=[w,j,z]:=by
 match l,h with
 |[w,j,z],_=>exact⟨w,j,z,rfl⟩
theorem zj6 {α:Type} {l:List α} (h:l.length=4): ∃z w j A,l=[z,w,j,A]:=by
 match l,h with
 |[z,w,j,A],_=>exact⟨z,w,j,A,rfl⟩
theorem zj7 {α:Type} {l:List α} (h:l.length=5): ∃w A z H j,l=[w,A,z,H,j]:=by
 match l,h with
 |[w,A,z,H,j],_=>exact⟨w,A,z,H,j,rfl⟩
theorem zj8 {α:Type} {l:List α} (h:l.length=6): ∃w z A H j I,l=[w,z,A,H,j,I]:=by
 match l,h with
 |[w,z,A,H,j,I],_=>exact⟨w,z,A,H,j,I,rfl⟩
theorem zoY {H:Type} {enc:TypeId×Value→H} {w:World} {I:Nat} {j:Nat→Bool} {A:Bool} {n:Nat} {J:List Value} {y:DataW H×List MemPlace} (h:DataW.trod enc Tryz.prog w I j A n 9 J=some y) (_:J.length=1): ∃x:ByteArray,J=[Value.string x]∧zeB x:=by
 obtain⟨s,e,_,z⟩:=DataW.trod_string Tryz.underlying9 h
 refine⟨s,e,?_⟩
 unfold zeB
 unfold maxLen at z
 omega
theorem zoZ {H:Type} {enc:TypeId×Value→H} {w:World} {z:Nat} {j:Nat→Bool} {A:Bool} {n:Nat} {V:List Value} {y:DataW H×List MemPlace} (h:DataW.trod enc Tryz.prog w z j A n 111 V=some y) (hl:V.length=3): ∃x:Im,V=imL x∧zea x:=by
 obtain⟨xs,k,_,_,_,U,X⟩:=DataW.trod_struct Tryz.underlying111 h
 have cS:Tryz.prog.cellsOf 9=1:=by kernel_rfl
 obtain⟨O,L,N,rfl⟩:=list3 hl
 obtain⟨y0,Z,y2,rfl⟩:=list3 (U.trans rfl)
 have J:DataW.trod enc Tryz.prog w z j A k 9 (List.take (Tryz.prog.cellsOf 9) (List.drop 0 [O,L,N]))=some y0:=X 0 _ rfl
 rw[cS] at J
 replace J:DataW.trod enc Tryz.prog w z j A k 9 [O]=some y0:=J
 have M:DataW.trod enc Tryz.prog w z j A k 9 (List.take (Tryz.prog.cellsOf 9) (List.drop 1 [O,L,N]))=some Z:=X 1 _ rfl
 rw[cS] at M
 replace M:DataW.trod enc Tryz.prog w z j A k 9 [L]=some Z:=M
 have I:DataW.trod enc Tryz.prog w z j A k 9 (List.take (Tryz.prog.cellsOf 9) (List.drop 2 [O,L,N]))=some y2:=X 2 _ rfl
 rw[cS] at I
 replace I:DataW.trod enc Tryz.prog w z j A k 9 [N]=some y2:=I
 obtain⟨s0,Y,_,z0⟩:=DataW.trod_string Tryz.underlying9 J
 simp only[List.cons.injEq,and_true] at Y
 subst Y
 obtain⟨s1,e1,_,z1⟩:=DataW.trod_string Tryz.underlying9 M
 simp only[List.cons.injEq,and_true] at e1
 subst e1
 obtain⟨s2,e2,_,z2⟩:=DataW.trod_string Tryz.underlying9 I
 simp only[List.cons.injEq,and_true] at e2
 subst e2
 refine⟨⟨s0,s1,s2⟩,rfl,?_⟩
 unfold zea
 unfold maxLen at z0
 unfold maxLen at z1
 unfold maxLen at z2
 exact⟨by show _≤_;omega,by show _≤_;omega,by show _≤_;omega⟩
theorem zpa {H:Type} {enc:TypeId×Value→H} {w:World} {z:Nat} {j:Nat→Bool} {A:Bool} {n:Nat} {Z:List Value} {y:DataW H×List MemPlace} (h:DataW.trod enc Tryz.prog w z j A n 113 Z=some y) (hl:Z.length=4): ∃x:Ep,Z=epL x∧zeb x:=by
 obtain⟨xs,k,_,_,_,Y,U⟩:=DataW.trod_struct Tryz.underlying113 h
 have cS:Tryz.prog.cellsOf 9=1:=by kernel_rfl
 have cI:Tryz.prog.cellsOf 3=1:=by kernel_rfl
 obtain⟨M,J,L,I,rfl⟩:=zj6 hl
 obtain⟨y0,y1,y2,y3,rfl⟩:=zj6 (Y.trans rfl)
 have O:DataW.trod enc Tryz.prog w z j A k 3 (List.take (Tryz.prog.cellsOf 3) (List.drop 0 [M,J,L,I]))=some y0:=U 0 _ rfl
 rw[cI] at O
 replace O:DataW.trod enc Tryz.prog w z j A k 3 [M]=some y0:=O
 have V:DataW.trod enc Tryz.prog w z j A k 9 (List.take (Tryz.prog.cellsOf 9) (List.drop 1 [M,J,L,I]))=some y1:=U 1 _ rfl
 rw[cS] at V
 replace V:DataW.trod enc Tryz.prog w z j A k 9 [J]=some y1:=V
 have N:DataW.trod enc Tryz.prog w z j A k 9 (List.take (Tryz.prog.cellsOf 9) (List.drop 2 [M,J,L,I]))=some y2:=U 2 _ rfl
 rw[cS] at N
 replace N:DataW.trod enc Tryz.prog w z j A k 9 [L]=some y2:=N
 have X:DataW.trod enc Tryz.prog w z j A k 9 (List.take (Tryz.prog.cellsOf 9) (List.drop 3 [M,J,L,I]))=some y3:=U 3 _ rfl
 rw[cS] at X
 replace X:DataW.trod enc Tryz.prog w z j A k 9 [I]=some y3:=X
 obtain⟨s0,e0,_,z0⟩:=DataW.trod_int Tryz.underlying3 O
 simp only[List.cons.injEq,and_true] at e0
 subst e0
 obtain⟨s1,e1,_,z1⟩:=DataW.trod_string Tryz.underlying9 V
 simp only[List.cons.injEq,and_true] at e1
 subst e1
 obtain⟨s2,e2,_,z2⟩:=DataW.trod_string Tryz.underlying9 N
 simp only[List.cons.injEq,and_true] at e2
 subst e2
 obtain⟨s3,e3,_,z3⟩:=DataW.trod_string Tryz.underlying9 X
 simp only[List.cons.injEq,and_true] at e3
 subst e3
 refine⟨⟨s0,s1,s2,s3⟩,rfl,?_⟩
 unfold zeb
 unfold maxLen at z1
 unfold maxLen at z2
 unfold maxLen at z3
 exact⟨by show _≤_;omega,by show _≤_;omega,by show _≤_;omega⟩
theorem zpb {H:Type} {enc:TypeId×Value→H} {w:World} {z:Nat} {j:Nat→Bool} {A:Bool} {n:Nat} {V:List Value} {y:DataW H×List MemPlace} (h:DataW.trod enc Tryz.prog w z j A n 115 V=some y) (hl:V.length=3): ∃x:Sm,V=smL x∧zec x:=by
 obtain⟨xs,k,_,_,_,U,X⟩:=DataW.trod_struct Tryz.underlying115 h
 have cS:Tryz.prog.cellsOf 9=1:=by kernel_rfl
 have cI:Tryz.prog.cellsOf 3=1:=by kernel_rfl
 obtain⟨O,L,N,rfl⟩:=list3 hl
 obtain⟨y0,Z,y2,rfl⟩:=list3 (U.trans rfl)
 have J:DataW.trod enc Tryz.prog w z j A k 3 (List.take (Tryz.prog.cellsOf 3) (List.drop 0 [O,L,N]))=some y0:=X 0 _ rfl
 rw[cI] at J
 replace J:DataW.trod enc Tryz.prog w z j A k 3 [O]=some y0:=J
 have M:DataW.trod enc Tryz.prog w z j A k 9 (List.take (Tryz.prog.cellsOf 9) (List.drop 1 [O,L,N]))=some Z:=X 1 _ rfl
 rw[cS] at M
 replace M:DataW.trod enc Tryz.prog w z j A k 9 [L]=some Z:=M
 have I:DataW.trod enc Tryz.prog w z j A k 3 (List.take (Tryz.prog.cellsOf 3) (List.drop 2 [O,L,N]))=some y2:=X 2 _ rfl
 rw[cI] at I
 replace I:DataW.trod enc Tryz.prog w z j A k 3 [N]=some y2:=I
 obtain⟨s0,Y,_,z0⟩:=DataW.trod_int Tryz.underlying3 J
 simp only[List.cons.injEq,and_true] at Y
 subst Y
 obtain⟨s1,e1,_,z1⟩:=DataW.trod_string Tryz.underlying9 M
 simp only[List.cons.injEq,and_true] at e1
 subst e1
 obtain⟨s2,e2,_,z2⟩:=DataW.trod_int Tryz.underlying3 I
 simp only[List.cons.injEq,and_true] at e2
 subst e2
 refine⟨⟨s0,s1,s2⟩,rfl,?_⟩
 unfold zec
 unfold maxLen at z1
 show _≤_
 omega
theorem zpc {H:Type} {enc:TypeId×Value→H} {w:World} {z:Nat} {j:Nat→Bool} {A:Bool} {n:Nat} {cs:List Value} {y:DataW H×List MemPlace} (h:DataW.trod enc Tryz.prog w z j A n 117 cs=some y) (hl:cs.length=6): ∃x:Ex,cs=exL x∧zed x∧(-9223372036854775808≤x.num∧x.num≤9223372036854775807):=by
 obtain⟨xs,k,_,_,_,aa,U⟩:=DataW.trod_struct Tryz.underlying117 h
 have cS:Tryz.prog.cellsOf 9=1:=by kernel_rfl
 have cI:Tryz.prog.cellsOf 3=1:=by kernel_rfl
 obtain⟨N,J,L,I,M,O,rfl⟩:=zj8 hl
 obtain⟨y0,y1,y2,y3,y4,y5,rfl⟩:=zj8 (aa.trans rfl)
 have X:DataW.trod enc Tryz.prog w z j A k 3 (List.take (Tryz.prog.cellsOf 3) (List.drop 0 [N,J,L,I,M,O]))=some y0:=U 0 _ rfl
 rw[cI] at X
 replace X:DataW.trod enc Tryz.prog w z j A k 3 [N]=some y0:=X
 have Z:DataW.trod enc Tryz.prog w z j A k 3 (List.take (Tryz.prog.cellsOf 3) (List.drop 1 [N,J,L,I,M,O]))=some y1:=U 1 _ rfl
 rw[cI] at Z
 replace Z:DataW.trod enc Tryz.prog w z j A k 3 [J]=some y1:=Z
 have V:DataW.trod enc Tryz.prog w z j A k 9 (List.take (Tryz.prog.cellsOf 9) (List.drop 2 [N,J,L,I,M,O]))=some y2:=U 2 _ rfl
 rw[cS] at V
 replace V:DataW.trod enc Tryz.prog w z j A k 9 [L]=some y2:=V
 have g3:DataW.trod enc Tryz.prog w z j A k 9 (List.take (Tryz.prog.cellsOf 9) (List.drop 3 [N,J,L,I,M,O]))=some y3:=U 3 _ rfl
 rw[cS] at g3
 replace g3:DataW.trod enc Tryz.prog w z j A k 9 [I]=some y3:=g3
 have Y:DataW.trod enc Tryz.prog w z j A k 3 (List.take (Tryz.prog.cellsOf 3) (List.drop 4 [N,J,L,I,M,O]))=some y4:=U 4 _ rfl
 rw[cI] at Y
 replace Y:DataW.trod enc Tryz.prog w z j A k 3 [M]=some y4:=Y
 have g5:DataW.trod enc Tryz.prog w z j A k 3 (List.take (Tryz.prog.cellsOf 3) (List.drop 5 [N,J,L,I,M,O]))=some y5:=U 5 _ rfl
 rw[cI] at g5
 replace g5:DataW.trod enc Tryz.prog w z j A k 3 [O]=some y5:=g5
 obtain⟨s0,e0,_,z0⟩:=DataW.trod_int Tryz.underlying3 X
 simp only[List.cons.injEq,and_true] at e0
 subst e0
 obtain⟨s1,e1,_,z1⟩:=DataW.trod_int Tryz.underlying3 Z
 simp only[List.cons.injEq,and_true] at e1
 subst e1
 obtain⟨s2,e2,_,z2⟩:=DataW.trod_string Tryz.underlying9 V
 simp only[List.cons.injEq,and_true] at e2
 subst e2
 obtain⟨s3,e3,_,z3⟩:=DataW.trod_string Tryz.underlying9 g3
 simp only[List.cons.injEq,and_true] at e3
 subst e3
 obtain⟨s4,e4,_,z4⟩:=DataW.trod_int Tryz.underlying3 Y
 simp only[List.cons.injEq,and_true] at e4
 subst e4
 obtain⟨s5,e5,_,z5⟩:=DataW.trod_int Tryz.underlying3 g5
 simp only[List.cons.injEq,and_true] at e5
 subst e5
 refine⟨⟨s0,s1,s2,s3,s4,s5⟩,rfl,?_,zoX z1⟩
 unfold zed
 unfold maxLen at z2
 unfold maxLen at z3
 exact⟨by show _≤_;omega,by show _≤_;omega⟩
theorem zpd {H:Type} {enc:TypeId×Value→H} {w:World} {I:Nat} {j:Nat→Bool} {J:Bool} {aa:Nat} {M:List Value} {z:DataW H×List MemPlace} (h:DataW.trod enc Tryz.prog w I j J aa 28 M=some z):
  ∃(A:MA) (m:Md),M=(zaW A m).cells.toList∧ModIn w A m∧zgq m∧zaR m.ex:=by
 obtain⟨xs,k,_,_,L,ab,Z⟩:=DataW.trod_struct Tryz.underlying28 h
 have cM:Tryz.prog.cellsOf 28=5:=by kernel_rfl
 rw[cM] at L
 have Y:Tryz.prog.cellsOf 22=1:=by kernel_rfl
 have ad:Tryz.prog.cellsOf 23=1:=by kernel_rfl
 have af:Tryz.prog.cellsOf 24=1:=by kernel_rfl
 have ac:Tryz.prog.cellsOf 25=1:=by kernel_rfl
 have ae:Tryz.prog.cellsOf 26=1:=by kernel_rfl
 obtain⟨X,O,U,N,V,rfl⟩:=zj7 L
 obtain⟨y0,y1,y2,y3,y4,rfl⟩:=zj7 (ab.trans rfl)
 have g0:DataW.trod enc Tryz.prog w I j J k 22 (List.take (Tryz.prog.cellsOf 22) (List.drop 0 [X,O,U,N,V]))=some y0:=Z 0 _ rfl
 rw[Y] at g0
 replace g0:DataW.trod enc Tryz.prog w I j J k 22 [X]=some y0:=g0
 have g1:DataW.trod enc Tryz.prog w I j J k 23 (List.take (Tryz.prog.cellsOf 23) (List.drop 1 [X,O,U,N,V]))=some y1:=Z 1 _ rfl
 rw[ad] at g1
 replace g1:DataW.trod enc Tryz.prog w I j J k 23 [O]=some y1:=g1
 have g2:DataW.trod enc Tryz.prog w I j J k 24 (List.take (Tryz.prog.cellsOf 24) (List.drop 2 [X,O,U,N,V]))=some y2:=Z 2 _ rfl
 rw[af] at g2
 replace g2:DataW.trod enc Tryz.prog w I j J k 24 [U]=some y2:=g2
 have g3:DataW.trod enc Tryz.prog w I j J k 25 (List.take (Tryz.prog.cellsOf 25) (List.drop 3 [X,O,U,N,V]))=some y3:=Z 3 _ rfl
 rw[ac] at g3
 replace g3:DataW.trod enc Tryz.prog w I j J k 25 [N]=some y3:=g3
 have g4:DataW.trod enc Tryz.prog w I j J k 26 (List.take (Tryz.prog.cellsOf 26) (List.drop 4 [X,O,U,N,V]))=some y4:=Z 4 _ rfl
 rw[ae] at g4
 replace g4:DataW.trod enc Tryz.prog w I j J k 26 [V]=some y4:=g4
 obtain⟨a0,c0,l0,e0,b0,r0,q0⟩:=zft sNone (α:=ByteArray) (f:=(fun x=>[Value.string x])) (m:=1) (Q:=zeB) (by omega) (fun _=>rfl) Tryz.underlying22 (by kernel_rfl) (fun n M y h L=>zoY h L) g0
 subst e0
 obtain⟨a1,c1,l1,e1,b1,r1,q1⟩:=zft ⟨sNone,sNone,sNone⟩ (α:=Im) (f:=imL) (m:=3) (Q:=zea) (by omega) (fun _=>rfl) Tryz.underlying23 (by kernel_rfl) (fun n M y h L=>zoZ h L) g1
 subst e1
 obtain⟨a2,c2,l2,e2,b2,r2,q2⟩:=zft ⟨0,sNone,sNone,sNone⟩ (α:=Ep) (f:=epL) (m:=4) (Q:=zeb) (by omega) (fun _=>rfl) Tryz.underlying24 (by kernel_rfl) (fun n M y h L=>zpa h L) g2
 subst e2
 obtain⟨a3,c3,l3,e3,b3,r3,q3⟩:=zft ⟨0,sNone,0⟩ (α:=Sm) (f:=smL) (m:=3) (Q:=zec) (by omega) (fun _=>rfl) Tryz.underlying25 (by kernel_rfl) (fun n M y h L=>zpb h L) g3
 subst e3
 obtain⟨a4,c4,l4,e4,b4,r4,q4⟩:=zft zj (α:=Ex) (f:=exL) (m:=6) (Q:=(fun x=>zed x∧(-9223372036854775808≤x.num∧x.num≤9223372036854775807))) (by omega) (fun _=>rfl) Tryz.underlying26 (by kernel_rfl) (fun n M y h L=>zpc h L) g4
 subst e4
 unfold maxLen at b0 b1 b2 b3 b4
 refine⟨⟨a0,a1,a2,a3,a4,c0,c1,c2,c3,c4⟩,⟨l0,l1,l2,l3,l4⟩,rfl,⟨r0,r1,r2,r3,r4⟩,⟨⟨?_,q0⟩,⟨?_,q1⟩,⟨?_,q2⟩,⟨?_,q3⟩,⟨?_,fun x hx=>(q4 x hx).1⟩⟩,fun x hx=>(q4 x hx).2⟩
 ·show l0.length≤_
  omega
 ·show l1.length≤_
  omega
 ·show l2.length≤_
  omega
 ·show l3.length≤_
  omega
 ·show l4.length≤_
  omega
end Go.Proofs.YtjdddblpfbmpaaaGreat