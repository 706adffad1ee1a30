/-
 What is known of a program that came in.
-/
import Derived.Test.YtgcbmogmniahjaaGreatCReLawSzToLawTo
import Derived.ChangeArms
namespace Go.Proofs.YtgcbmogmniahjaaGreat
open Go.RowKit Go.PlainAid Go.Deep
theorem zqG {n:Int} (h:(Lit.int .i64 n).wf=true): -9223372036854775808≤n∧n≤9223372036854775807:=bounds_i64 h
theorem list3 {α:Type} {l:List α} (h:l.length=3): ∃w q z,l=[w,q,z]:=by
 match l,h with
 |[w,q,z],_=>exact⟨w,q,z,rfl⟩
theorem zkG {α:Type} {l:List α} (h:l.length=4): ∃z w q A,l=[z,w,q,A]:=by
 match l,h with
 |[z,w,q,A],_=>exact⟨z,w,q,A,rfl⟩
theorem zkH {α:Type} {l:List α} (h:l.length=5): ∃w A z D q,l=[w,A,z,D,q]:=by
 match l,h with
 |[w,A,z,D,q],_=>exact⟨w,A,z,D,q,rfl⟩
theorem zkI {α:Type} {l:List α} (h:l.length=6): ∃w z A D q E,l=[w,z,A,D,q,E]:=by
 match l,h with
 |[w,z,A,D,q,E],_=>exact⟨w,z,A,D,q,E,rfl⟩
theorem zkJ {H:Type} {enc:TypeId×Value→H} {w:World} {base:Nat} {q:Nat→Bool} {A:Bool} {n:Nat} {D:List Value} {y:DataW H×List MemPlace} (h:DataW.trod enc Tryz.prog w base q A n 9 D=some y) (_:D.length=1): ∃x:ByteArray,D=[Value.string x]∧zea x:=by
 obtain⟨s,e,_,z⟩:=DataW.trod_string Tryz.underlying9 h
 refine⟨s,e,?_⟩
 unfold zea
 unfold maxLen at z
 omega
theorem zqH {H:Type} {enc:TypeId×Value→H} {w:World} {base:Nat} {q:Nat→Bool} {z:Bool} {n:Nat} {M:List Value} {y:DataW H×List MemPlace} (h:DataW.trod enc Tryz.prog w base q z n 149 M=some y) (hl:M.length=3): ∃x:Im,M=imL x∧zez x:=by
 obtain⟨xs,k,_,_,_,L,N⟩:=DataW.trod_struct Tryz.underlying149 h
 have cS:Tryz.prog.cellsOf 9=1:=by kernel_rfl
 obtain⟨K,E,J,rfl⟩:=list3 hl
 obtain⟨X,U,Z,rfl⟩:=list3 (L.trans rfl)
 have D:DataW.trod enc Tryz.prog w base q z k 9 (List.take (Tryz.prog.cellsOf 9) (List.drop 0 [K,E,J]))=some X:=N 0 _ rfl
 rw[cS] at D
 replace D:DataW.trod enc Tryz.prog w base q z k 9 [K]=some X:=D
 have I:DataW.trod enc Tryz.prog w base q z k 9 (List.take (Tryz.prog.cellsOf 9) (List.drop 1 [K,E,J]))=some U:=N 1 _ rfl
 rw[cS] at I
 replace I:DataW.trod enc Tryz.prog w base q z k 9 [E]=some U:=I
 have A:DataW.trod enc Tryz.prog w base q z k 9 (List.take (Tryz.prog.cellsOf 9) (List.drop 2 [K,E,J]))=some Z:=N 2 _ rfl
 rw[cS] at A
 replace A:DataW.trod enc Tryz.prog w base q z k 9 [J]=some Z:=A
 obtain⟨s0,O,_,z0⟩:=DataW.trod_string Tryz.underlying9 D
 simp only[List.cons.injEq,and_true] at O
 subst O
 obtain⟨s1,Y,_,z1⟩:=DataW.trod_string Tryz.underlying9 I
 simp only[List.cons.injEq,and_true] at Y
 subst Y
 obtain⟨s2,V,_,z2⟩:=DataW.trod_string Tryz.underlying9 A
 simp only[List.cons.injEq,and_true] at V
 subst V
 refine⟨⟨s0,s1,s2⟩,rfl,?_⟩
 unfold zez
 unfold maxLen at z0
 unfold maxLen at z1
 unfold maxLen at z2
 exact⟨by show _≤_;omega,by show _≤_;omega,by show _≤_;omega⟩
theorem zqI {H:Type} {enc:TypeId×Value→H} {w:World} {base:Nat} {q:Nat→Bool} {z:Bool} {n:Nat} {U:List Value} {y:DataW H×List MemPlace} (h:DataW.trod enc Tryz.prog w base q z n 151 U=some y) (hl:U.length=4): ∃x:Ep,U=epL x∧ze0 x:=by
 obtain⟨xs,k,_,_,_,O,L⟩:=DataW.trod_struct Tryz.underlying151 h
 have cS:Tryz.prog.cellsOf 9=1:=by kernel_rfl
 have cI:Tryz.prog.cellsOf 3=1:=by kernel_rfl
 obtain⟨I,D,E,A,rfl⟩:=zkG hl
 obtain⟨y0,X,y2,Y,rfl⟩:=zkG (O.trans rfl)
 have K:DataW.trod enc Tryz.prog w base q z k 3 (List.take (Tryz.prog.cellsOf 3) (List.drop 0 [I,D,E,A]))=some y0:=L 0 _ rfl
 rw[cI] at K
 replace K:DataW.trod enc Tryz.prog w base q z k 3 [I]=some y0:=K
 have M:DataW.trod enc Tryz.prog w base q z k 9 (List.take (Tryz.prog.cellsOf 9) (List.drop 1 [I,D,E,A]))=some X:=L 1 _ rfl
 rw[cS] at M
 replace M:DataW.trod enc Tryz.prog w base q z k 9 [D]=some X:=M
 have J:DataW.trod enc Tryz.prog w base q z k 9 (List.take (Tryz.prog.cellsOf 9) (List.drop 2 [I,D,E,A]))=some y2:=L 2 _ rfl
 rw[cS] at J
 replace J:DataW.trod enc Tryz.prog w base q z k 9 [E]=some y2:=J
 have N:DataW.trod enc Tryz.prog w base q z k 9 (List.take (Tryz.prog.cellsOf 9) (List.drop 3 [I,D,E,A]))=some Y:=L 3 _ rfl
 rw[cS] at N
 replace N:DataW.trod enc Tryz.prog w base q z k 9 [A]=some Y:=N
 obtain⟨s0,V,_,z0⟩:=DataW.trod_int Tryz.underlying3 K
 simp only[List.cons.injEq,and_true] at V
 subst V
 obtain⟨s1,e1,_,z1⟩:=DataW.trod_string Tryz.underlying9 M
 simp only[List.cons.injEq,and_true] at e1
 subst e1
 obtain⟨s2,Z,_,z2⟩:=DataW.trod_string Tryz.underlying9 J
 simp only[List.cons.injEq,and_true] at Z
 subst Z
 obtain⟨s3,e3,_,z3⟩:=DataW.trod_string Tryz.underlying9 N
 simp only[List.cons.injEq,and_true] at e3
 subst e3
 refine⟨⟨s0,s1,s2,s3⟩,rfl,?_⟩
 unfold ze0
 unfold maxLen at z1
 unfold maxLen at z2
 unfold maxLen at z3
 exact⟨by show _≤_;omega,by show _≤_;omega,by show _≤_;omega⟩
theorem zqJ {H:Type} {enc:TypeId×Value→H} {w:World} {base:Nat} {q:Nat→Bool} {z:Bool} {n:Nat} {M:List Value} {y:DataW H×List MemPlace} (h:DataW.trod enc Tryz.prog w base q z n 153 M=some y) (hl:M.length=3): ∃x:Sm,M=smL x∧ze1 x:=by
 obtain⟨xs,k,_,_,_,L,N⟩:=DataW.trod_struct Tryz.underlying153 h
 have cS:Tryz.prog.cellsOf 9=1:=by kernel_rfl
 have X:Tryz.prog.cellsOf 3=1:=by kernel_rfl
 obtain⟨K,E,J,rfl⟩:=list3 hl
 obtain⟨Y,U,y2,rfl⟩:=list3 (L.trans rfl)
 have D:DataW.trod enc Tryz.prog w base q z k 3 (List.take (Tryz.prog.cellsOf 3) (List.drop 0 [K,E,J]))=some Y:=N 0 _ rfl
 rw[X] at D
 replace D:DataW.trod enc Tryz.prog w base q z k 3 [K]=some Y:=D
 have I:DataW.trod enc Tryz.prog w base q z k 9 (List.take (Tryz.prog.cellsOf 9) (List.drop 1 [K,E,J]))=some U:=N 1 _ rfl
 rw[cS] at I
 replace I:DataW.trod enc Tryz.prog w base q z k 9 [E]=some U:=I
 have A:DataW.trod enc Tryz.prog w base q z k 3 (List.take (Tryz.prog.cellsOf 3) (List.drop 2 [K,E,J]))=some y2:=N 2 _ rfl
 rw[X] at A
 replace A:DataW.trod enc Tryz.prog w base q z k 3 [J]=some y2:=A
 obtain⟨s0,O,_,z0⟩:=DataW.trod_int Tryz.underlying3 D
 simp only[List.cons.injEq,and_true] at O
 subst O
 obtain⟨s1,Z,_,z1⟩:=DataW.trod_string Tryz.underlying9 I
 simp only[List.cons.injEq,and_true] at Z
 subst Z
 obtain⟨s2,V,_,z2⟩:=DataW.trod_int Tryz.underlying3 A
 simp only[List.cons.injEq,and_true] at V
 subst V
 refine⟨⟨s0,s1,s2⟩,rfl,?_⟩
 unfold ze1
 unfold maxLen at z1
 show _≤_
 omega
theorem zqK {H:Type} {enc:TypeId×Value→H} {w:World} {base:Nat} {q:Nat→Bool} {z:Bool} {n:Nat} {cs:List Value} {y:DataW H×List MemPlace} (h:DataW.trod enc Tryz.prog w base q z n 155 cs=some y) (hl:cs.length=6): ∃x:Ex,cs=exL x∧ze2 x∧(-9223372036854775808≤x.num∧x.num≤9223372036854775807):=by
 obtain⟨xs,k,_,_,_,Z,L⟩:=DataW.trod_struct Tryz.underlying155 h
 have cS:Tryz.prog.cellsOf 9=1:=by kernel_rfl
 have V:Tryz.prog.cellsOf 3=1:=by kernel_rfl
 obtain⟨J,D,E,A,I,K,rfl⟩:=zkI hl
 obtain⟨y0,y1,y2,y3,y4,y5,rfl⟩:=zkI (Z.trans rfl)
 have N:DataW.trod enc Tryz.prog w base q z k 3 (List.take (Tryz.prog.cellsOf 3) (List.drop 0 [J,D,E,A,I,K]))=some y0:=L 0 _ rfl
 rw[V] at N
 replace N:DataW.trod enc Tryz.prog w base q z k 3 [J]=some y0:=N
 have U:DataW.trod enc Tryz.prog w base q z k 3 (List.take (Tryz.prog.cellsOf 3) (List.drop 1 [J,D,E,A,I,K]))=some y1:=L 1 _ rfl
 rw[V] at U
 replace U:DataW.trod enc Tryz.prog w base q z k 3 [D]=some y1:=U
 have M:DataW.trod enc Tryz.prog w base q z k 9 (List.take (Tryz.prog.cellsOf 9) (List.drop 2 [J,D,E,A,I,K]))=some y2:=L 2 _ rfl
 rw[cS] at M
 replace M:DataW.trod enc Tryz.prog w base q z k 9 [E]=some y2:=M
 have Y:DataW.trod enc Tryz.prog w base q z k 9 (List.take (Tryz.prog.cellsOf 9) (List.drop 3 [J,D,E,A,I,K]))=some y3:=L 3 _ rfl
 rw[cS] at Y
 replace Y:DataW.trod enc Tryz.prog w base q z k 9 [A]=some y3:=Y
 have O:DataW.trod enc Tryz.prog w base q z k 3 (List.take (Tryz.prog.cellsOf 3) (List.drop 4 [J,D,E,A,I,K]))=some y4:=L 4 _ rfl
 rw[V] at O
 replace O:DataW.trod enc Tryz.prog w base q z k 3 [I]=some y4:=O
 have X:DataW.trod enc Tryz.prog w base q z k 3 (List.take (Tryz.prog.cellsOf 3) (List.drop 5 [J,D,E,A,I,K]))=some y5:=L 5 _ rfl
 rw[V] at X
 replace X:DataW.trod enc Tryz.prog w base q z k 3 [K]=some y5:=X
 obtain⟨s0,e0,_,z0⟩:=DataW.trod_int Tryz.underlying3 N
 simp only[List.cons.injEq,and_true] at e0
 subst e0
 obtain⟨s1,e1,_,z1⟩:=DataW.trod_int Tryz.underlying3 U
 simp only[List.cons.injEq,and_true] at e1
 subst e1
 obtain⟨s2,e2,_,z2⟩:=DataW.trod_string Tryz.underlying9 M
 simp only[List.cons.injEq,and_true] at e2
 subst e2
 obtain⟨s3,e3,_,z3⟩:=DataW.trod_string Tryz.underlying9 Y
 simp only[List.cons.injEq,and_true] at e3
 subst e3
 obtain⟨s4,e4,_,z4⟩:=DataW.trod_int Tryz.underlying3 O
 simp only[List.cons.injEq,and_true] at e4
 subst e4
 obtain⟨s5,e5,_,z5⟩:=DataW.trod_int Tryz.underlying3 X
 simp only[List.cons.injEq,and_true] at e5
 subst e5
 refine⟨⟨s0,s1,s2,s3,s4,s5⟩,rfl,?_,zqG z1⟩
 unfold ze2
 unfold maxLen at z2
 unfold maxLen at z3
 exact⟨by show _≤_;omega,by show _≤_;omega⟩
theorem zqL {H:Type} {enc:TypeId×Value→H} {w:World} {base:Nat} {q:Nat→Bool} {D:Bool} {V:Nat} {I:List Value} {z:DataW H×List MemPlace} (h:DataW.trod enc Tryz.prog w base q D V 85 I=some z):
  ∃(A:MA) (m:Md),I=(zfM A m).cells.toList∧ModIn w A m∧zfN m∧zaY m.ex:=by
 obtain⟨xs,k,_,_,E,aa,U⟩:=DataW.trod_struct Tryz.underlying85 h
 have cM:Tryz.prog.cellsOf 85=5:=by kernel_rfl
 rw[cM] at E
 have O:Tryz.prog.cellsOf 22=1:=by kernel_rfl
 have ac:Tryz.prog.cellsOf 80=1:=by kernel_rfl
 have ae:Tryz.prog.cellsOf 81=1:=by kernel_rfl
 have ab:Tryz.prog.cellsOf 82=1:=by kernel_rfl
 have ad:Tryz.prog.cellsOf 83=1:=by kernel_rfl
 obtain⟨N,K,L,J,M,rfl⟩:=zkH E
 obtain⟨y0,y1,y2,y3,y4,rfl⟩:=zkH (aa.trans rfl)
 have Y:DataW.trod enc Tryz.prog w base q D k 22 (List.take (Tryz.prog.cellsOf 22) (List.drop 0 [N,K,L,J,M]))=some y0:=U 0 _ rfl
 rw[O] at Y
 replace Y:DataW.trod enc Tryz.prog w base q D k 22 [N]=some y0:=Y
 have g1:DataW.trod enc Tryz.prog w base q D k 80 (List.take (Tryz.prog.cellsOf 80) (List.drop 1 [N,K,L,J,M]))=some y1:=U 1 _ rfl
 rw[ac] at g1
 replace g1:DataW.trod enc Tryz.prog w base q D k 80 [K]=some y1:=g1
 have X:DataW.trod enc Tryz.prog w base q D k 81 (List.take (Tryz.prog.cellsOf 81) (List.drop 2 [N,K,L,J,M]))=some y2:=U 2 _ rfl
 rw[ae] at X
 replace X:DataW.trod enc Tryz.prog w base q D k 81 [L]=some y2:=X
 have g3:DataW.trod enc Tryz.prog w base q D k 82 (List.take (Tryz.prog.cellsOf 82) (List.drop 3 [N,K,L,J,M]))=some y3:=U 3 _ rfl
 rw[ab] at g3
 replace g3:DataW.trod enc Tryz.prog w base q D k 82 [J]=some y3:=g3
 have Z:DataW.trod enc Tryz.prog w base q D k 83 (List.take (Tryz.prog.cellsOf 83) (List.drop 4 [N,K,L,J,M]))=some y4:=U 4 _ rfl
 rw[ad] at Z
 replace Z:DataW.trod enc Tryz.prog w base q D k 83 [M]=some y4:=Z
 obtain⟨a0,c0,l0,e0,b0,r0,q0⟩:=zdY sNone (α:=ByteArray) (f:=(fun x=>[Value.string x])) (m:=1) (Q:=zea) (by omega) (fun _=>rfl) Tryz.underlying22 (by kernel_rfl) (fun n I y h E=>zkJ h E) Y
 subst e0
 obtain⟨a1,c1,l1,e1,b1,r1,q1⟩:=zdY ⟨sNone,sNone,sNone⟩ (α:=Im) (f:=imL) (m:=3) (Q:=zez) (by omega) (fun _=>rfl) Tryz.underlying80 (by kernel_rfl) (fun n I y h E=>zqH h E) g1
 subst e1
 obtain⟨a2,c2,l2,e2,b2,r2,q2⟩:=zdY ⟨0,sNone,sNone,sNone⟩ (α:=Ep) (f:=epL) (m:=4) (Q:=ze0) (by omega) (fun _=>rfl) Tryz.underlying81 (by kernel_rfl) (fun n I y h E=>zqI h E) X
 subst e2
 obtain⟨a3,c3,l3,e3,b3,r3,q3⟩:=zdY ⟨0,sNone,0⟩ (α:=Sm) (f:=smL) (m:=3) (Q:=ze1) (by omega) (fun _=>rfl) Tryz.underlying82 (by kernel_rfl) (fun n I y h E=>zqJ h E) g3
 subst e3
 obtain⟨a4,c4,l4,e4,b4,r4,q4⟩:=zdY zh (α:=Ex) (f:=exL) (m:=6) (Q:=(fun x=>ze2 x∧(-9223372036854775808≤x.num∧x.num≤9223372036854775807))) (by omega) (fun _=>rfl) Tryz.underlying83 (by kernel_rfl) (fun n I y h E=>zqK h E) Z
 subst e4
 unfold maxLen at b0 b1 b2 b3 b4
 refine⟨⟨a0,a1,a2,a3,a4,c0,c1,c2,c3,c4⟩,⟨l0,l1,l2,l3,l4⟩,rfl,⟨r0,r1,r2,r3,r4⟩,⟨⟨?_,q0⟩,⟨?_,q1⟩,⟨?_,q2⟩,⟨?_,q3⟩,⟨?_,fun x hx=>(q4 x hx).1⟩⟩,fun x hx=>(q4 x hx).2⟩
 ·show l0.length≤_
  omega
 ·show l1.length≤_
  omega
 ·show l2.length≤_
  omega
 ·show l3.length≤_
  omega
 ·show l4.length≤_
  omega
end Go.Proofs.YtgcbmogmniahjaaGreat