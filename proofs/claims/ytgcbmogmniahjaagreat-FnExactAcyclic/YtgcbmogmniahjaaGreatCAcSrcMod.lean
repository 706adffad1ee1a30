/-
 What is known of a program that came in.
-/
import Derived.Test.YtgcbmogmniahjaaGreatCAcLawSzToLawTo
import Derived.ChangeArms
namespace Go.Proofs.YtgcbmogmniahjaaGreat
open Go.RowKit Go.PlainAid Go.Deep
theorem zqu {n:Int} (h:(Lit.int .i64 n).wf=true): -9223372036854775808≤n∧n≤9223372036854775807:=bounds_i64 h
theorem list3 {α:Type} {l:List α} (h:l.length=3): ∃w q z,l=[w,q,z]:=by
 match l,h with
 |[w,q,z],_=>exact⟨w,q,z,rfl⟩
theorem zk1 {α:Type} {l:List α} (h:l.length=4): ∃z w q A,l=[z,w,q,A]:=by
 match l,h with
 |[z,w,q,A],_=>exact⟨z,w,q,A,rfl⟩
theorem zk2 {α:Type} {l:List α} (h:l.length=5): ∃w A z H q,l=[w,A,z,H,q]:=by
 match l,h with
 |[w,A,z,H,q],_=>exact⟨w,A,z,H,q,rfl⟩
theorem zk3 {α:Type} {l:List α} (h:l.length=6): ∃w z A H q I,l=[w,z,A,H,q,I]:=by
 match l,h with
 |[w,z,A,H,q,I],_=>exact⟨w,z,A,H,q,I,rfl⟩
theorem zk4 {H:Type} {enc:TypeId×Value→H} {w:World} {base:Nat} {q:Nat→Bool} {A:Bool} {n:Nat} {I:List Value} {y:DataW H×List MemPlace} (h:DataW.trod enc Tryz.prog w base q A n 9 I=some y) (_:I.length=1): ∃x:ByteArray,I=[Value.string x]∧zdR x:=by
 obtain⟨s,e,_,z⟩:=DataW.trod_string Tryz.underlying9 h
 refine⟨s,e,?_⟩
 unfold zdR
 unfold maxLen at z
 omega
theorem zqv {H:Type} {enc:TypeId×Value→H} {w:World} {base:Nat} {q:Nat→Bool} {z:Bool} {n:Nat} {O:List Value} {y:DataW H×List MemPlace} (h:DataW.trod enc Tryz.prog w base q z n 149 O=some y) (hl:O.length=3): ∃x:Im,O=imL x∧zep x:=by
 obtain⟨xs,k,_,_,_,N,U⟩:=DataW.trod_struct Tryz.underlying149 h
 have cS:Tryz.prog.cellsOf 9=1:=by kernel_rfl
 obtain⟨M,J,L,rfl⟩:=list3 hl
 obtain⟨Z,X,y2,rfl⟩:=list3 (N.trans rfl)
 have I:DataW.trod enc Tryz.prog w base q z k 9 (List.take (Tryz.prog.cellsOf 9) (List.drop 0 [M,J,L]))=some Z:=U 0 _ rfl
 rw[cS] at I
 replace I:DataW.trod enc Tryz.prog w base q z k 9 [M]=some Z:=I
 have K:DataW.trod enc Tryz.prog w base q z k 9 (List.take (Tryz.prog.cellsOf 9) (List.drop 1 [M,J,L]))=some X:=U 1 _ rfl
 rw[cS] at K
 replace K:DataW.trod enc Tryz.prog w base q z k 9 [J]=some X:=K
 have A:DataW.trod enc Tryz.prog w base q z k 9 (List.take (Tryz.prog.cellsOf 9) (List.drop 2 [M,J,L]))=some y2:=U 2 _ rfl
 rw[cS] at A
 replace A:DataW.trod enc Tryz.prog w base q z k 9 [L]=some y2:=A
 obtain⟨s0,V,_,z0⟩:=DataW.trod_string Tryz.underlying9 I
 simp only[List.cons.injEq,and_true] at V
 subst V
 obtain⟨s1,e1,_,z1⟩:=DataW.trod_string Tryz.underlying9 K
 simp only[List.cons.injEq,and_true] at e1
 subst e1
 obtain⟨s2,Y,_,z2⟩:=DataW.trod_string Tryz.underlying9 A
 simp only[List.cons.injEq,and_true] at Y
 subst Y
 refine⟨⟨s0,s1,s2⟩,rfl,?_⟩
 unfold zep
 unfold maxLen at z0
 unfold maxLen at z1
 unfold maxLen at z2
 exact⟨by show _≤_;omega,by show _≤_;omega,by show _≤_;omega⟩
theorem zqw {H:Type} {enc:TypeId×Value→H} {w:World} {base:Nat} {q:Nat→Bool} {z:Bool} {n:Nat} {X:List Value} {y:DataW H×List MemPlace} (h:DataW.trod enc Tryz.prog w base q z n 151 X=some y) (hl:X.length=4): ∃x:Ep,X=epL x∧zeq x:=by
 obtain⟨xs,k,_,_,_,V,N⟩:=DataW.trod_struct Tryz.underlying151 h
 have cS:Tryz.prog.cellsOf 9=1:=by kernel_rfl
 have cI:Tryz.prog.cellsOf 3=1:=by kernel_rfl
 obtain⟨K,I,J,A,rfl⟩:=zk1 hl
 obtain⟨y0,Z,y2,y3,rfl⟩:=zk1 (V.trans rfl)
 have M:DataW.trod enc Tryz.prog w base q z k 3 (List.take (Tryz.prog.cellsOf 3) (List.drop 0 [K,I,J,A]))=some y0:=N 0 _ rfl
 rw[cI] at M
 replace M:DataW.trod enc Tryz.prog w base q z k 3 [K]=some y0:=M
 have O:DataW.trod enc Tryz.prog w base q z k 9 (List.take (Tryz.prog.cellsOf 9) (List.drop 1 [K,I,J,A]))=some Z:=N 1 _ rfl
 rw[cS] at O
 replace O:DataW.trod enc Tryz.prog w base q z k 9 [I]=some Z:=O
 have L:DataW.trod enc Tryz.prog w base q z k 9 (List.take (Tryz.prog.cellsOf 9) (List.drop 2 [K,I,J,A]))=some y2:=N 2 _ rfl
 rw[cS] at L
 replace L:DataW.trod enc Tryz.prog w base q z k 9 [J]=some y2:=L
 have U:DataW.trod enc Tryz.prog w base q z k 9 (List.take (Tryz.prog.cellsOf 9) (List.drop 3 [K,I,J,A]))=some y3:=N 3 _ rfl
 rw[cS] at U
 replace U:DataW.trod enc Tryz.prog w base q z k 9 [A]=some y3:=U
 obtain⟨s0,Y,_,z0⟩:=DataW.trod_int Tryz.underlying3 M
 simp only[List.cons.injEq,and_true] at Y
 subst Y
 obtain⟨s1,e1,_,z1⟩:=DataW.trod_string Tryz.underlying9 O
 simp only[List.cons.injEq,and_true] at e1
 subst e1
 obtain⟨s2,e2,_,z2⟩:=DataW.trod_string Tryz.underlying9 L
 simp only[List.cons.injEq,and_true] at e2
 subst e2
 obtain⟨s3,e3,_,z3⟩:=DataW.trod_string Tryz.underlying9 U
 simp only[List.cons.injEq,and_true] at e3
 subst e3
 refine⟨⟨s0,s1,s2,s3⟩,rfl,?_⟩
 unfold zeq
 unfold maxLen at z1
 unfold maxLen at z2
 unfold maxLen at z3
 exact⟨by show _≤_;omega,by show _≤_;omega,by show _≤_;omega⟩
theorem zqx {H:Type} {enc:TypeId×Value→H} {w:World} {base:Nat} {q:Nat→Bool} {z:Bool} {n:Nat} {O:List Value} {y:DataW H×List MemPlace} (h:DataW.trod enc Tryz.prog w base q z n 153 O=some y) (hl:O.length=3): ∃x:Sm,O=smL x∧zer x:=by
 obtain⟨xs,k,_,_,_,N,U⟩:=DataW.trod_struct Tryz.underlying153 h
 have cS:Tryz.prog.cellsOf 9=1:=by kernel_rfl
 have Z:Tryz.prog.cellsOf 3=1:=by kernel_rfl
 obtain⟨M,J,L,rfl⟩:=list3 hl
 obtain⟨y0,X,y2,rfl⟩:=list3 (N.trans rfl)
 have I:DataW.trod enc Tryz.prog w base q z k 3 (List.take (Tryz.prog.cellsOf 3) (List.drop 0 [M,J,L]))=some y0:=U 0 _ rfl
 rw[Z] at I
 replace I:DataW.trod enc Tryz.prog w base q z k 3 [M]=some y0:=I
 have K:DataW.trod enc Tryz.prog w base q z k 9 (List.take (Tryz.prog.cellsOf 9) (List.drop 1 [M,J,L]))=some X:=U 1 _ rfl
 rw[cS] at K
 replace K:DataW.trod enc Tryz.prog w base q z k 9 [J]=some X:=K
 have A:DataW.trod enc Tryz.prog w base q z k 3 (List.take (Tryz.prog.cellsOf 3) (List.drop 2 [M,J,L]))=some y2:=U 2 _ rfl
 rw[Z] at A
 replace A:DataW.trod enc Tryz.prog w base q z k 3 [L]=some y2:=A
 obtain⟨s0,V,_,z0⟩:=DataW.trod_int Tryz.underlying3 I
 simp only[List.cons.injEq,and_true] at V
 subst V
 obtain⟨s1,e1,_,z1⟩:=DataW.trod_string Tryz.underlying9 K
 simp only[List.cons.injEq,and_true] at e1
 subst e1
 obtain⟨s2,Y,_,z2⟩:=DataW.trod_int Tryz.underlying3 A
 simp only[List.cons.injEq,and_true] at Y
 subst Y
 refine⟨⟨s0,s1,s2⟩,rfl,?_⟩
 unfold zer
 unfold maxLen at z1
 show _≤_
 omega
theorem zqy {H:Type} {enc:TypeId×Value→H} {w:World} {base:Nat} {q:Nat→Bool} {z:Bool} {n:Nat} {cs:List Value} {y:DataW H×List MemPlace} (h:DataW.trod enc Tryz.prog w base q z n 155 cs=some y) (hl:cs.length=6): ∃x:Ex,cs=exL x∧zes x∧(-9223372036854775808≤x.num∧x.num≤9223372036854775807):=by
 obtain⟨xs,k,_,_,_,aa,N⟩:=DataW.trod_struct Tryz.underlying155 h
 have cS:Tryz.prog.cellsOf 9=1:=by kernel_rfl
 have Y:Tryz.prog.cellsOf 3=1:=by kernel_rfl
 obtain⟨L,I,J,A,K,M,rfl⟩:=zk3 hl
 obtain⟨y0,y1,y2,y3,y4,y5,rfl⟩:=zk3 (aa.trans rfl)
 have U:DataW.trod enc Tryz.prog w base q z k 3 (List.take (Tryz.prog.cellsOf 3) (List.drop 0 [L,I,J,A,K,M]))=some y0:=N 0 _ rfl
 rw[Y] at U
 replace U:DataW.trod enc Tryz.prog w base q z k 3 [L]=some y0:=U
 have X:DataW.trod enc Tryz.prog w base q z k 3 (List.take (Tryz.prog.cellsOf 3) (List.drop 1 [L,I,J,A,K,M]))=some y1:=N 1 _ rfl
 rw[Y] at X
 replace X:DataW.trod enc Tryz.prog w base q z k 3 [I]=some y1:=X
 have O:DataW.trod enc Tryz.prog w base q z k 9 (List.take (Tryz.prog.cellsOf 9) (List.drop 2 [L,I,J,A,K,M]))=some y2:=N 2 _ rfl
 rw[cS] at O
 replace O:DataW.trod enc Tryz.prog w base q z k 9 [J]=some y2:=O
 have g3:DataW.trod enc Tryz.prog w base q z k 9 (List.take (Tryz.prog.cellsOf 9) (List.drop 3 [L,I,J,A,K,M]))=some y3:=N 3 _ rfl
 rw[cS] at g3
 replace g3:DataW.trod enc Tryz.prog w base q z k 9 [A]=some y3:=g3
 have V:DataW.trod enc Tryz.prog w base q z k 3 (List.take (Tryz.prog.cellsOf 3) (List.drop 4 [L,I,J,A,K,M]))=some y4:=N 4 _ rfl
 rw[Y] at V
 replace V:DataW.trod enc Tryz.prog w base q z k 3 [K]=some y4:=V
 have Z:DataW.trod enc Tryz.prog w base q z k 3 (List.take (Tryz.prog.cellsOf 3) (List.drop 5 [L,I,J,A,K,M]))=some y5:=N 5 _ rfl
 rw[Y] at Z
 replace Z:DataW.trod enc Tryz.prog w base q z k 3 [M]=some y5:=Z
 obtain⟨s0,e0,_,z0⟩:=DataW.trod_int Tryz.underlying3 U
 simp only[List.cons.injEq,and_true] at e0
 subst e0
 obtain⟨s1,e1,_,z1⟩:=DataW.trod_int Tryz.underlying3 X
 simp only[List.cons.injEq,and_true] at e1
 subst e1
 obtain⟨s2,e2,_,z2⟩:=DataW.trod_string Tryz.underlying9 O
 simp only[List.cons.injEq,and_true] at e2
 subst e2
 obtain⟨s3,e3,_,z3⟩:=DataW.trod_string Tryz.underlying9 g3
 simp only[List.cons.injEq,and_true] at e3
 subst e3
 obtain⟨s4,e4,_,z4⟩:=DataW.trod_int Tryz.underlying3 V
 simp only[List.cons.injEq,and_true] at e4
 subst e4
 obtain⟨s5,e5,_,z5⟩:=DataW.trod_int Tryz.underlying3 Z
 simp only[List.cons.injEq,and_true] at e5
 subst e5
 refine⟨⟨s0,s1,s2,s3,s4,s5⟩,rfl,?_,zqu z1⟩
 unfold zes
 unfold maxLen at z2
 unfold maxLen at z3
 exact⟨by show _≤_;omega,by show _≤_;omega⟩
theorem zqz {H:Type} {enc:TypeId×Value→H} {w:World} {base:Nat} {q:Nat→Bool} {I:Bool} {Y:Nat} {K:List Value} {z:DataW H×List MemPlace} (h:DataW.trod enc Tryz.prog w base q I Y 85 K=some z):
  ∃(A:MA) (m:Md),K=(zfC A m).cells.toList∧ModIn w A m∧zfD m∧zaW m.ex:=by
 obtain⟨xs,k,_,_,J,aa,X⟩:=DataW.trod_struct Tryz.underlying85 h
 have cM:Tryz.prog.cellsOf 85=5:=by kernel_rfl
 rw[cM] at J
 have V:Tryz.prog.cellsOf 22=1:=by kernel_rfl
 have ac:Tryz.prog.cellsOf 80=1:=by kernel_rfl
 have ae:Tryz.prog.cellsOf 81=1:=by kernel_rfl
 have ab:Tryz.prog.cellsOf 82=1:=by kernel_rfl
 have ad:Tryz.prog.cellsOf 83=1:=by kernel_rfl
 obtain⟨U,M,N,L,O,rfl⟩:=zk2 J
 obtain⟨y0,y1,y2,y3,y4,rfl⟩:=zk2 (aa.trans rfl)
 have g0:DataW.trod enc Tryz.prog w base q I k 22 (List.take (Tryz.prog.cellsOf 22) (List.drop 0 [U,M,N,L,O]))=some y0:=X 0 _ rfl
 rw[V] at g0
 replace g0:DataW.trod enc Tryz.prog w base q I k 22 [U]=some y0:=g0
 have g1:DataW.trod enc Tryz.prog w base q I k 80 (List.take (Tryz.prog.cellsOf 80) (List.drop 1 [U,M,N,L,O]))=some y1:=X 1 _ rfl
 rw[ac] at g1
 replace g1:DataW.trod enc Tryz.prog w base q I k 80 [M]=some y1:=g1
 have Z:DataW.trod enc Tryz.prog w base q I k 81 (List.take (Tryz.prog.cellsOf 81) (List.drop 2 [U,M,N,L,O]))=some y2:=X 2 _ rfl
 rw[ae] at Z
 replace Z:DataW.trod enc Tryz.prog w base q I k 81 [N]=some y2:=Z
 have g3:DataW.trod enc Tryz.prog w base q I k 82 (List.take (Tryz.prog.cellsOf 82) (List.drop 3 [U,M,N,L,O]))=some y3:=X 3 _ rfl
 rw[ab] at g3
 replace g3:DataW.trod enc Tryz.prog w base q I k 82 [L]=some y3:=g3
 have g4:DataW.trod enc Tryz.prog w base q I k 83 (List.take (Tryz.prog.cellsOf 83) (List.drop 4 [U,M,N,L,O]))=some y4:=X 4 _ rfl
 rw[ad] at g4
 replace g4:DataW.trod enc Tryz.prog w base q I k 83 [O]=some y4:=g4
 obtain⟨a0,c0,l0,e0,b0,r0,q0⟩:=zdP sNone (α:=ByteArray) (f:=(fun x=>[Value.string x])) (m:=1) (Q:=zdR) (by omega) (fun _=>rfl) Tryz.underlying22 (by kernel_rfl) (fun n K y h J=>zk4 h J) g0
 subst e0
 obtain⟨a1,c1,l1,e1,b1,r1,q1⟩:=zdP ⟨sNone,sNone,sNone⟩ (α:=Im) (f:=imL) (m:=3) (Q:=zep) (by omega) (fun _=>rfl) Tryz.underlying80 (by kernel_rfl) (fun n K y h J=>zqv h J) g1
 subst e1
 obtain⟨a2,c2,l2,e2,b2,r2,q2⟩:=zdP ⟨0,sNone,sNone,sNone⟩ (α:=Ep) (f:=epL) (m:=4) (Q:=zeq) (by omega) (fun _=>rfl) Tryz.underlying81 (by kernel_rfl) (fun n K y h J=>zqw h J) Z
 subst e2
 obtain⟨a3,c3,l3,e3,b3,r3,q3⟩:=zdP ⟨0,sNone,0⟩ (α:=Sm) (f:=smL) (m:=3) (Q:=zer) (by omega) (fun _=>rfl) Tryz.underlying82 (by kernel_rfl) (fun n K y h J=>zqx h J) g3
 subst e3
 obtain⟨a4,c4,l4,e4,b4,r4,q4⟩:=zdP zh (α:=Ex) (f:=exL) (m:=6) (Q:=(fun x=>zes x∧(-9223372036854775808≤x.num∧x.num≤9223372036854775807))) (by omega) (fun _=>rfl) Tryz.underlying83 (by kernel_rfl) (fun n K y h J=>zqy h J) g4
 subst e4
 unfold maxLen at b0 b1 b2 b3 b4
 refine⟨⟨a0,a1,a2,a3,a4,c0,c1,c2,c3,c4⟩,⟨l0,l1,l2,l3,l4⟩,rfl,⟨r0,r1,r2,r3,r4⟩,⟨⟨?_,q0⟩,⟨?_,q1⟩,⟨?_,q2⟩,⟨?_,q3⟩,⟨?_,fun x hx=>(q4 x hx).1⟩⟩,fun x hx=>(q4 x hx).2⟩
 ·show l0.length≤_
  omega
 ·show l1.length≤_
  omega
 ·show l2.length≤_
  omega
 ·show l3.length≤_
  omega
 ·show l4.length≤_
  omega
end Go.Proofs.YtgcbmogmniahjaaGreat