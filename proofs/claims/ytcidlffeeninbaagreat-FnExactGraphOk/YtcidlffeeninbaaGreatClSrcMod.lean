/-
 What is known of a program that came in.
-/
import Derived.Test.YtcidlffeeninbaaGreatClLawSzToLawTo
import Derived.ChangeArms
namespace Go.Proofs.YtcidlffeeninbaaGreat
open Go.RowKit Go.PlainAid Go.Deep
theorem zp6 {n:Int} (h:(Lit.int .i64 n).wf=true): -9223372036854775808≤n∧n≤9223372036854775807:=bounds_i64 h
theorem list3 {α:Type} {l:List α} (h:l.length=3): ∃w q z,l=[w,q,z]:=by
 match l,h with
 |[w,q,z],_=>exact⟨w,q,z,rfl⟩
theorem zjW {α:Type} {l:List α} (h:l.length=4): ∃z w A q,l=[z,w,A,q]:=by
 match l,h with
 |[z,w,A,q],_=>exact⟨z,w,A,q,rfl⟩
theorem zjX {α:Type} {l:List α} (h:l.length=5): ∃w D A q z,l=[w,D,A,q,z]:=by
 match l,h with
 |[w,D,A,q,z],_=>exact⟨w,D,A,q,z,rfl⟩
theorem zjY {α:Type} {l:List α} (h:l.length=6): ∃w E D q A z,l=[w,E,D,q,A,z]:=by
 match l,h with
 |[w,E,D,q,A,z],_=>exact⟨w,E,D,q,A,z,rfl⟩
theorem zjZ {H:Type} {enc:TypeId×Value→H} {w:World} {A:Nat} {q:Nat→Bool} {D:Bool} {n:Nat} {E:List Value} {y:DataW H×List MemPlace} (h:DataW.trod enc Tryz.prog w A q D n 9 E=some y) (_:E.length=1): ∃x:ByteArray,E=[Value.string x]∧zdG x:=by
 obtain⟨s,e,_,z⟩:=DataW.trod_string Tryz.underlying9 h
 refine⟨s,e,?_⟩
 unfold zdG
 unfold maxLen at z
 omega
theorem zp7 {H:Type} {enc:TypeId×Value→H} {w:World} {z:Nat} {q:Nat→Bool} {A:Bool} {n:Nat} {N:List Value} {y:DataW H×List MemPlace} (h:DataW.trod enc Tryz.prog w z q A n 127 N=some y) (hl:N.length=3): ∃x:Im,N=imL x∧zeh x:=by
 obtain⟨xs,k,_,_,_,M,O⟩:=DataW.trod_struct Tryz.underlying127 h
 have cS:Tryz.prog.cellsOf 9=1:=by kernel_rfl
 obtain⟨D,I,K,rfl⟩:=list3 hl
 obtain⟨U,y1,Z,rfl⟩:=list3 (M.trans rfl)
 have J:DataW.trod enc Tryz.prog w z q A k 9 (List.take (Tryz.prog.cellsOf 9) (List.drop 0 [D,I,K]))=some U:=O 0 _ rfl
 rw[cS] at J
 replace J:DataW.trod enc Tryz.prog w z q A k 9 [D]=some U:=J
 have L:DataW.trod enc Tryz.prog w z q A k 9 (List.take (Tryz.prog.cellsOf 9) (List.drop 1 [D,I,K]))=some y1:=O 1 _ rfl
 rw[cS] at L
 replace L:DataW.trod enc Tryz.prog w z q A k 9 [I]=some y1:=L
 have E:DataW.trod enc Tryz.prog w z q A k 9 (List.take (Tryz.prog.cellsOf 9) (List.drop 2 [D,I,K]))=some Z:=O 2 _ rfl
 rw[cS] at E
 replace E:DataW.trod enc Tryz.prog w z q A k 9 [K]=some Z:=E
 obtain⟨s0,V,_,z0⟩:=DataW.trod_string Tryz.underlying9 J
 simp only[List.cons.injEq,and_true] at V
 subst V
 obtain⟨s1,Y,_,z1⟩:=DataW.trod_string Tryz.underlying9 L
 simp only[List.cons.injEq,and_true] at Y
 subst Y
 obtain⟨s2,X,_,z2⟩:=DataW.trod_string Tryz.underlying9 E
 simp only[List.cons.injEq,and_true] at X
 subst X
 refine⟨⟨s0,s1,s2⟩,rfl,?_⟩
 unfold zeh
 unfold maxLen at z0
 unfold maxLen at z1
 unfold maxLen at z2
 exact⟨by show _≤_;omega,by show _≤_;omega,by show _≤_;omega⟩
theorem zp8 {H:Type} {enc:TypeId×Value→H} {w:World} {z:Nat} {q:Nat→Bool} {A:Bool} {n:Nat} {V:List Value} {y:DataW H×List MemPlace} (h:DataW.trod enc Tryz.prog w z q A n 129 V=some y) (hl:V.length=4): ∃x:Ep,V=epL x∧zei x:=by
 obtain⟨xs,k,_,_,_,U,O⟩:=DataW.trod_struct Tryz.underlying129 h
 have cS:Tryz.prog.cellsOf 9=1:=by kernel_rfl
 have cI:Tryz.prog.cellsOf 3=1:=by kernel_rfl
 obtain⟨D,E,J,I,rfl⟩:=zjW hl
 obtain⟨X,y1,y2,y3,rfl⟩:=zjW (U.trans rfl)
 have L:DataW.trod enc Tryz.prog w z q A k 3 (List.take (Tryz.prog.cellsOf 3) (List.drop 0 [D,E,J,I]))=some X:=O 0 _ rfl
 rw[cI] at L
 replace L:DataW.trod enc Tryz.prog w z q A k 3 [D]=some X:=L
 have N:DataW.trod enc Tryz.prog w z q A k 9 (List.take (Tryz.prog.cellsOf 9) (List.drop 1 [D,E,J,I]))=some y1:=O 1 _ rfl
 rw[cS] at N
 replace N:DataW.trod enc Tryz.prog w z q A k 9 [E]=some y1:=N
 have K:DataW.trod enc Tryz.prog w z q A k 9 (List.take (Tryz.prog.cellsOf 9) (List.drop 2 [D,E,J,I]))=some y2:=O 2 _ rfl
 rw[cS] at K
 replace K:DataW.trod enc Tryz.prog w z q A k 9 [J]=some y2:=K
 have M:DataW.trod enc Tryz.prog w z q A k 9 (List.take (Tryz.prog.cellsOf 9) (List.drop 3 [D,E,J,I]))=some y3:=O 3 _ rfl
 rw[cS] at M
 replace M:DataW.trod enc Tryz.prog w z q A k 9 [I]=some y3:=M
 obtain⟨s0,Y,_,z0⟩:=DataW.trod_int Tryz.underlying3 L
 simp only[List.cons.injEq,and_true] at Y
 subst Y
 obtain⟨s1,e1,_,z1⟩:=DataW.trod_string Tryz.underlying9 N
 simp only[List.cons.injEq,and_true] at e1
 subst e1
 obtain⟨s2,Z,_,z2⟩:=DataW.trod_string Tryz.underlying9 K
 simp only[List.cons.injEq,and_true] at Z
 subst Z
 obtain⟨s3,e3,_,z3⟩:=DataW.trod_string Tryz.underlying9 M
 simp only[List.cons.injEq,and_true] at e3
 subst e3
 refine⟨⟨s0,s1,s2,s3⟩,rfl,?_⟩
 unfold zei
 unfold maxLen at z1
 unfold maxLen at z2
 unfold maxLen at z3
 exact⟨by show _≤_;omega,by show _≤_;omega,by show _≤_;omega⟩
theorem zp9 {H:Type} {enc:TypeId×Value→H} {w:World} {z:Nat} {q:Nat→Bool} {A:Bool} {n:Nat} {N:List Value} {y:DataW H×List MemPlace} (h:DataW.trod enc Tryz.prog w z q A n 131 N=some y) (hl:N.length=3): ∃x:Sm,N=smL x∧zej x:=by
 obtain⟨xs,k,_,_,_,M,O⟩:=DataW.trod_struct Tryz.underlying131 h
 have cS:Tryz.prog.cellsOf 9=1:=by kernel_rfl
 have V:Tryz.prog.cellsOf 3=1:=by kernel_rfl
 obtain⟨D,I,K,rfl⟩:=list3 hl
 obtain⟨U,y1,y2,rfl⟩:=list3 (M.trans rfl)
 have J:DataW.trod enc Tryz.prog w z q A k 3 (List.take (Tryz.prog.cellsOf 3) (List.drop 0 [D,I,K]))=some U:=O 0 _ rfl
 rw[V] at J
 replace J:DataW.trod enc Tryz.prog w z q A k 3 [D]=some U:=J
 have L:DataW.trod enc Tryz.prog w z q A k 9 (List.take (Tryz.prog.cellsOf 9) (List.drop 1 [D,I,K]))=some y1:=O 1 _ rfl
 rw[cS] at L
 replace L:DataW.trod enc Tryz.prog w z q A k 9 [I]=some y1:=L
 have E:DataW.trod enc Tryz.prog w z q A k 3 (List.take (Tryz.prog.cellsOf 3) (List.drop 2 [D,I,K]))=some y2:=O 2 _ rfl
 rw[V] at E
 replace E:DataW.trod enc Tryz.prog w z q A k 3 [K]=some y2:=E
 obtain⟨s0,X,_,z0⟩:=DataW.trod_int Tryz.underlying3 J
 simp only[List.cons.injEq,and_true] at X
 subst X
 obtain⟨s1,Z,_,z1⟩:=DataW.trod_string Tryz.underlying9 L
 simp only[List.cons.injEq,and_true] at Z
 subst Z
 obtain⟨s2,Y,_,z2⟩:=DataW.trod_int Tryz.underlying3 E
 simp only[List.cons.injEq,and_true] at Y
 subst Y
 refine⟨⟨s0,s1,s2⟩,rfl,?_⟩
 unfold zej
 unfold maxLen at z1
 show _≤_
 omega
theorem zpA {H:Type} {enc:TypeId×Value→H} {w:World} {z:Nat} {q:Nat→Bool} {A:Bool} {n:Nat} {cs:List Value} {y:DataW H×List MemPlace} (h:DataW.trod enc Tryz.prog w z q A n 133 cs=some y) (hl:cs.length=6): ∃x:Ex,cs=exL x∧zek x∧(-9223372036854775808≤x.num∧x.num≤9223372036854775807):=by
 obtain⟨xs,k,_,_,_,aa,M⟩:=DataW.trod_struct Tryz.underlying133 h
 have cS:Tryz.prog.cellsOf 9=1:=by kernel_rfl
 have N:Tryz.prog.cellsOf 3=1:=by kernel_rfl
 obtain⟨D,E,K,I,L,J,rfl⟩:=zjY hl
 obtain⟨y0,y1,y2,y3,y4,y5,rfl⟩:=zjY (aa.trans rfl)
 have V:DataW.trod enc Tryz.prog w z q A k 3 (List.take (Tryz.prog.cellsOf 3) (List.drop 0 [D,E,K,I,L,J]))=some y0:=M 0 _ rfl
 rw[N] at V
 replace V:DataW.trod enc Tryz.prog w z q A k 3 [D]=some y0:=V
 have Y:DataW.trod enc Tryz.prog w z q A k 3 (List.take (Tryz.prog.cellsOf 3) (List.drop 1 [D,E,K,I,L,J]))=some y1:=M 1 _ rfl
 rw[N] at Y
 replace Y:DataW.trod enc Tryz.prog w z q A k 3 [E]=some y1:=Y
 have O:DataW.trod enc Tryz.prog w z q A k 9 (List.take (Tryz.prog.cellsOf 9) (List.drop 2 [D,E,K,I,L,J]))=some y2:=M 2 _ rfl
 rw[cS] at O
 replace O:DataW.trod enc Tryz.prog w z q A k 9 [K]=some y2:=O
 have X:DataW.trod enc Tryz.prog w z q A k 9 (List.take (Tryz.prog.cellsOf 9) (List.drop 3 [D,E,K,I,L,J]))=some y3:=M 3 _ rfl
 rw[cS] at X
 replace X:DataW.trod enc Tryz.prog w z q A k 9 [I]=some y3:=X
 have Z:DataW.trod enc Tryz.prog w z q A k 3 (List.take (Tryz.prog.cellsOf 3) (List.drop 4 [D,E,K,I,L,J]))=some y4:=M 4 _ rfl
 rw[N] at Z
 replace Z:DataW.trod enc Tryz.prog w z q A k 3 [L]=some y4:=Z
 have U:DataW.trod enc Tryz.prog w z q A k 3 (List.take (Tryz.prog.cellsOf 3) (List.drop 5 [D,E,K,I,L,J]))=some y5:=M 5 _ rfl
 rw[N] at U
 replace U:DataW.trod enc Tryz.prog w z q A k 3 [J]=some y5:=U
 obtain⟨s0,e0,_,z0⟩:=DataW.trod_int Tryz.underlying3 V
 simp only[List.cons.injEq,and_true] at e0
 subst e0
 obtain⟨s1,e1,_,z1⟩:=DataW.trod_int Tryz.underlying3 Y
 simp only[List.cons.injEq,and_true] at e1
 subst e1
 obtain⟨s2,e2,_,z2⟩:=DataW.trod_string Tryz.underlying9 O
 simp only[List.cons.injEq,and_true] at e2
 subst e2
 obtain⟨s3,e3,_,z3⟩:=DataW.trod_string Tryz.underlying9 X
 simp only[List.cons.injEq,and_true] at e3
 subst e3
 obtain⟨s4,e4,_,z4⟩:=DataW.trod_int Tryz.underlying3 Z
 simp only[List.cons.injEq,and_true] at e4
 subst e4
 obtain⟨s5,e5,_,z5⟩:=DataW.trod_int Tryz.underlying3 U
 simp only[List.cons.injEq,and_true] at e5
 subst e5
 refine⟨⟨s0,s1,s2,s3,s4,s5⟩,rfl,?_,zp6 z1⟩
 unfold zek
 unfold maxLen at z2
 unfold maxLen at z3
 exact⟨by show _≤_;omega,by show _≤_;omega⟩
theorem zpB {H:Type} {enc:TypeId×Value→H} {w:World} {D:Nat} {q:Nat→Bool} {E:Bool} {V:Nat} {J:List Value} {z:DataW H×List MemPlace} (h:DataW.trod enc Tryz.prog w D q E V 70 J=some z):
  ∃(A:MA) (m:Md),J=(zfz A m).cells.toList∧ModIn w A m∧zf0 m∧zaY m.ex:=by
 obtain⟨xs,k,_,_,I,ac,X⟩:=DataW.trod_struct Tryz.underlying70 h
 have cM:Tryz.prog.cellsOf 70=5:=by kernel_rfl
 rw[cM] at I
 have U:Tryz.prog.cellsOf 22=1:=by kernel_rfl
 have ad:Tryz.prog.cellsOf 65=1:=by kernel_rfl
 have ae:Tryz.prog.cellsOf 66=1:=by kernel_rfl
 have ab:Tryz.prog.cellsOf 67=1:=by kernel_rfl
 have aa:Tryz.prog.cellsOf 68=1:=by kernel_rfl
 obtain⟨K,L,N,M,O,rfl⟩:=zjX I
 obtain⟨y0,y1,y2,y3,y4,rfl⟩:=zjX (ac.trans rfl)
 have Z:DataW.trod enc Tryz.prog w D q E k 22 (List.take (Tryz.prog.cellsOf 22) (List.drop 0 [K,L,N,M,O]))=some y0:=X 0 _ rfl
 rw[U] at Z
 replace Z:DataW.trod enc Tryz.prog w D q E k 22 [K]=some y0:=Z
 have g1:DataW.trod enc Tryz.prog w D q E k 65 (List.take (Tryz.prog.cellsOf 65) (List.drop 1 [K,L,N,M,O]))=some y1:=X 1 _ rfl
 rw[ad] at g1
 replace g1:DataW.trod enc Tryz.prog w D q E k 65 [L]=some y1:=g1
 have Y:DataW.trod enc Tryz.prog w D q E k 66 (List.take (Tryz.prog.cellsOf 66) (List.drop 2 [K,L,N,M,O]))=some y2:=X 2 _ rfl
 rw[ae] at Y
 replace Y:DataW.trod enc Tryz.prog w D q E k 66 [N]=some y2:=Y
 have g3:DataW.trod enc Tryz.prog w D q E k 67 (List.take (Tryz.prog.cellsOf 67) (List.drop 3 [K,L,N,M,O]))=some y3:=X 3 _ rfl
 rw[ab] at g3
 replace g3:DataW.trod enc Tryz.prog w D q E k 67 [M]=some y3:=g3
 have g4:DataW.trod enc Tryz.prog w D q E k 68 (List.take (Tryz.prog.cellsOf 68) (List.drop 4 [K,L,N,M,O]))=some y4:=X 4 _ rfl
 rw[aa] at g4
 replace g4:DataW.trod enc Tryz.prog w D q E k 68 [O]=some y4:=g4
 obtain⟨a0,c0,l0,e0,b0,r0,q0⟩:=zdE sNone (α:=ByteArray) (f:=(fun x=>[Value.string x])) (m:=1) (Q:=zdG) (by omega) (fun _=>rfl) Tryz.underlying22 (by kernel_rfl) (fun n J y h I=>zjZ h I) Z
 subst e0
 obtain⟨a1,c1,l1,e1,b1,r1,q1⟩:=zdE ⟨sNone,sNone,sNone⟩ (α:=Im) (f:=imL) (m:=3) (Q:=zeh) (by omega) (fun _=>rfl) Tryz.underlying65 (by kernel_rfl) (fun n J y h I=>zp7 h I) g1
 subst e1
 obtain⟨a2,c2,l2,e2,b2,r2,q2⟩:=zdE ⟨0,sNone,sNone,sNone⟩ (α:=Ep) (f:=epL) (m:=4) (Q:=zei) (by omega) (fun _=>rfl) Tryz.underlying66 (by kernel_rfl) (fun n J y h I=>zp8 h I) Y
 subst e2
 obtain⟨a3,c3,l3,e3,b3,r3,q3⟩:=zdE ⟨0,sNone,0⟩ (α:=Sm) (f:=smL) (m:=3) (Q:=zej) (by omega) (fun _=>rfl) Tryz.underlying67 (by kernel_rfl) (fun n J y h I=>zp9 h I) g3
 subst e3
 obtain⟨a4,c4,l4,e4,b4,r4,q4⟩:=zdE zi (α:=Ex) (f:=exL) (m:=6) (Q:=(fun x=>zek x∧(-9223372036854775808≤x.num∧x.num≤9223372036854775807))) (by omega) (fun _=>rfl) Tryz.underlying68 (by kernel_rfl) (fun n J y h I=>zpA h I) g4
 subst e4
 unfold maxLen at b0 b1 b2 b3 b4
 refine⟨⟨a0,a1,a2,a3,a4,c0,c1,c2,c3,c4⟩,⟨l0,l1,l2,l3,l4⟩,rfl,⟨r0,r1,r2,r3,r4⟩,⟨⟨?_,q0⟩,⟨?_,q1⟩,⟨?_,q2⟩,⟨?_,q3⟩,⟨?_,fun x hx=>(q4 x hx).1⟩⟩,fun x hx=>(q4 x hx).2⟩
 ·show l0.length≤_
  omega
 ·show l1.length≤_
  omega
 ·show l2.length≤_
  omega
 ·show l3.length≤_
  omega
 ·show l4.length≤_
  omega
end Go.Proofs.YtcidlffeeninbaaGreat