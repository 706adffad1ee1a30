/-
 What is known of a program that came in.
-/
import Derived.Test.YtgchhhmfloemlaaGreatClLawSzToLawToMod
import Derived.ChangeArms
namespace Go.Proofs.YtgchhhmfloemlaaGreat
open Go.RowKit Go.PlainAid Go.Deep

theorem zbmx {n : Int} (h : (Lit.int .i64 n).wf = true) : -9223372036854775808 ≤ n ∧ n ≤ 9223372036854775807:=bounds_i64 h
theorem list3 {α : Type} {l : List α} (h : l.length = 3) : ∃ a0 a1 a2,l = [a0,a1,a2]:=by
 match l,h with
 | [a0,a1,a2],_ => exact ⟨a0,a1,a2,rfl⟩
theorem zbjh {α : Type} {l : List α} (h : l.length = 4) : ∃ a0 a1 a2 a3,l = [a0,a1,a2,a3]:=by
 match l,h with
 | [a0,a1,a2,a3],_ => exact ⟨a0,a1,a2,a3,rfl⟩
theorem zbji {α : Type} {l : List α} (h : l.length = 5) : ∃ a0 a1 a2 a3 a4,l = [a0,a1,a2,a3,a4]:=by
 match l,h with
 | [a0,a1,a2,a3,a4],_ => exact ⟨a0,a1,a2,a3,a4,rfl⟩
theorem zbjj {α : Type} {l : List α} (h : l.length = 6) : ∃ a0 a1 a2 a3 a4 a5,l = [a0,a1,a2,a3,a4,a5]:=by
 match l,h with
 | [a0,a1,a2,a3,a4,a5],_ => exact ⟨a0,a1,a2,a3,a4,a5,rfl⟩

theorem zbmy {H : Type} {enc : TypeId × Value → H} {w : World} {base : Nat} {spare : Nat → Bool} {held : Bool} {n : Nat} {cs : List Value} {y : DataW H × List MemPlace} (h : DataW.trod enc Tryz.prog w base spare held n 9 cs = some y) (_ : cs.length = 1) : ∃ x : ByteArray,cs = [Value.string x] ∧ zmb x:=by
 obtain ⟨s,e,_,z⟩:=DataW.trod_string Tryz.underlying9 h
 refine ⟨s,e,?_⟩
 unfold zmb
 unfold maxLen at z
 omega
theorem zbne {H : Type} {enc : TypeId × Value → H} {w : World} {base : Nat} {spare : Nat → Bool} {held : Bool} {n : Nat} {cs : List Value} {y : DataW H × List MemPlace} (h : DataW.trod enc Tryz.prog w base spare held n 113 cs = some y) (hl : cs.length = 3) : ∃ x : Im,cs = imL x ∧ znc x:=by
 obtain ⟨xs,k,_,_,_,hxl,hf⟩:=DataW.trod_struct Tryz.underlying113 h
 have cS : Tryz.prog.cellsOf 9 = 1:=by kernel_rfl
 obtain ⟨v0,v1,v2,rfl⟩:=list3 hl
 obtain ⟨y0,y1,y2,rfl⟩:=list3 (hxl.trans rfl)
 have g0 : DataW.trod enc Tryz.prog w base spare held k 9 (List.take (Tryz.prog.cellsOf 9) (List.drop 0 [v0,v1,v2])) = some y0:=hf 0 _ rfl
 rw [cS] at g0
 replace g0 : DataW.trod enc Tryz.prog w base spare held k 9 [v0] = some y0:=g0
 have g1 : DataW.trod enc Tryz.prog w base spare held k 9 (List.take (Tryz.prog.cellsOf 9) (List.drop 1 [v0,v1,v2])) = some y1:=hf 1 _ rfl
 rw [cS] at g1
 replace g1 : DataW.trod enc Tryz.prog w base spare held k 9 [v1] = some y1:=g1
 have g2 : DataW.trod enc Tryz.prog w base spare held k 9 (List.take (Tryz.prog.cellsOf 9) (List.drop 2 [v0,v1,v2])) = some y2:=hf 2 _ rfl
 rw [cS] at g2
 replace g2 : DataW.trod enc Tryz.prog w base spare held k 9 [v2] = some y2:=g2
 obtain ⟨s0,e0,_,z0⟩:=DataW.trod_string Tryz.underlying9 g0
 simp only [List.cons.injEq,and_true] at e0
 subst e0
 obtain ⟨s1,e1,_,z1⟩:=DataW.trod_string Tryz.underlying9 g1
 simp only [List.cons.injEq,and_true] at e1
 subst e1
 obtain ⟨s2,e2,_,z2⟩:=DataW.trod_string Tryz.underlying9 g2
 simp only [List.cons.injEq,and_true] at e2
 subst e2
 refine ⟨⟨s0,s1,s2⟩,rfl,?_⟩
 unfold znc
 unfold maxLen at z0
 unfold maxLen at z1
 unfold maxLen at z2
 exact ⟨by show _ ≤ _; omega,by show _ ≤ _; omega,by show _ ≤ _; omega⟩
theorem zbnf {H : Type} {enc : TypeId × Value → H} {w : World} {base : Nat} {spare : Nat → Bool} {held : Bool} {n : Nat} {cs : List Value} {y : DataW H × List MemPlace} (h : DataW.trod enc Tryz.prog w base spare held n 115 cs = some y) (hl : cs.length = 4) : ∃ x : Ep,cs = epL x ∧ znd x:=by
 obtain ⟨xs,k,_,_,_,hxl,hf⟩:=DataW.trod_struct Tryz.underlying115 h
 have cS : Tryz.prog.cellsOf 9 = 1:=by kernel_rfl
 have cI : Tryz.prog.cellsOf 3 = 1:=by kernel_rfl
 obtain ⟨v0,v1,v2,v3,rfl⟩:=zbjh hl
 obtain ⟨y0,y1,y2,y3,rfl⟩:=zbjh (hxl.trans rfl)
 have g0 : DataW.trod enc Tryz.prog w base spare held k 3 (List.take (Tryz.prog.cellsOf 3) (List.drop 0 [v0,v1,v2,v3])) = some y0:=hf 0 _ rfl
 rw [cI] at g0
 replace g0 : DataW.trod enc Tryz.prog w base spare held k 3 [v0] = some y0:=g0
 have g1 : DataW.trod enc Tryz.prog w base spare held k 9 (List.take (Tryz.prog.cellsOf 9) (List.drop 1 [v0,v1,v2,v3])) = some y1:=hf 1 _ rfl
 rw [cS] at g1
 replace g1 : DataW.trod enc Tryz.prog w base spare held k 9 [v1] = some y1:=g1
 have g2 : DataW.trod enc Tryz.prog w base spare held k 9 (List.take (Tryz.prog.cellsOf 9) (List.drop 2 [v0,v1,v2,v3])) = some y2:=hf 2 _ rfl
 rw [cS] at g2
 replace g2 : DataW.trod enc Tryz.prog w base spare held k 9 [v2] = some y2:=g2
 have g3 : DataW.trod enc Tryz.prog w base spare held k 9 (List.take (Tryz.prog.cellsOf 9) (List.drop 3 [v0,v1,v2,v3])) = some y3:=hf 3 _ rfl
 rw [cS] at g3
 replace g3 : DataW.trod enc Tryz.prog w base spare held k 9 [v3] = some y3:=g3
 obtain ⟨s0,e0,_,z0⟩:=DataW.trod_int Tryz.underlying3 g0
 simp only [List.cons.injEq,and_true] at e0
 subst e0
 obtain ⟨s1,e1,_,z1⟩:=DataW.trod_string Tryz.underlying9 g1
 simp only [List.cons.injEq,and_true] at e1
 subst e1
 obtain ⟨s2,e2,_,z2⟩:=DataW.trod_string Tryz.underlying9 g2
 simp only [List.cons.injEq,and_true] at e2
 subst e2
 obtain ⟨s3,e3,_,z3⟩:=DataW.trod_string Tryz.underlying9 g3
 simp only [List.cons.injEq,and_true] at e3
 subst e3
 refine ⟨⟨s0,s1,s2,s3⟩,rfl,?_⟩
 unfold znd
 unfold maxLen at z1
 unfold maxLen at z2
 unfold maxLen at z3
 exact ⟨by show _ ≤ _; omega,by show _ ≤ _; omega,by show _ ≤ _; omega⟩
theorem zbng {H : Type} {enc : TypeId × Value → H} {w : World} {base : Nat} {spare : Nat → Bool} {held : Bool} {n : Nat} {cs : List Value} {y : DataW H × List MemPlace} (h : DataW.trod enc Tryz.prog w base spare held n 117 cs = some y) (hl : cs.length = 3) : ∃ x : Sm,cs = smL x ∧ zne x:=by
 obtain ⟨xs,k,_,_,_,hxl,hf⟩:=DataW.trod_struct Tryz.underlying117 h
 have cS : Tryz.prog.cellsOf 9 = 1:=by kernel_rfl
 have cI : Tryz.prog.cellsOf 3 = 1:=by kernel_rfl
 obtain ⟨v0,v1,v2,rfl⟩:=list3 hl
 obtain ⟨y0,y1,y2,rfl⟩:=list3 (hxl.trans rfl)
 have g0 : DataW.trod enc Tryz.prog w base spare held k 3 (List.take (Tryz.prog.cellsOf 3) (List.drop 0 [v0,v1,v2])) = some y0:=hf 0 _ rfl
 rw [cI] at g0
 replace g0 : DataW.trod enc Tryz.prog w base spare held k 3 [v0] = some y0:=g0
 have g1 : DataW.trod enc Tryz.prog w base spare held k 9 (List.take (Tryz.prog.cellsOf 9) (List.drop 1 [v0,v1,v2])) = some y1:=hf 1 _ rfl
 rw [cS] at g1
 replace g1 : DataW.trod enc Tryz.prog w base spare held k 9 [v1] = some y1:=g1
 have g2 : DataW.trod enc Tryz.prog w base spare held k 3 (List.take (Tryz.prog.cellsOf 3) (List.drop 2 [v0,v1,v2])) = some y2:=hf 2 _ rfl
 rw [cI] at g2
 replace g2 : DataW.trod enc Tryz.prog w base spare held k 3 [v2] = some y2:=g2
 obtain ⟨s0,e0,_,z0⟩:=DataW.trod_int Tryz.underlying3 g0
 simp only [List.cons.injEq,and_true] at e0
 subst e0
 obtain ⟨s1,e1,_,z1⟩:=DataW.trod_string Tryz.underlying9 g1
 simp only [List.cons.injEq,and_true] at e1
 subst e1
 obtain ⟨s2,e2,_,z2⟩:=DataW.trod_int Tryz.underlying3 g2
 simp only [List.cons.injEq,and_true] at e2
 subst e2
 refine ⟨⟨s0,s1,s2⟩,rfl,?_⟩
 unfold zne
 unfold maxLen at z1
 show _ ≤ _
 omega
theorem zbnh {H : Type} {enc : TypeId × Value → H} {w : World} {base : Nat} {spare : Nat → Bool} {held : Bool} {n : Nat} {cs : List Value} {y : DataW H × List MemPlace} (h : DataW.trod enc Tryz.prog w base spare held n 119 cs = some y) (hl : cs.length = 6) : ∃ x : Ex,cs = exL x ∧ znf x ∧ (-9223372036854775808 ≤ x.num ∧ x.num ≤ 9223372036854775807):=by
 obtain ⟨xs,k,_,_,_,hxl,hf⟩:=DataW.trod_struct Tryz.underlying119 h
 have cS : Tryz.prog.cellsOf 9 = 1:=by kernel_rfl
 have cI : Tryz.prog.cellsOf 3 = 1:=by kernel_rfl
 obtain ⟨v0,v1,v2,v3,v4,v5,rfl⟩:=zbjj hl
 obtain ⟨y0,y1,y2,y3,y4,y5,rfl⟩:=zbjj (hxl.trans rfl)
 have g0 : DataW.trod enc Tryz.prog w base spare held k 3 (List.take (Tryz.prog.cellsOf 3) (List.drop 0 [v0,v1,v2,v3,v4,v5])) = some y0:=hf 0 _ rfl
 rw [cI] at g0
 replace g0 : DataW.trod enc Tryz.prog w base spare held k 3 [v0] = some y0:=g0
 have g1 : DataW.trod enc Tryz.prog w base spare held k 3 (List.take (Tryz.prog.cellsOf 3) (List.drop 1 [v0,v1,v2,v3,v4,v5])) = some y1:=hf 1 _ rfl
 rw [cI] at g1
 replace g1 : DataW.trod enc Tryz.prog w base spare held k 3 [v1] = some y1:=g1
 have g2 : DataW.trod enc Tryz.prog w base spare held k 9 (List.take (Tryz.prog.cellsOf 9) (List.drop 2 [v0,v1,v2,v3,v4,v5])) = some y2:=hf 2 _ rfl
 rw [cS] at g2
 replace g2 : DataW.trod enc Tryz.prog w base spare held k 9 [v2] = some y2:=g2
 have g3 : DataW.trod enc Tryz.prog w base spare held k 9 (List.take (Tryz.prog.cellsOf 9) (List.drop 3 [v0,v1,v2,v3,v4,v5])) = some y3:=hf 3 _ rfl
 rw [cS] at g3
 replace g3 : DataW.trod enc Tryz.prog w base spare held k 9 [v3] = some y3:=g3
 have g4 : DataW.trod enc Tryz.prog w base spare held k 3 (List.take (Tryz.prog.cellsOf 3) (List.drop 4 [v0,v1,v2,v3,v4,v5])) = some y4:=hf 4 _ rfl
 rw [cI] at g4
 replace g4 : DataW.trod enc Tryz.prog w base spare held k 3 [v4] = some y4:=g4
 have g5 : DataW.trod enc Tryz.prog w base spare held k 3 (List.take (Tryz.prog.cellsOf 3) (List.drop 5 [v0,v1,v2,v3,v4,v5])) = some y5:=hf 5 _ rfl
 rw [cI] at g5
 replace g5 : DataW.trod enc Tryz.prog w base spare held k 3 [v5] = some y5:=g5
 obtain ⟨s0,e0,_,z0⟩:=DataW.trod_int Tryz.underlying3 g0
 simp only [List.cons.injEq,and_true] at e0
 subst e0
 obtain ⟨s1,e1,_,z1⟩:=DataW.trod_int Tryz.underlying3 g1
 simp only [List.cons.injEq,and_true] at e1
 subst e1
 obtain ⟨s2,e2,_,z2⟩:=DataW.trod_string Tryz.underlying9 g2
 simp only [List.cons.injEq,and_true] at e2
 subst e2
 obtain ⟨s3,e3,_,z3⟩:=DataW.trod_string Tryz.underlying9 g3
 simp only [List.cons.injEq,and_true] at e3
 subst e3
 obtain ⟨s4,e4,_,z4⟩:=DataW.trod_int Tryz.underlying3 g4
 simp only [List.cons.injEq,and_true] at e4
 subst e4
 obtain ⟨s5,e5,_,z5⟩:=DataW.trod_int Tryz.underlying3 g5
 simp only [List.cons.injEq,and_true] at e5
 subst e5
 refine ⟨⟨s0,s1,s2,s3,s4,s5⟩,rfl,?_,zbmx z1⟩
 unfold znf
 unfold maxLen at z2
 unfold maxLen at z3
 exact ⟨by show _ ≤ _; omega,by show _ ≤ _; omega⟩
theorem zbit {H : Type} {enc : TypeId × Value → H} {w : World} {base : Nat} {spare : Nat → Bool} {held : Bool} {fuel : Nat} {cs : List Value} {z : DataW H × List MemPlace} (h : DataW.trod enc Tryz.prog w base spare held fuel 28 cs = some z) :
  ∃ (A : MA) (m : Md),cs = (modA A m).cells.toList ∧ ModIn w A m ∧ BigM m ∧ Nums m.ex:=by
 obtain ⟨xs,k,_,_,hl,hxl,hf⟩:=DataW.trod_struct Tryz.underlying28 h
 have cM : Tryz.prog.cellsOf 28 = 5:=by kernel_rfl
 rw [cM] at hl
 have kStr : Tryz.prog.cellsOf 22 = 1:=by kernel_rfl
 have kIm : Tryz.prog.cellsOf 23 = 1:=by kernel_rfl
 have kEp : Tryz.prog.cellsOf 24 = 1:=by kernel_rfl
 have kSm : Tryz.prog.cellsOf 25 = 1:=by kernel_rfl
 have kEx : Tryz.prog.cellsOf 26 = 1:=by kernel_rfl
 obtain ⟨v0,v1,v2,v3,v4,rfl⟩:=zbji hl
 obtain ⟨y0,y1,y2,y3,y4,rfl⟩:=zbji (hxl.trans rfl)
 have g0 : DataW.trod enc Tryz.prog w base spare held k 22 (List.take (Tryz.prog.cellsOf 22) (List.drop 0 [v0,v1,v2,v3,v4])) = some y0:=hf 0 _ rfl
 rw [kStr] at g0
 replace g0 : DataW.trod enc Tryz.prog w base spare held k 22 [v0] = some y0:=g0
 have g1 : DataW.trod enc Tryz.prog w base spare held k 23 (List.take (Tryz.prog.cellsOf 23) (List.drop 1 [v0,v1,v2,v3,v4])) = some y1:=hf 1 _ rfl
 rw [kIm] at g1
 replace g1 : DataW.trod enc Tryz.prog w base spare held k 23 [v1] = some y1:=g1
 have g2 : DataW.trod enc Tryz.prog w base spare held k 24 (List.take (Tryz.prog.cellsOf 24) (List.drop 2 [v0,v1,v2,v3,v4])) = some y2:=hf 2 _ rfl
 rw [kEp] at g2
 replace g2 : DataW.trod enc Tryz.prog w base spare held k 24 [v2] = some y2:=g2
 have g3 : DataW.trod enc Tryz.prog w base spare held k 25 (List.take (Tryz.prog.cellsOf 25) (List.drop 3 [v0,v1,v2,v3,v4])) = some y3:=hf 3 _ rfl
 rw [kSm] at g3
 replace g3 : DataW.trod enc Tryz.prog w base spare held k 25 [v3] = some y3:=g3
 have g4 : DataW.trod enc Tryz.prog w base spare held k 26 (List.take (Tryz.prog.cellsOf 26) (List.drop 4 [v0,v1,v2,v3,v4])) = some y4:=hf 4 _ rfl
 rw [kEx] at g4
 replace g4 : DataW.trod enc Tryz.prog w base spare held k 26 [v4] = some y4:=g4
 obtain ⟨a0,c0,l0,e0,b0,r0,q0⟩:=zky sNone (α:=ByteArray) (f:=(fun x => [Value.string x])) (m:=1) (Q:=zmb) (by omega) (fun _ => rfl) Tryz.underlying22 (by kernel_rfl) (fun n cs y h hl => zbmy h hl) g0
 subst e0
 obtain ⟨a1,c1,l1,e1,b1,r1,q1⟩:=zky ⟨sNone,sNone,sNone⟩ (α:=Im) (f:=imL) (m:=3) (Q:=znc) (by omega) (fun _ => rfl) Tryz.underlying23 (by kernel_rfl) (fun n cs y h hl => zbne h hl) g1
 subst e1
 obtain ⟨a2,c2,l2,e2,b2,r2,q2⟩:=zky ⟨0,sNone,sNone,sNone⟩ (α:=Ep) (f:=epL) (m:=4) (Q:=znd) (by omega) (fun _ => rfl) Tryz.underlying24 (by kernel_rfl) (fun n cs y h hl => zbnf h hl) g2
 subst e2
 obtain ⟨a3,c3,l3,e3,b3,r3,q3⟩:=zky ⟨0,sNone,0⟩ (α:=Sm) (f:=smL) (m:=3) (Q:=zne) (by omega) (fun _ => rfl) Tryz.underlying25 (by kernel_rfl) (fun n cs y h hl => zbng h hl) g3
 subst e3
 obtain ⟨a4,c4,l4,e4,b4,r4,q4⟩:=zky exNo (α:=Ex) (f:=exL) (m:=6) (Q:=(fun x => znf x ∧ (-9223372036854775808 ≤ x.num ∧ x.num ≤ 9223372036854775807))) (by omega) (fun _ => rfl) Tryz.underlying26 (by kernel_rfl) (fun n cs y h hl => zbnh h hl) g4
 subst e4
 unfold maxLen at b0 b1 b2 b3 b4
 refine ⟨⟨a0,a1,a2,a3,a4,c0,c1,c2,c3,c4⟩,⟨l0,l1,l2,l3,l4⟩,rfl,⟨r0,r1,r2,r3,r4⟩,⟨⟨?_,q0⟩,⟨?_,q1⟩,⟨?_,q2⟩,⟨?_,q3⟩,⟨?_,fun x hx => (q4 x hx).1⟩⟩,fun x hx => (q4 x hx).2⟩
 ·show l0.length ≤ _
  omega
 ·show l1.length ≤ _
  omega
 ·show l2.length ≤ _
  omega
 ·show l3.length ≤ _
  omega
 ·show l4.length ≤ _
  omega
end Go.Proofs.YtgchhhmfloemlaaGreat
