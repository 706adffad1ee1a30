/-
 At every code laws.FnPrint returns true: a program that is right is read from what it is printed as,and printing what was read prints it again; no condition.
-/
import Derived.Test.YticdggnnpjachaaGreatRows
import Derived.ProofKit
import Derived.ShutString
import Derived.ChangeOld
import Derived.Below
import Derived.Test.YticdggnnpjachaaGreatCbPrintLaw
import Derived.Test.YticdggnnpjachaaGreatCbSrc
namespace Go.Proofs.YticdggnnpjachaaGreat.fnPrint
set_option maxRecDepth 100000
set_option linter.unusedVariables false
open Go.ChangeShapes Go.WideShapes Go.ChangeAt Go.RowKit
open Go.ChangeMaps (open_string shut_string)
theorem own:ownKnob Tryz.prog.godebug=none:=by kernel_rfl
theorem laidOut:laidOutB Tryz.prog=true:=by kernel_rfl
theorem walk (S:Src) (w:World) (w0:zfU S w):
  Calls Tryz.prog 5 #[.slice S.a S.len S.cap] w fun e o=>e= .returned (.bool true)∧Below w.heap.size w o:=by
 by_cases q:S.len≤1048576
 ·exact zr9 S ⟨q,w0.2.1⟩ w w0.2.2.1 (Nat.le_of_eq w0.2.2.2) q
 ·have n:decide ((1048576:Int)<S.len)=true:=by simp;omega
  have j:=w0.1
  go_enter Tryz.func5,Tryz.ntmps5
  go_wp2_with fail
  refine (zko _ _ _ _ j).mono ?_
  rintro e o ⟨rfl,rfl⟩
  go_wp2
  go_ret
  exact⟨rfl,Below.refl _ _⟩
theorem lifted (X:Os) (A:X.Started) (H:Type) (enc:TypeId×Value→H):
  ReturnsInHanded {} Tryz.checked X 5 .any (Rows.fnPrintSpec.pre6 enc Tryz.prog Tryz.f5 Rows.fnPrintRow.domain false) (Rows.fnPrintSpec.post enc Tryz.prog Tryz.f5 false true false false):=by
 refine returnsInHanded_of_change (C:=Tryz.checked) own A (by kernel_rfl) Tryz.func5
  (ChangeSpec.witness6 (enc:=enc) (C:=Tryz.checked) false ⟨#[],#[.slice none 0 0],[]⟩ 8 (by kernel_rfl) (by kernel_rfl) (by kernel_rfl) (by kernel_rfl)) ?_
 intro W K n ds gs M o hW aa _
 have E: ∀(j:Nat) t v,Tryz.f5.params[j]? =some t→n[j]? =some v→Value.okWide Tryz.prog W .any K t v:=o
 have O:=hW
 obtain⟨p,q,L,hV,rfl,ab,ad⟩:=hW
 have Y:DataW.TrodAll enc Tryz.prog W 0 (fun _=>true) true Tryz.f5.params.toList n.toList ds p:=L
 rw[Tryz.params5] at Y E
 obtain⟨v0,ae,d0,ac,p0,q0,V,rfl,rfl,h0,r0⟩:=trodAll_cons Y
 obtain⟨rfl,rfl,rfl⟩:=trodAll_nil r0
 obtain rfl:n= #[v0]:=by cases n;simp_all
 obtain⟨rfl,rfl⟩:=trodVars_none hV
 obtain⟨a0,I,D,rfl⟩:=okWide_slice Tryz.underlying44 (E 0 44 v0 rfl rfl)
 have k0:=h0
 have Q: ∀x∈p0,x.block<W.heap.size:=by obtain⟨m,N⟩:=k0;exact DataW.trod_lt m _ _ _ N
 obtain⟨S,rfl,rfl,rfl,w0⟩: ∃S:Src,a0=S.a∧I=S.len∧D=S.cap∧zfU S W:=by
  obtain⟨Z,hf⟩:=h0
  rcases open_ints Tryz.underlying44 Tryz.underlying5 (by kernel_rfl) hf with ⟨z,_⟩|⟨x,l,c,zs,z,_,hl,N,hz,_,J,U⟩
  ·simp[Value.cells] at z
   obtain⟨rfl,rfl,rfl⟩:=z
   exact⟨⟨none,0,0,fun _=>0,W.heap.size⟩,rfl,rfl,rfl,zrA W⟩
  ·simp[Value.cells] at z
   obtain⟨rfl,rfl,rfl⟩:=z
   exact⟨⟨some x,I,D,fun j=>zs.getD j 0,W.heap.size⟩,rfl,rfl,rfl,zrC hl N (by simpa using hz) J U⟩
 clear L o
 refine (walk S W w0).mono fun e W' ⟨he,bel⟩=>?_
 subst he
 exact⟨_,rfl,_,_,_,[],_,[],O,trodAll_mk1 (shut_bool Tryz.underlying4 _),(trodAll_cons_mk (Below.trod laidOut (by kernel_rfl) (of_decide_eq_true (by kernel_rfl)) k0 bel Q) trodAll_mk0),rfl,bel.frame _,fun h=>by cases h⟩
theorem over:Rows.fnPrintRow.holds Tryz.pinned (OpenSpec.ofChange Rows.fnPrintSpec):=
 OpenClaim.holds_of_wide 5 Tryz.f5 rfl rfl rfl rfl rfl rfl rfl ⟨rfl,rfl,rfl,rfl,rfl⟩ rfl rfl rfl rfl rfl (by kernel_rfl) Tryz.func5 (by kernel_rfl)
  (of_decide_eq_true (by kernel_rfl)) (by unfold Func.isWrapper;first|(rw[if_pos (by decide+kernel)];kernel_rfl)|(rw[if_neg (by decide+kernel)];exact⟨rfl,rfl⟩))
  (fun o j H n _=>lifted o j H n)
end Go.Proofs.YticdggnnpjachaaGreat.fnPrint
namespace Go.Proofs.YticdggnnpjachaaGreat
theorem fnPrint_holds:Rows.FnPrintSaid:=fnPrint.over
end Go.Proofs.YticdggnnpjachaaGreat