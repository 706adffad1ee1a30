/-
 At every code laws.FnParse returns true: a program that is read is read from what it is printed as,and two texts of the same tokens are one program; no condition.
-/
import Derived.ShutString
import Derived.ChangeOld
import Derived.Below
import Derived.Test.YthfeoomfiafldaaGreatCdFnParseFacts
import Derived.Test.YthfeoomfiafldaaGreatCdParseLaw
import Derived.Test.YthfeoomfiafldaaGreatCdSrc
namespace Go.Proofs.YthfeoomfiafldaaGreat.fnParse
set_option maxRecDepth 100000
set_option linter.unusedVariables false
open Go.ChangeShapes Go.WideShapes Go.ChangeAt Go.RowKit
open Go.ChangeMaps (open_string shut_string)
theorem own:ownKnob Tryz.prog.godebug=none:=by kernel_rfl
theorem laidOut:laidOutB Tryz.prog=true:=by kernel_rfl
theorem walk (S:Src) (w:World) (w0:zhv S w):
  Calls Tryz.prog 3 #[.slice S.a S.len S.cap] w fun e z=>e= .returned (.bool true)∧Below w.heap.size w z:=by
 by_cases D:S.len≤1048576
 ·exact zv4 S ⟨D,w0.2.1⟩ w w0.2.2.1 (Nat.le_of_eq w0.2.2.2) D
 ·have o:decide ((1048576:Int)<S.len)=true:=by simp;omega
  have j:=w0.1
  go_enter Tryz.func3,Tryz.ntmps3
  go_wp2_with fail
  refine (zmM _ _ _ _ j).mono ?_
  rintro e z ⟨rfl,rfl⟩
  go_wp2
  go_ret
  exact⟨rfl,Below.refl _ _⟩
theorem lifted (os:Os) (E:os.Started) (H:Type) (enc:TypeId×Value→H):
  ReturnsInHanded {} Tryz.checked os 3 .any (Rows.fnParseSpec.pre6 enc Tryz.prog Tryz.f3 Rows.fnParseRow.domain false) (Rows.fnParseSpec.post enc Tryz.prog Tryz.f3 false true false false):=by
 refine returnsInHanded_of_change (C:=Tryz.checked) own E (by kernel_rfl) Tryz.func3
  (ChangeSpec.witness6 (enc:=enc) (C:=Tryz.checked) false ⟨#[],#[.slice none 0 0],[]⟩ 8 (by kernel_rfl) (by kernel_rfl) (by kernel_rfl) (by kernel_rfl)) ?_
 intro W M o ds gs O D Z aa _
 have I: ∀(j:Nat) t v,Tryz.f3.params[j]? =some t→o[j]? =some v→Value.okWide Tryz.prog W .any M t v:=D
 have V:=Z
 obtain⟨p,q,N,hV,rfl,ac,ae⟩:=Z
 have hA:DataW.TrodAll enc Tryz.prog W 0 (fun _=>true) true Tryz.f3.params.toList o.toList ds p:=N
 rw[Tryz.params3] at hA I
 obtain⟨v0,af,d0,ad,p0,q0,X,rfl,rfl,h0,r0⟩:=trodAll_cons hA
 obtain⟨rfl,rfl,rfl⟩:=trodAll_nil r0
 obtain rfl:o= #[v0]:=by cases o;simp_all
 obtain⟨rfl,rfl⟩:=trodVars_none hV
 obtain⟨a0,J,K,rfl⟩:=okWide_slice Tryz.underlying22 (I 0 22 v0 rfl rfl)
 have k0:=h0
 have Y: ∀x∈p0,x.block<W.heap.size:=by obtain⟨m,U⟩:=k0;exact DataW.trod_lt m _ _ _ U
 obtain⟨S,rfl,rfl,rfl,w0⟩: ∃S:Src,a0=S.a∧J=S.len∧K=S.cap∧zhv S W:=by
  obtain⟨ab,hf⟩:=h0
  rcases open_ints Tryz.underlying22 Tryz.underlying5 (by kernel_rfl) hf with ⟨z,_⟩|⟨x,l,c,zs,z,_,hl,U,hz,_,L,Q⟩
  ·simp[Value.cells] at z
   obtain⟨rfl,rfl,rfl⟩:=z
   exact⟨⟨none,0,0,fun _=>0,W.heap.size⟩,rfl,rfl,rfl,zv5 W⟩
  ·simp[Value.cells] at z
   obtain⟨rfl,rfl,rfl⟩:=z
   exact⟨⟨some x,J,K,fun j=>zs.getD j 0,W.heap.size⟩,rfl,rfl,rfl,zv7 hl U (by simpa using hz) L Q⟩
 clear N D
 refine (walk S W w0).mono fun e W' ⟨he,bel⟩=>?_
 subst he
 exact⟨_,rfl,_,_,_,[],_,[],V,trodAll_mk1 (shut_bool Tryz.underlying4 _),(trodAll_cons_mk (Below.trod laidOut (by kernel_rfl) (of_decide_eq_true (by kernel_rfl)) k0 bel Y) trodAll_mk0),rfl,bel.frame _,fun h=>by cases h⟩
theorem over:Rows.fnParseRow.holds Tryz.pinned (OpenSpec.ofChange Rows.fnParseSpec):=
 OpenClaim.holds_of_wide 3 Tryz.f3 rfl rfl rfl rfl rfl rfl rfl ⟨rfl,rfl,rfl,rfl,rfl⟩ rfl rfl rfl rfl rfl (by kernel_rfl) Tryz.func3 zmN
  (of_decide_eq_true (by kernel_rfl)) (by unfold Func.isWrapper;first|(rw[if_pos (by decide+kernel)];kernel_rfl)|(rw[if_neg (by decide+kernel)];exact⟨rfl,rfl⟩))
  (fun z j H o _=>lifted z j H o)
end Go.Proofs.YthfeoomfiafldaaGreat.fnParse
namespace Go.Proofs.YthfeoomfiafldaaGreat
theorem fnParse_holds:Rows.FnParseSaid:=fnParse.over
end Go.Proofs.YthfeoomfiafldaaGreat