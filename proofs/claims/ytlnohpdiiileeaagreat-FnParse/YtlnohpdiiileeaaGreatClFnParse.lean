/-
 At every code laws.FnParse returns true: a program that is read is read from what it is printed as,and two texts of the same tokens are one program; no condition.
-/
import Derived.Test.YtlnohpdiiileeaaGreatRows
import Derived.WalkKit
import Derived.WalkLawsBesides
import Derived.ProofKit
import Derived.OpenShut
import Derived.ShutString
import Derived.ChangeOld
import Derived.Below
import Derived.Test.YtlnohpdiiileeaaGreatClFnParseFacts
import Derived.Test.YtlnohpdiiileeaaGreatClParseLaw
import Derived.Test.YtlnohpdiiileeaaGreatClSrc
namespace Go.Proofs.YtlnohpdiiileeaaGreat.fnParse
set_option maxRecDepth 100000
set_option linter.unusedVariables false
open Go.ChangeShapes Go.WideShapes Go.ChangeAt Go.RowKit
open Go.ChangeMaps (open_string shut_string)
theorem own:ownKnob Tryz.prog.godebug=none:=by kernel_rfl
theorem laidOut:laidOutB Tryz.prog=true:=by kernel_rfl
theorem walk (S:Src) (w:World) (w0:zbak S w):
  Calls Tryz.prog 10 #[.slice S.a S.len S.cap] w fun e w'=>e= .returned (.bool true)∧Below w.heap.size w w':=by
 by_cases hb:S.len≤1048576
 ·exact zbga S ⟨hb,w0.2.1⟩ w w0.2.2.1 (Nat.le_of_eq w0.2.2.2) hb
 ·have hbig:decide ((1048576:Int)<S.len)=true:=by simp;omega
  have hlen:=w0.1
  go_enter Tryz.func10,Tryz.ntmps10
  go_wp2_with fail
  refine (zbhx _ _ _ _ hlen).mono ?_
  rintro e w' ⟨rfl,rfl⟩
  go_wp2
  go_ret
  exact⟨rfl,Below.refl _ _⟩
theorem lifted (os:Os) (started:os.Started) (H:Type) (enc:TypeId×Value→H):
  ReturnsInHanded {} Tryz.checked os 10 .any (Rows.fnParseSpec.pre6 enc Tryz.prog Tryz.f10 Rows.fnParseRow.domain false) (Rows.fnParseSpec.post enc Tryz.prog Tryz.f10 false true false false):=by
 refine returnsInHanded_of_change (C:=Tryz.checked) own started (by kernel_rfl) Tryz.func10
  (ChangeSpec.witness6 (enc:=enc) (C:=Tryz.checked) false ⟨#[],#[.slice none 0 0],[]⟩ 8 (by kernel_rfl) (by kernel_rfl) (by kernel_rfl) (by kernel_rfl)) ?_
 intro W base args ds gs before hval0 hW hcnd _
 have hval: ∀(j:Nat) t v,Tryz.f10.params[j]? =some t→args[j]? =some v→Value.okWide Tryz.prog W .any base t v:=hval0
 have hW':=hW
 obtain⟨p,q,hA0,hV,rfl,hfz,hnd⟩:=hW
 have hA:DataW.TrodAll enc Tryz.prog W 0 (fun _=>true) true Tryz.f10.params.toList args.toList ds p:=hA0
 rw[Tryz.params10] at hA hval
 obtain⟨v0,vs0,d0,ds0,p0,q0,hargs,rfl,rfl,h0,r0⟩:=trodAll_cons hA
 obtain⟨rfl,rfl,rfl⟩:=trodAll_nil r0
 obtain rfl:args= #[v0]:=by cases args;simp_all
 obtain⟨rfl,rfl⟩:=trodVars_none hV
 obtain⟨a0,len0,cap0,rfl⟩:=okWide_slice Tryz.underlying49 (hval 0 49 v0 rfl rfl)
 have k0:=h0
 have lt0: ∀x∈p0,x.block<W.heap.size:=by obtain⟨m,hm⟩:=k0;exact DataW.trod_lt m _ _ _ hm
 obtain⟨S,rfl,rfl,rfl,w0⟩: ∃S:Src,a0=S.a∧len0=S.len∧cap0=S.cap∧zbak S W:=by
  obtain⟨fuel,hf⟩:=h0
  rcases open_ints Tryz.underlying49 Tryz.underlying5 (by kernel_rfl) hf with ⟨hcs,_⟩|⟨x,l,c,zs,hcs,_,hl,hm,hz,_,hcell,hwz⟩
  ·simp[Value.cells] at hcs
   obtain⟨rfl,rfl,rfl⟩:=hcs
   exact⟨⟨none,0,0,fun _=>0,W.heap.size⟩,rfl,rfl,rfl,zbvk W⟩
  ·simp[Value.cells] at hcs
   obtain⟨rfl,rfl,rfl⟩:=hcs
   exact⟨⟨some x,len0,cap0,fun j=>zs.getD j 0,W.heap.size⟩,rfl,rfl,rfl,zbvl hl hm (by simpa using hz) hcell hwz⟩
 clear hA0 hval0
 refine (walk S W w0).mono fun e W' ⟨he,bel⟩=>?_
 subst he
 exact⟨_,rfl,_,_,_,[],_,[],hW',trodAll_mk1 (shut_bool Tryz.underlying4 _),(trodAll_cons_mk (Below.trod laidOut (by kernel_rfl) (of_decide_eq_true (by kernel_rfl)) k0 bel lt0) trodAll_mk0),rfl,bel.frame _,fun h=>by cases h⟩
theorem over:Rows.fnParseRow.holds Tryz.pinned (OpenSpec.ofChange Rows.fnParseSpec):=
 OpenClaim.holds_of_wide 10 Tryz.f10 rfl rfl rfl rfl rfl rfl rfl ⟨rfl,rfl,rfl,rfl,rfl⟩ rfl rfl rfl rfl rfl (by kernel_rfl) Tryz.func10 zbal
  (of_decide_eq_true (by kernel_rfl)) (by unfold Func.isWrapper;first|(rw[if_pos (by decide+kernel)];kernel_rfl)|(rw[if_neg (by decide+kernel)];exact⟨rfl,rfl⟩))
  (fun os started H enc _=>lifted os started H enc)
end Go.Proofs.YtlnohpdiiileeaaGreat.fnParse
namespace Go.Proofs.YtlnohpdiiileeaaGreat
theorem fnParse_holds:Rows.FnParseSaid:=fnParse.over
end Go.Proofs.YtlnohpdiiileeaaGreat