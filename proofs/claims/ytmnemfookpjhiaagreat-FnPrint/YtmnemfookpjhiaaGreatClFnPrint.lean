/-
 At every code laws.FnPrint returns true: a program that is right is read from what it is printed as,and printing what was read prints it again; no condition.
-/
import Derived.Test.YtmnemfookpjhiaaGreatRows
import Derived.WalkKit
import Derived.WalkLawsBesides
import Derived.ProofKit
import Derived.OpenShut
import Derived.ShutString
import Derived.ChangeOld
import Derived.Below
import Derived.Test.YtmnemfookpjhiaaGreatClPrintLaw
import Derived.Test.YtmnemfookpjhiaaGreatClSrc
namespace Go.Proofs.YtmnemfookpjhiaaGreat.fnPrint
set_option maxRecDepth 100000
set_option linter.unusedVariables false
open Go.ChangeShapes Go.WideShapes Go.ChangeAt Go.RowKit
open Go.ChangeMaps (open_string shut_string)
theorem own:ownKnob Tryz.prog.godebug=none:=by kernel_rfl
theorem laidOut:laidOutB Tryz.prog=true:=by kernel_rfl
theorem walk (S:Src) (w:World) (w0:zvy S w):
  Calls Tryz.prog 7 #[.slice S.a S.len S.cap] w fun e w'=>e= .returned (.bool true)∧Below w.heap.size w w':=by
 by_cases hb:S.len≤1048576
 ·exact zbau S ⟨hb,w0.2.1⟩ w w0.2.2.1 (Nat.le_of_eq w0.2.2.2) hb
 ·have hbig:decide ((1048576:Int)<S.len)=true:=by simp;omega
  have hlen:=w0.1
  go_enter Tryz.func7,Tryz.ntmps7
  go_wp2_with fail
  refine (zbcd _ _ _ _ hlen).mono ?_
  rintro e w' ⟨rfl,rfl⟩
  go_wp2
  go_ret
  exact⟨rfl,Below.refl _ _⟩
theorem lifted (os:Os) (started:os.Started) (H:Type) (enc:TypeId×Value→H):
  ReturnsInHanded {} Tryz.checked os 7 .any (Rows.fnPrintSpec.pre6 enc Tryz.prog Tryz.f7 Rows.fnPrintRow.domain false) (Rows.fnPrintSpec.post enc Tryz.prog Tryz.f7 false true false false):=by
 refine returnsInHanded_of_change (C:=Tryz.checked) own started (by kernel_rfl) Tryz.func7
  (ChangeSpec.witness6 (enc:=enc) (C:=Tryz.checked) false ⟨#[],#[.slice none 0 0],[]⟩ 8 (by kernel_rfl) (by kernel_rfl) (by kernel_rfl) (by kernel_rfl)) ?_
 intro W base args ds gs before hval0 hW hcnd _
 have hval: ∀(j:Nat) t v,Tryz.f7.params[j]? =some t→args[j]? =some v→Value.okWide Tryz.prog W .any base t v:=hval0
 have hW':=hW
 obtain⟨p,q,hA0,hV,rfl,hfz,hnd⟩:=hW
 have hA:DataW.TrodAll enc Tryz.prog W 0 (fun _=>true) true Tryz.f7.params.toList args.toList ds p:=hA0
 rw[Tryz.params7] at hA hval
 obtain⟨v0,vs0,d0,ds0,p0,q0,hargs,rfl,rfl,h0,r0⟩:=trodAll_cons hA
 obtain⟨rfl,rfl,rfl⟩:=trodAll_nil r0
 obtain rfl:args= #[v0]:=by cases args;simp_all
 obtain⟨rfl,rfl⟩:=trodVars_none hV
 obtain⟨a0,len0,cap0,rfl⟩:=okWide_slice Tryz.underlying41 (hval 0 41 v0 rfl rfl)
 have k0:=h0
 have lt0: ∀x∈p0,x.block<W.heap.size:=by obtain⟨m,hm⟩:=k0;exact DataW.trod_lt m _ _ _ hm
 obtain⟨S,rfl,rfl,rfl,w0⟩: ∃S:Src,a0=S.a∧len0=S.len∧cap0=S.cap∧zvy S W:=by
  obtain⟨fuel,hf⟩:=h0
  rcases open_ints Tryz.underlying41 Tryz.underlying5 (by kernel_rfl) hf with ⟨hcs,_⟩|⟨x,l,c,zs,hcs,_,hl,hm,hz,_,hcell,hwz⟩
  ·simp[Value.cells] at hcs
   obtain⟨rfl,rfl,rfl⟩:=hcs
   exact⟨⟨none,0,0,fun _=>0,W.heap.size⟩,rfl,rfl,rfl,zbnh W⟩
  ·simp[Value.cells] at hcs
   obtain⟨rfl,rfl,rfl⟩:=hcs
   exact⟨⟨some x,len0,cap0,fun j=>zs.getD j 0,W.heap.size⟩,rfl,rfl,rfl,zbni hl hm (by simpa using hz) hcell hwz⟩
 clear hA0 hval0
 refine (walk S W w0).mono fun e W' ⟨he,bel⟩=>?_
 subst he
 exact⟨_,rfl,_,_,_,[],_,[],hW',trodAll_mk1 (shut_bool Tryz.underlying4 _),(trodAll_cons_mk (Below.trod laidOut (by kernel_rfl) (of_decide_eq_true (by kernel_rfl)) k0 bel lt0) trodAll_mk0),rfl,bel.frame _,fun h=>by cases h⟩
theorem over:Rows.fnPrintRow.holds Tryz.pinned (OpenSpec.ofChange Rows.fnPrintSpec):=
 OpenClaim.holds_of_wide 7 Tryz.f7 rfl rfl rfl rfl rfl rfl rfl ⟨rfl,rfl,rfl,rfl,rfl⟩ rfl rfl rfl rfl rfl (by kernel_rfl) Tryz.func7 (by kernel_rfl)
  (of_decide_eq_true (by kernel_rfl)) (by unfold Func.isWrapper;first|(rw[if_pos (by decide+kernel)];kernel_rfl)|(rw[if_neg (by decide+kernel)];exact⟨rfl,rfl⟩))
  (fun os started H enc _=>lifted os started H enc)
end Go.Proofs.YtmnemfookpjhiaaGreat.fnPrint
namespace Go.Proofs.YtmnemfookpjhiaaGreat
theorem fnPrint_holds:Rows.FnPrintSaid:=fnPrint.over
end Go.Proofs.YtmnemfookpjhiaaGreat