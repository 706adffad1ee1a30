/-
 At every code laws.FnMap returns true: a name that no rule is for stays; a rule for just that name is taken ahead of all others; a module is mapped request by request,and without rules not at all; no condition.
-/
import Derived.Test.YtjdddblpfbmpaaaGreatRows
import Derived.ProofKit
import Derived.ShutString
import Derived.ChangeOld
import Derived.Test.YtjdddblpfbmpaaaGreatCmMapFnLawToSrc
namespace Go.Proofs.YtjdddblpfbmpaaaGreat.fnMap
set_option maxRecDepth 100000
set_option linter.unusedVariables false
open Go.ChangeShapes Go.WideShapes Go.ChangeAt Go.RowKit
open Go.ChangeMaps (open_string shut_string)
theorem own:ownKnob Tryz.prog.godebug=none:=by kernel_rfl
theorem laidOut:laidOutB Tryz.prog=true:=by kernel_rfl
theorem walk (S:Src) (w:World) (w0:zhb S w):
  Calls Tryz.prog 5 #[.slice S.a S.len S.cap] w fun e w'=>e= .returned (.bool true)∧Below w.heap.size w w':=by
 by_cases z:S.len≤1048576
 ·exact zuD S ⟨z,w0.2.1⟩ w w0.2.2.1 (Nat.le_of_eq w0.2.2.2.1) z
 ·have q:decide ((1048576:Int)<S.len)=true:=by simp;omega
  have j:=w0.1
  go_enter Tryz.func5,Tryz.ntmps5
  go_wp2_with fail
  refine (zmp _ _ _ _ j).mono ?_
  rintro e w' ⟨rfl,rfl⟩
  go_wp2
  go_ret
  exact⟨rfl,Below.refl _ _⟩
theorem lifted (os:Os) (A:os.Started) (H:Type) (enc:TypeId×Value→H):
  ReturnsInHanded {} Tryz.checked os 5 .any (Rows.fnMapSpec.pre6 enc Tryz.prog Tryz.f5 Rows.fnMapRow.domain false) (Rows.fnMapSpec.post enc Tryz.prog Tryz.f5 false true false false):=by
 refine returnsInHanded_of_change (C:=Tryz.checked) own A (by kernel_rfl) Tryz.func5
  (ChangeSpec.witness6 (enc:=enc) (C:=Tryz.checked) false ⟨#[],#[.slice none 0 0],[]⟩ 8 (by kernel_rfl) (by kernel_rfl) (by kernel_rfl) (by kernel_rfl)) ?_
 intro W U z ds gs X J hW ac _
 have M: ∀(j:Nat) t v,Tryz.f5.params[j]? =some t→z[j]? =some v→Value.okWide Tryz.prog W .any U t v:=J
 have ab:=hW
 obtain⟨p,q,V,hV,rfl,ah,af⟩:=hW
 have hA:DataW.TrodAll enc Tryz.prog W 0 (fun _=>true) true Tryz.f5.params.toList z.toList ds p:=V
 rw[Tryz.params5] at hA M
 obtain⟨v0,ag,d0,ae,p0,q0,Z,rfl,rfl,h0,r0⟩:=trodAll_cons hA
 obtain⟨rfl,rfl,rfl⟩:=trodAll_nil r0
 obtain rfl:z= #[v0]:=by cases z;simp_all
 obtain⟨rfl,rfl⟩:=trodVars_none hV
 obtain⟨a0,N,L,rfl⟩:=okWide_slice Tryz.underlying50 (M 0 50 v0 rfl rfl)
 have k0:=h0
 have Y: ∀x∈p0,x.block<W.heap.size:=by obtain⟨m,hm⟩:=k0;exact DataW.trod_lt m _ _ _ hm
 obtain⟨S,rfl,rfl,rfl,w0⟩: ∃S:Src,a0=S.a∧N=S.len∧L=S.cap∧zhb S W:=by
  obtain⟨ad,hf⟩:=h0
  rcases open_ints Tryz.underlying50 Tryz.underlying5 (by kernel_rfl) hf with ⟨I,_⟩|⟨x,l,c,zs,I,_,hl,hm,hz,_,O,aa⟩
  ·simp[Value.cells] at I
   obtain⟨rfl,rfl,rfl⟩:=I
   exact⟨⟨none,0,0,fun _=>0,W.heap.size⟩,rfl,rfl,rfl,zuE W⟩
  ·simp[Value.cells] at I
   obtain⟨rfl,rfl,rfl⟩:=I
   exact⟨⟨some x,N,L,fun j=>zs.getD j 0,W.heap.size⟩,rfl,rfl,rfl,zuG hl hm (by simpa using hz) O aa⟩
 clear V J
 refine (walk S W w0).mono fun e W' ⟨he,bel⟩=>?_
 subst he
 exact⟨_,rfl,_,_,_,[],_,[],ab,trodAll_mk1 (shut_bool Tryz.underlying4 _),(trodAll_cons_mk (Below.trod laidOut (by kernel_rfl) (of_decide_eq_true (by kernel_rfl)) k0 bel Y) trodAll_mk0),rfl,bel.frame _,fun h=>by cases h⟩
theorem over:Rows.fnMapRow.holds Tryz.pinned (OpenSpec.ofChange Rows.fnMapSpec):=
 OpenClaim.holds_of_wide 5 Tryz.f5 rfl rfl rfl rfl rfl rfl rfl ⟨rfl,rfl,rfl,rfl,rfl⟩ rfl rfl rfl rfl rfl (by kernel_rfl) Tryz.func5 (by kernel_rfl)
  (of_decide_eq_true (by kernel_rfl)) (by unfold Func.isWrapper;first|(rw[if_pos (by decide+kernel)];kernel_rfl)|(rw[if_neg (by decide+kernel)];exact⟨rfl,rfl⟩))
  (fun z j H q _=>lifted z j H q)
end Go.Proofs.YtjdddblpfbmpaaaGreat.fnMap
namespace Go.Proofs.YtjdddblpfbmpaaaGreat
theorem fnMap_holds:Rows.FnMapSaid:=fnMap.over
end Go.Proofs.YtjdddblpfbmpaaaGreat