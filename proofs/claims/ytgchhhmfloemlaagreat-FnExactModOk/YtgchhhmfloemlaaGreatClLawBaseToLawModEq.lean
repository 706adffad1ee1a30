/-
  What the laws' helpers over rows lean on. No program is spoken of.
  What the laws' comparers of lists answer where both show the same: the walks.
-/
import Derived.Test.YtgchhhmfloemlaaGreatProg
import Derived.Laws.OwnMore
import Derived.WalkLawsBesides
import Derived.Lib.QuietBelow
import Derived.BigQuiet
import Derived.Test.YtgchhhmfloemlaaGreatClImplParseJToMdMem
namespace Go.Proofs.YtgchhhmfloemlaaGreat
open Go.RowKit Go.PlainAid Go.Sort

theorem zmc {α : Type} {l : List α} {j : Nat} (h : j < l.length) : ∃ x,l[j]? = some x:=⟨_,List.getElem?_eq_getElem h⟩
end Go.Proofs.YtgchhhmfloemlaaGreat
namespace Go.Proofs.YtgchhhmfloemlaaGreat
open Go.RowKit Go.PlainAid Go.Sort

set_option maxRecDepth 100000 in
set_option maxHeartbeats 3200000 in
theorem zsk (a1 a2 : Option Addr) (c1 c2 : Nat) (w : World) : Calls Tryz.prog 34 #[.slice a1 0 c1,.slice a2 0 c2] w fun e w' => e = .returned (.bool true) ∧ Below w.heap.size w w':=by
 go_enter Tryz.func34,Tryz.ntmps34
 go_wp2
 go_loopg [5] 1 (fun k i wr => k = 1 ∧ i = .int .i64 0 ∧ wr = w)
 case atStart => exact ⟨rfl,rfl,rfl⟩
 case round =>
  obtain ⟨rfl,rfl,rfl⟩:=hrel
  go_wp2
  go_ret
  exact ⟨rfl,Below.refl _ _⟩
set_option maxRecDepth 100000 in
set_option maxHeartbeats 3200000 in
theorem zul (b1 b2 g1 g2 : Nat) (r1 r2 : Rw) (l : List ByteArray) (w : World) (h1 : OwnR w b1 9 1 r1 l.length (l.flatMap (fun x => [Value.string x]))) (h2 : OwnR w b2 9 1 r2 l.length (l.flatMap (fun x => [Value.string x]))) (e1 : r1.a = some ⟨g1,0,none⟩) (e2 : r2.a = some ⟨g2,0,none⟩) (hl : l.length ≤ 4294967296) :
  Calls Tryz.prog 34 #[.slice (some ⟨g1,0,none⟩) l.length r1.cap,.slice (some ⟨g2,0,none⟩) l.length r2.cap] w fun e w' => e = .returned (.bool true) ∧ Below w.heap.size w w':=by
 have H1:=hidI h1
 have H2:=hidI h2
 have E1:=hidI e1
 have E2:=hidI e2
 clear h1 h2 e1 e2
 go_enter Tryz.func34,Tryz.ntmps34
 go_wp2
 go_loopg [5] l.length (fun k i wr => ∃ j : Nat,i = .int .i64 j ∧ j + k = l.length ∧ Below w.heap.size w wr)
 case atStart => exact ⟨0,rfl,by omega,Below.refl _ _⟩
 case round =>
  obtain ⟨j,rfl,hj,hb⟩:=hrel
  have HB:=hidI hb
  clear hb
  by_cases hlt : j < l.length
  ·have hlti : (j : Int) < (l.length : Int):=by omega
   obtain ⟨x,hx⟩:=zmc hlt
   obtain ⟨g',ga,h1⟩:=OwnR.elem (f:=(fun x => [Value.string x])) (m:=1) (fun _ => rfl) (H1.out.keep fun k g => HB.out.block k (H1.out.typed g).2.1) hx
   obtain rfl : g' = g1:=by have:=ga.symm.trans E1.out; simpa using this
   obtain ⟨g',gb,h2⟩:=OwnR.elem (f:=(fun x => [Value.string x])) (m:=1) (fun _ => rfl) (H2.out.keep fun k g => HB.out.block k (H2.out.typed g).2.1) hx
   obtain rfl : g' = g2:=by have:=gb.symm.trans E2.out; simpa using this
   have C0:=hidI (h1 0 (by omega))
   have D0:=hidI (h2 0 (by omega))
   clear h1 h2 ga gb hx
   obtain ⟨j1,hj1⟩ : ∃ j1,j1 = j + 1:=⟨_,rfl⟩
   have ej : (j : Int) + 1 = (j1 : Int):=by omega
   have HJ:=hidI hj1
   clear hj1
   go_wp2
   have k0:=cell_regrown C0.out
   have l0:=cell_regrown D0.out
   simp only [Nat.add_zero,Nat.mul_one] at k0 l0
   refine wp_region_quiet_below (by kernel_rfl) (by kernel_rfl) ?_
   repeat (go_big_quiet_step (fail))
   refine wpQuiet_nil ?_
   intro w2 hw'
   obtain ⟨⟨dq,osq⟩,hw''⟩:=hw'
   have HB2 : Hid (Below w.heap.size w w2):=by show Below _ _ _; rw [hw'']; exact HB.out.trans ((below_regrown wr dq osq).mono HB.out.size)
   clear hw'' k0 l0 C0 D0
   go_wp2
   go_roundg (gk - 1)
   case rel => exact ⟨j1,rfl,by have:=HJ.out; omega,HB2.out⟩
   case measure => omega
  ·have hlti : ¬ (j : Int) < (l.length : Int):=by omega
   go_wp2
   go_ret
   exact ⟨rfl,HB.out⟩
theorem zum (b1 b2 : Nat) (r1 r2 : Rw) (l : List ByteArray) (w : World) (h1 : OwnR w b1 9 1 r1 l.length (l.flatMap (fun x => [Value.string x]))) (h2 : OwnR w b2 9 1 r2 l.length (l.flatMap (fun x => [Value.string x]))) (hl : l.length ≤ 4294967296) :
  Calls Tryz.prog 34 #[.slice r1.a l.length r1.cap,.slice r2.a l.length r2.cap] w fun e w' => e = .returned (.bool true) ∧ Below w.heap.size w w':=by
 by_cases h0 : l.length = 0
 ·rw [h0]
  exact zsk _ _ _ _ w
 ·rcases h1.nil_or with ⟨_,_,e⟩ | ⟨g1,e1⟩
  ·exact absurd e h0
  ·rcases h2.nil_or with ⟨_,_,e⟩ | ⟨g2,e2⟩
   ·exact absurd e h0
   ·rw [e1,e2]
    exact zul b1 b2 g1 g2 r1 r2 l w h1 h2 e1 e2 hl
set_option maxRecDepth 100000 in
set_option maxHeartbeats 3200000 in
theorem zbfr (x : Im) (w : World) : Calls Tryz.prog 74 #[.agg #[.string x.spec,.string x.first,.string x.loc],.agg #[.string x.spec,.string x.first,.string x.loc]] w fun e w' => e = .returned (.bool true) ∧ Below w.heap.size w w':=by
 go_enter Tryz.func74,Tryz.ntmps74
 go_wp2
 go_ret
 exact ⟨rfl,((Below.refl _ _).alloc (Nat.le_refl _) _).alloc (by show _ ≤ (w.heap.push _).size; simp) _⟩
set_option maxRecDepth 100000 in
set_option maxHeartbeats 3200000 in
theorem zyu (a1 a2 : Option Addr) (c1 c2 : Nat) (w : World) : Calls Tryz.prog 35 #[.slice a1 0 c1,.slice a2 0 c2] w fun e w' => e = .returned (.bool true) ∧ Below w.heap.size w w':=by
 go_enter Tryz.func35,Tryz.ntmps35
 go_wp2
 go_loopg [5] 1 (fun k i wr => k = 1 ∧ i = .int .i64 0 ∧ wr = w)
 case atStart => exact ⟨rfl,rfl,rfl⟩
 case round =>
  obtain ⟨rfl,rfl,rfl⟩:=hrel
  go_wp2
  go_ret
  exact ⟨rfl,Below.refl _ _⟩
set_option maxRecDepth 100000 in
set_option maxHeartbeats 3200000 in
theorem zbck (b1 b2 g1 g2 : Nat) (r1 r2 : Rw) (l : List Im) (w : World) (h1 : OwnR w b1 100 3 r1 l.length (l.flatMap imL)) (h2 : OwnR w b2 100 3 r2 l.length (l.flatMap imL)) (e1 : r1.a = some ⟨g1,0,none⟩) (e2 : r2.a = some ⟨g2,0,none⟩) (hl : l.length ≤ 4294967296) :
  Calls Tryz.prog 35 #[.slice (some ⟨g1,0,none⟩) l.length r1.cap,.slice (some ⟨g2,0,none⟩) l.length r2.cap] w fun e w' => e = .returned (.bool true) ∧ Below w.heap.size w w':=by
 have H1:=hidI h1
 have H2:=hidI h2
 have E1:=hidI e1
 have E2:=hidI e2
 clear h1 h2 e1 e2
 go_enter Tryz.func35,Tryz.ntmps35
 go_wp2
 go_loopg [5] l.length (fun k i wr => ∃ j : Nat,i = .int .i64 j ∧ j + k = l.length ∧ Below w.heap.size w wr)
 case atStart => exact ⟨0,rfl,by omega,Below.refl _ _⟩
 case round =>
  obtain ⟨j,rfl,hj,hb⟩:=hrel
  have HB:=hidI hb
  clear hb
  by_cases hlt : j < l.length
  ·have hlti : (j : Int) < (l.length : Int):=by omega
   obtain ⟨x,hx⟩:=zmc hlt
   obtain ⟨g',ga,h1⟩:=OwnR.elem (f:=imL) (m:=3) (fun _ => rfl) (H1.out.keep fun k g => HB.out.block k (H1.out.typed g).2.1) hx
   obtain rfl : g' = g1:=by have:=ga.symm.trans E1.out; simpa using this
   obtain ⟨g',gb,h2⟩:=OwnR.elem (f:=imL) (m:=3) (fun _ => rfl) (H2.out.keep fun k g => HB.out.block k (H2.out.typed g).2.1) hx
   obtain rfl : g' = g2:=by have:=gb.symm.trans E2.out; simpa using this
   have C0:=hidI (h1 0 (by omega))
   have D0:=hidI (h2 0 (by omega))
   have C1:=hidI (h1 1 (by omega))
   have D1:=hidI (h2 1 (by omega))
   have C2:=hidI (h1 2 (by omega))
   have D2:=hidI (h2 2 (by omega))
   clear h1 h2 ga gb hx
   have cQ : ∀ d os,Calls Tryz.prog 74 #[.agg #[.string x.spec,.string x.first,.string x.loc],.agg #[.string x.spec,.string x.first,.string x.loc]] (grow (redrawn wr d) os) fun e w'' => e = .returned (.bool true) ∧ ∃ p : Regrown,w'' = grow (redrawn wr p.d) p.os:=fun d os => Calls.regrown_of (zbfr x _)
   obtain ⟨j1,hj1⟩ : ∃ j1,j1 = j + 1:=⟨_,rfl⟩
   have ej : (j : Int) + 1 = (j1 : Int):=by omega
   have HJ:=hidI hj1
   clear hj1
   go_wp2
   have k0:=cell_regrown C0.out
   have l0:=cell_regrown D0.out
   have k1:=cell_regrown C1.out
   have l1:=cell_regrown D1.out
   have k2:=cell_regrown C2.out
   have l2:=cell_regrown D2.out
   simp only [Nat.add_zero] at k0 l0
   refine wp_region_quiet_below (by kernel_rfl) (by kernel_rfl) ?_
   repeat (go_big_quiet_step (exact cQ _ _))
   refine wpQuiet_nil ?_
   intro w2 hw'
   obtain ⟨⟨dq,osq⟩,hw''⟩:=hw'
   have HB2 : Hid (Below w.heap.size w w2):=by show Below _ _ _; rw [hw'']; exact HB.out.trans ((below_regrown wr dq osq).mono HB.out.size)
   clear hw'' k0 l0 C0 D0 k1 l1 C1 D1 k2 l2 C2 D2 cQ
   go_wp2
   go_roundg (gk - 1)
   case rel => exact ⟨j1,rfl,by have:=HJ.out; omega,HB2.out⟩
   case measure => omega
  ·have hlti : ¬ (j : Int) < (l.length : Int):=by omega
   go_wp2
   go_ret
   exact ⟨rfl,HB.out⟩
theorem zbcl (b1 b2 : Nat) (r1 r2 : Rw) (l : List Im) (w : World) (h1 : OwnR w b1 100 3 r1 l.length (l.flatMap imL)) (h2 : OwnR w b2 100 3 r2 l.length (l.flatMap imL)) (hl : l.length ≤ 4294967296) :
  Calls Tryz.prog 35 #[.slice r1.a l.length r1.cap,.slice r2.a l.length r2.cap] w fun e w' => e = .returned (.bool true) ∧ Below w.heap.size w w':=by
 by_cases h0 : l.length = 0
 ·rw [h0]
  exact zyu _ _ _ _ w
 ·rcases h1.nil_or with ⟨_,_,e⟩ | ⟨g1,e1⟩
  ·exact absurd e h0
  ·rcases h2.nil_or with ⟨_,_,e⟩ | ⟨g2,e2⟩
   ·exact absurd e h0
   ·rw [e1,e2]
    exact zbck b1 b2 g1 g2 r1 r2 l w h1 h2 e1 e2 hl
set_option maxRecDepth 100000 in
set_option maxHeartbeats 3200000 in
theorem zbfs (x : Ep) (w : World) : Calls Tryz.prog 75 #[.agg #[.int .i64 x.kind,.string x.name,.string x.loc,.string x.spec],.agg #[.int .i64 x.kind,.string x.name,.string x.loc,.string x.spec]] w fun e w' => e = .returned (.bool true) ∧ Below w.heap.size w w':=by
 go_enter Tryz.func75,Tryz.ntmps75
 go_wp2
 go_ret
 exact ⟨rfl,((Below.refl _ _).alloc (Nat.le_refl _) _).alloc (by show _ ≤ (w.heap.push _).size; simp) _⟩
set_option maxRecDepth 100000 in
set_option maxHeartbeats 3200000 in
theorem zyv (a1 a2 : Option Addr) (c1 c2 : Nat) (w : World) : Calls Tryz.prog 36 #[.slice a1 0 c1,.slice a2 0 c2] w fun e w' => e = .returned (.bool true) ∧ Below w.heap.size w w':=by
 go_enter Tryz.func36,Tryz.ntmps36
 go_wp2
 go_loopg [5] 1 (fun k i wr => k = 1 ∧ i = .int .i64 0 ∧ wr = w)
 case atStart => exact ⟨rfl,rfl,rfl⟩
 case round =>
  obtain ⟨rfl,rfl,rfl⟩:=hrel
  go_wp2
  go_ret
  exact ⟨rfl,Below.refl _ _⟩
set_option maxRecDepth 100000 in
set_option maxHeartbeats 3200000 in
theorem zbcm (b1 b2 g1 g2 : Nat) (r1 r2 : Rw) (l : List Ep) (w : World) (h1 : OwnR w b1 102 4 r1 l.length (l.flatMap epL)) (h2 : OwnR w b2 102 4 r2 l.length (l.flatMap epL)) (e1 : r1.a = some ⟨g1,0,none⟩) (e2 : r2.a = some ⟨g2,0,none⟩) (hl : l.length ≤ 4294967296) :
  Calls Tryz.prog 36 #[.slice (some ⟨g1,0,none⟩) l.length r1.cap,.slice (some ⟨g2,0,none⟩) l.length r2.cap] w fun e w' => e = .returned (.bool true) ∧ Below w.heap.size w w':=by
 have H1:=hidI h1
 have H2:=hidI h2
 have E1:=hidI e1
 have E2:=hidI e2
 clear h1 h2 e1 e2
 go_enter Tryz.func36,Tryz.ntmps36
 go_wp2
 go_loopg [5] l.length (fun k i wr => ∃ j : Nat,i = .int .i64 j ∧ j + k = l.length ∧ Below w.heap.size w wr)
 case atStart => exact ⟨0,rfl,by omega,Below.refl _ _⟩
 case round =>
  obtain ⟨j,rfl,hj,hb⟩:=hrel
  have HB:=hidI hb
  clear hb
  by_cases hlt : j < l.length
  ·have hlti : (j : Int) < (l.length : Int):=by omega
   obtain ⟨x,hx⟩:=zmc hlt
   obtain ⟨g',ga,h1⟩:=OwnR.elem (f:=epL) (m:=4) (fun _ => rfl) (H1.out.keep fun k g => HB.out.block k (H1.out.typed g).2.1) hx
   obtain rfl : g' = g1:=by have:=ga.symm.trans E1.out; simpa using this
   obtain ⟨g',gb,h2⟩:=OwnR.elem (f:=epL) (m:=4) (fun _ => rfl) (H2.out.keep fun k g => HB.out.block k (H2.out.typed g).2.1) hx
   obtain rfl : g' = g2:=by have:=gb.symm.trans E2.out; simpa using this
   have C0:=hidI (h1 0 (by omega))
   have D0:=hidI (h2 0 (by omega))
   have C1:=hidI (h1 1 (by omega))
   have D1:=hidI (h2 1 (by omega))
   have C2:=hidI (h1 2 (by omega))
   have D2:=hidI (h2 2 (by omega))
   have C3:=hidI (h1 3 (by omega))
   have D3:=hidI (h2 3 (by omega))
   clear h1 h2 ga gb hx
   have cQ : ∀ d os,Calls Tryz.prog 75 #[.agg #[.int .i64 x.kind,.string x.name,.string x.loc,.string x.spec],.agg #[.int .i64 x.kind,.string x.name,.string x.loc,.string x.spec]] (grow (redrawn wr d) os) fun e w'' => e = .returned (.bool true) ∧ ∃ p : Regrown,w'' = grow (redrawn wr p.d) p.os:=fun d os => Calls.regrown_of (zbfs x _)
   obtain ⟨j1,hj1⟩ : ∃ j1,j1 = j + 1:=⟨_,rfl⟩
   have ej : (j : Int) + 1 = (j1 : Int):=by omega
   have HJ:=hidI hj1
   clear hj1
   go_wp2
   have k0:=cell_regrown C0.out
   have l0:=cell_regrown D0.out
   have k1:=cell_regrown C1.out
   have l1:=cell_regrown D1.out
   have k2:=cell_regrown C2.out
   have l2:=cell_regrown D2.out
   have k3:=cell_regrown C3.out
   have l3:=cell_regrown D3.out
   simp only [Nat.add_zero] at k0 l0
   refine wp_region_quiet_below (by kernel_rfl) (by kernel_rfl) ?_
   repeat (go_big_quiet_step (exact cQ _ _))
   refine wpQuiet_nil ?_
   intro w2 hw'
   obtain ⟨⟨dq,osq⟩,hw''⟩:=hw'
   have HB2 : Hid (Below w.heap.size w w2):=by show Below _ _ _; rw [hw'']; exact HB.out.trans ((below_regrown wr dq osq).mono HB.out.size)
   clear hw'' k0 l0 C0 D0 k1 l1 C1 D1 k2 l2 C2 D2 k3 l3 C3 D3 cQ
   go_wp2
   go_roundg (gk - 1)
   case rel => exact ⟨j1,rfl,by have:=HJ.out; omega,HB2.out⟩
   case measure => omega
  ·have hlti : ¬ (j : Int) < (l.length : Int):=by omega
   go_wp2
   go_ret
   exact ⟨rfl,HB.out⟩
theorem zbcn (b1 b2 : Nat) (r1 r2 : Rw) (l : List Ep) (w : World) (h1 : OwnR w b1 102 4 r1 l.length (l.flatMap epL)) (h2 : OwnR w b2 102 4 r2 l.length (l.flatMap epL)) (hl : l.length ≤ 4294967296) :
  Calls Tryz.prog 36 #[.slice r1.a l.length r1.cap,.slice r2.a l.length r2.cap] w fun e w' => e = .returned (.bool true) ∧ Below w.heap.size w w':=by
 by_cases h0 : l.length = 0
 ·rw [h0]
  exact zyv _ _ _ _ w
 ·rcases h1.nil_or with ⟨_,_,e⟩ | ⟨g1,e1⟩
  ·exact absurd e h0
  ·rcases h2.nil_or with ⟨_,_,e⟩ | ⟨g2,e2⟩
   ·exact absurd e h0
   ·rw [e1,e2]
    exact zbcm b1 b2 g1 g2 r1 r2 l w h1 h2 e1 e2 hl
set_option maxRecDepth 100000 in
set_option maxHeartbeats 3200000 in
theorem zbco (x : Sm) (w : World) : Calls Tryz.prog 76 #[.agg #[.int .i64 x.kind,.string x.name,.int .i64 x.expr],.agg #[.int .i64 x.kind,.string x.name,.int .i64 x.expr]] w fun e w' => e = .returned (.bool true) ∧ Below w.heap.size w w':=by
 go_enter Tryz.func76,Tryz.ntmps76
 go_wp2
 go_ret
 exact ⟨rfl,((Below.refl _ _).alloc (Nat.le_refl _) _).alloc (by show _ ≤ (w.heap.push _).size; simp) _⟩
set_option maxRecDepth 100000 in
set_option maxHeartbeats 3200000 in
theorem zxj (a1 a2 : Option Addr) (c1 c2 : Nat) (w : World) : Calls Tryz.prog 37 #[.slice a1 0 c1,.slice a2 0 c2] w fun e w' => e = .returned (.bool true) ∧ Below w.heap.size w w':=by
 go_enter Tryz.func37,Tryz.ntmps37
 go_wp2
 go_loopg [5] 1 (fun k i wr => k = 1 ∧ i = .int .i64 0 ∧ wr = w)
 case atStart => exact ⟨rfl,rfl,rfl⟩
 case round =>
  obtain ⟨rfl,rfl,rfl⟩:=hrel
  go_wp2
  go_ret
  exact ⟨rfl,Below.refl _ _⟩
set_option maxRecDepth 100000 in
set_option maxHeartbeats 3200000 in
theorem zyw (b1 b2 g1 g2 : Nat) (r1 r2 : Rw) (l : List Sm) (w : World) (h1 : OwnR w b1 104 3 r1 l.length (l.flatMap smL)) (h2 : OwnR w b2 104 3 r2 l.length (l.flatMap smL)) (e1 : r1.a = some ⟨g1,0,none⟩) (e2 : r2.a = some ⟨g2,0,none⟩) (hl : l.length ≤ 4294967296) :
  Calls Tryz.prog 37 #[.slice (some ⟨g1,0,none⟩) l.length r1.cap,.slice (some ⟨g2,0,none⟩) l.length r2.cap] w fun e w' => e = .returned (.bool true) ∧ Below w.heap.size w w':=by
 have H1:=hidI h1
 have H2:=hidI h2
 have E1:=hidI e1
 have E2:=hidI e2
 clear h1 h2 e1 e2
 go_enter Tryz.func37,Tryz.ntmps37
 go_wp2
 go_loopg [5] l.length (fun k i wr => ∃ j : Nat,i = .int .i64 j ∧ j + k = l.length ∧ Below w.heap.size w wr)
 case atStart => exact ⟨0,rfl,by omega,Below.refl _ _⟩
 case round =>
  obtain ⟨j,rfl,hj,hb⟩:=hrel
  have HB:=hidI hb
  clear hb
  by_cases hlt : j < l.length
  ·have hlti : (j : Int) < (l.length : Int):=by omega
   obtain ⟨x,hx⟩:=zmc hlt
   obtain ⟨g',ga,h1⟩:=OwnR.elem (f:=smL) (m:=3) (fun _ => rfl) (H1.out.keep fun k g => HB.out.block k (H1.out.typed g).2.1) hx
   obtain rfl : g' = g1:=by have:=ga.symm.trans E1.out; simpa using this
   obtain ⟨g',gb,h2⟩:=OwnR.elem (f:=smL) (m:=3) (fun _ => rfl) (H2.out.keep fun k g => HB.out.block k (H2.out.typed g).2.1) hx
   obtain rfl : g' = g2:=by have:=gb.symm.trans E2.out; simpa using this
   have C0:=hidI (h1 0 (by omega))
   have D0:=hidI (h2 0 (by omega))
   have C1:=hidI (h1 1 (by omega))
   have D1:=hidI (h2 1 (by omega))
   have C2:=hidI (h1 2 (by omega))
   have D2:=hidI (h2 2 (by omega))
   clear h1 h2 ga gb hx
   have cQ : ∀ d os,Calls Tryz.prog 76 #[.agg #[.int .i64 x.kind,.string x.name,.int .i64 x.expr],.agg #[.int .i64 x.kind,.string x.name,.int .i64 x.expr]] (grow (redrawn wr d) os) fun e w'' => e = .returned (.bool true) ∧ ∃ p : Regrown,w'' = grow (redrawn wr p.d) p.os:=fun d os => Calls.regrown_of (zbco x _)
   obtain ⟨j1,hj1⟩ : ∃ j1,j1 = j + 1:=⟨_,rfl⟩
   have ej : (j : Int) + 1 = (j1 : Int):=by omega
   have HJ:=hidI hj1
   clear hj1
   go_wp2
   have k0:=cell_regrown C0.out
   have l0:=cell_regrown D0.out
   have k1:=cell_regrown C1.out
   have l1:=cell_regrown D1.out
   have k2:=cell_regrown C2.out
   have l2:=cell_regrown D2.out
   simp only [Nat.add_zero] at k0 l0
   refine wp_region_quiet_below (by kernel_rfl) (by kernel_rfl) ?_
   repeat (go_big_quiet_step (exact cQ _ _))
   refine wpQuiet_nil ?_
   intro w2 hw'
   obtain ⟨⟨dq,osq⟩,hw''⟩:=hw'
   have HB2 : Hid (Below w.heap.size w w2):=by show Below _ _ _; rw [hw'']; exact HB.out.trans ((below_regrown wr dq osq).mono HB.out.size)
   clear hw'' k0 l0 C0 D0 k1 l1 C1 D1 k2 l2 C2 D2 cQ
   go_wp2
   go_roundg (gk - 1)
   case rel => exact ⟨j1,rfl,by have:=HJ.out; omega,HB2.out⟩
   case measure => omega
  ·have hlti : ¬ (j : Int) < (l.length : Int):=by omega
   go_wp2
   go_ret
   exact ⟨rfl,HB.out⟩
theorem zyx (b1 b2 : Nat) (r1 r2 : Rw) (l : List Sm) (w : World) (h1 : OwnR w b1 104 3 r1 l.length (l.flatMap smL)) (h2 : OwnR w b2 104 3 r2 l.length (l.flatMap smL)) (hl : l.length ≤ 4294967296) :
  Calls Tryz.prog 37 #[.slice r1.a l.length r1.cap,.slice r2.a l.length r2.cap] w fun e w' => e = .returned (.bool true) ∧ Below w.heap.size w w':=by
 by_cases h0 : l.length = 0
 ·rw [h0]
  exact zxj _ _ _ _ w
 ·rcases h1.nil_or with ⟨_,_,e⟩ | ⟨g1,e1⟩
  ·exact absurd e h0
  ·rcases h2.nil_or with ⟨_,_,e⟩ | ⟨g2,e2⟩
   ·exact absurd e h0
   ·rw [e1,e2]
    exact zyw b1 b2 g1 g2 r1 r2 l w h1 h2 e1 e2 hl
set_option maxRecDepth 100000 in
set_option maxHeartbeats 3200000 in
theorem zbcp (x : Ex) (w : World) : Calls Tryz.prog 77 #[.agg #[.int .i64 x.kind,.int .i64 x.num,.string x.name,.string x.field,.int .i64 x.l,.int .i64 x.r],.agg #[.int .i64 x.kind,.int .i64 x.num,.string x.name,.string x.field,.int .i64 x.l,.int .i64 x.r]] w fun e w' => e = .returned (.bool true) ∧ Below w.heap.size w w':=by
 go_enter Tryz.func77,Tryz.ntmps77
 go_wp2
 go_ret
 exact ⟨rfl,((Below.refl _ _).alloc (Nat.le_refl _) _).alloc (by show _ ≤ (w.heap.push _).size; simp) _⟩
set_option maxRecDepth 100000 in
set_option maxHeartbeats 3200000 in
theorem zxk (a1 a2 : Option Addr) (c1 c2 : Nat) (w : World) : Calls Tryz.prog 38 #[.slice a1 0 c1,.slice a2 0 c2] w fun e w' => e = .returned (.bool true) ∧ Below w.heap.size w w':=by
 go_enter Tryz.func38,Tryz.ntmps38
 go_wp2
 go_loopg [5] 1 (fun k i wr => k = 1 ∧ i = .int .i64 0 ∧ wr = w)
 case atStart => exact ⟨rfl,rfl,rfl⟩
 case round =>
  obtain ⟨rfl,rfl,rfl⟩:=hrel
  go_wp2
  go_ret
  exact ⟨rfl,Below.refl _ _⟩
set_option maxRecDepth 100000 in
set_option maxHeartbeats 3200000 in
theorem zyy (b1 b2 g1 g2 : Nat) (r1 r2 : Rw) (l : List Ex) (w : World) (h1 : OwnR w b1 106 6 r1 l.length (l.flatMap exL)) (h2 : OwnR w b2 106 6 r2 l.length (l.flatMap exL)) (e1 : r1.a = some ⟨g1,0,none⟩) (e2 : r2.a = some ⟨g2,0,none⟩) (hl : l.length ≤ 4294967296) :
  Calls Tryz.prog 38 #[.slice (some ⟨g1,0,none⟩) l.length r1.cap,.slice (some ⟨g2,0,none⟩) l.length r2.cap] w fun e w' => e = .returned (.bool true) ∧ Below w.heap.size w w':=by
 have H1:=hidI h1
 have H2:=hidI h2
 have E1:=hidI e1
 have E2:=hidI e2
 clear h1 h2 e1 e2
 go_enter Tryz.func38,Tryz.ntmps38
 go_wp2
 go_loopg [5] l.length (fun k i wr => ∃ j : Nat,i = .int .i64 j ∧ j + k = l.length ∧ Below w.heap.size w wr)
 case atStart => exact ⟨0,rfl,by omega,Below.refl _ _⟩
 case round =>
  obtain ⟨j,rfl,hj,hb⟩:=hrel
  have HB:=hidI hb
  clear hb
  by_cases hlt : j < l.length
  ·have hlti : (j : Int) < (l.length : Int):=by omega
   obtain ⟨x,hx⟩:=zmc hlt
   obtain ⟨g',ga,h1⟩:=OwnR.elem (f:=exL) (m:=6) (fun _ => rfl) (H1.out.keep fun k g => HB.out.block k (H1.out.typed g).2.1) hx
   obtain rfl : g' = g1:=by have:=ga.symm.trans E1.out; simpa using this
   obtain ⟨g',gb,h2⟩:=OwnR.elem (f:=exL) (m:=6) (fun _ => rfl) (H2.out.keep fun k g => HB.out.block k (H2.out.typed g).2.1) hx
   obtain rfl : g' = g2:=by have:=gb.symm.trans E2.out; simpa using this
   have C0:=hidI (h1 0 (by omega))
   have D0:=hidI (h2 0 (by omega))
   have C1:=hidI (h1 1 (by omega))
   have D1:=hidI (h2 1 (by omega))
   have C2:=hidI (h1 2 (by omega))
   have D2:=hidI (h2 2 (by omega))
   have C3:=hidI (h1 3 (by omega))
   have D3:=hidI (h2 3 (by omega))
   have C4:=hidI (h1 4 (by omega))
   have D4:=hidI (h2 4 (by omega))
   have C5:=hidI (h1 5 (by omega))
   have D5:=hidI (h2 5 (by omega))
   clear h1 h2 ga gb hx
   have cQ : ∀ d os,Calls Tryz.prog 77 #[.agg #[.int .i64 x.kind,.int .i64 x.num,.string x.name,.string x.field,.int .i64 x.l,.int .i64 x.r],.agg #[.int .i64 x.kind,.int .i64 x.num,.string x.name,.string x.field,.int .i64 x.l,.int .i64 x.r]] (grow (redrawn wr d) os) fun e w'' => e = .returned (.bool true) ∧ ∃ p : Regrown,w'' = grow (redrawn wr p.d) p.os:=fun d os => Calls.regrown_of (zbcp x _)
   obtain ⟨j1,hj1⟩ : ∃ j1,j1 = j + 1:=⟨_,rfl⟩
   have ej : (j : Int) + 1 = (j1 : Int):=by omega
   have HJ:=hidI hj1
   clear hj1
   go_wp2
   have k0:=cell_regrown C0.out
   have l0:=cell_regrown D0.out
   have k1:=cell_regrown C1.out
   have l1:=cell_regrown D1.out
   have k2:=cell_regrown C2.out
   have l2:=cell_regrown D2.out
   have k3:=cell_regrown C3.out
   have l3:=cell_regrown D3.out
   have k4:=cell_regrown C4.out
   have l4:=cell_regrown D4.out
   have k5:=cell_regrown C5.out
   have l5:=cell_regrown D5.out
   simp only [Nat.add_zero] at k0 l0
   refine wp_region_quiet_below (by kernel_rfl) (by kernel_rfl) ?_
   repeat (go_big_quiet_step (exact cQ _ _))
   refine wpQuiet_nil ?_
   intro w2 hw'
   obtain ⟨⟨dq,osq⟩,hw''⟩:=hw'
   have HB2 : Hid (Below w.heap.size w w2):=by show Below _ _ _; rw [hw'']; exact HB.out.trans ((below_regrown wr dq osq).mono HB.out.size)
   clear hw'' k0 l0 C0 D0 k1 l1 C1 D1 k2 l2 C2 D2 k3 l3 C3 D3 k4 l4 C4 D4 k5 l5 C5 D5 cQ
   go_wp2
   go_roundg (gk - 1)
   case rel => exact ⟨j1,rfl,by have:=HJ.out; omega,HB2.out⟩
   case measure => omega
  ·have hlti : ¬ (j : Int) < (l.length : Int):=by omega
   go_wp2
   go_ret
   exact ⟨rfl,HB.out⟩
theorem zyz (b1 b2 : Nat) (r1 r2 : Rw) (l : List Ex) (w : World) (h1 : OwnR w b1 106 6 r1 l.length (l.flatMap exL)) (h2 : OwnR w b2 106 6 r2 l.length (l.flatMap exL)) (hl : l.length ≤ 4294967296) :
  Calls Tryz.prog 38 #[.slice r1.a l.length r1.cap,.slice r2.a l.length r2.cap] w fun e w' => e = .returned (.bool true) ∧ Below w.heap.size w w':=by
 by_cases h0 : l.length = 0
 ·rw [h0]
  exact zxk _ _ _ _ w
 ·rcases h1.nil_or with ⟨_,_,e⟩ | ⟨g1,e1⟩
  ·exact absurd e h0
  ·rcases h2.nil_or with ⟨_,_,e⟩ | ⟨g2,e2⟩
   ·exact absurd e h0
   ·rw [e1,e2]
    exact zyy b1 b2 g1 g2 r1 r2 l w h1 h2 e1 e2 hl
end Go.Proofs.YtgchhhmfloemlaaGreat
