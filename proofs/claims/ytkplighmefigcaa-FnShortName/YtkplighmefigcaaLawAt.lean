/-
  What laws.at tells: some byte: the walk.
-/
import Derived.Test.YtkplighmefigcaaDrawBase
namespace Go.Proofs.Ytkplighmefigcaa
open Go.RowKit Go.PlainAid

theorem at_any (S : Src) (hS : S.ok) (k : Nat) (w : World) (hc : CodeW S w) (hk : k ≤ 4000) :
    Calls Try.prog 8 #[.slice S.a S.len S.cap, .int .i64 k] w fun e w' => (∃ z : Int, e = .returned (.int .i64 z) ∧ 0 ≤ z ∧ z ≤ 255) ∧ w' = w := by
  have hlen := hS.1
  by_cases h : k < S.len
  · obtain ⟨b, off, ha, hb, hcell⟩ := hc k h
    have hz := hS.2 k
    rw [ha]
    go_enter Try.func8, Try.ntmps8
    go_wp2
    go_ret
    exact ⟨⟨S.Z k, by go_num, hz.1, hz.2⟩, rfl⟩
  · go_enter Try.func8, Try.ntmps8
    go_wp2
    go_ret
    exact ⟨⟨_, rfl, by omega, by omega⟩, rfl⟩
end Go.Proofs.Ytkplighmefigcaa
