/-
 A row of numbers that a call hands back: how the laws' helpers take it.
-/
import Derived.Test.YtgcbmogmniahjaaGreatCAsLawCodeBToLawCodeC
import Derived.Deep.RegionHeld3
namespace Go.Proofs.YtgcbmogmniahjaaGreat
open Go.RowKit Go.PlainAid Go.Sort
def MarkedE (w:World) (base:Nat) (t:TypeId) (size:Nat) (a:Option Addr) (n cap:Nat):Prop:=0<n→∃g,a=some ⟨g,0,none⟩∧OwnX w base t size g n cap (mkI 1) (n*size)
theorem MarkedE.later {w W:World} {base size n q:Nat} {t:TypeId} {a:Option Addr} (h:MarkedE w base t size a n q) (A:Below w.heap.size w W):MarkedE W base t size a n q:=
 fun k=>by obtain⟨g,e,z⟩:=h k;exact⟨g,e,z.later A⟩
theorem zxN {w q:World} {g b:Nat} (h:w.grownBy q (some g)) (D:b≤g) (z:b≤w.heap.size):Below b w q:=
 ⟨h.os,h.tape,h.output,h.size,fun k A=>h.block k (by omega) fun e=>by have:=Option.some.inj e;omega⟩
theorem zxO (w:World) (base:Nat) (a:Option Addr) (n q:Nat) (I:List Int) (h:OutE itE 3 w base a n q I) (D:base≤w.heap.size) (K:n≤1048576):
  Calls Tryz.prog 18 #[.slice a n q,.int .i64 1] w fun e z=>e= .returned (.int .i64 ((1+n:Nat):Int))∧MarkedE z base 3 1 a n q∧Below base w z:=by
 rcases Nat.eq_zero_or_pos n with e|e
 ·subst e
  refine (zxJ a q 1 w).mono ?_
  rintro e E ⟨rfl,rfl⟩
  exact⟨rfl,fun k=>absurd k (Nat.lt_irrefl _),Below.refl _ _⟩
 ·obtain⟨g,rfl,A⟩:=h.2 e
  refine (zxK base g n q 1 w (OwnX.start A.1 _) K (by omega)).mono ?_
  rintro e E ⟨rfl,H,J⟩
  exact⟨rfl,fun _=>⟨g,rfl,by rw[Nat.mul_one];exact H⟩,zxN J A.blk.1 D⟩
theorem zn4 (w:World) (base:Nat) (a:Option Addr) (n q:Nat) (h:MarkedE w base 3 1 a n q) (D:n≤1048576):
  Calls Tryz.prog 19 #[.slice a n q,.int .i64 1] w fun e A=>e= .returned (.int .i64 ((1+n:Nat):Int))∧A=w:=by
 rcases Nat.eq_zero_or_pos n with e|e
 ·subst e
  exact zxL a q 1 w
 ·obtain⟨g,rfl,z⟩:=h e
  rw[Nat.mul_one] at z
  exact zxM base g n q 1 w z D (by omega)
end Go.Proofs.YtgcbmogmniahjaaGreat