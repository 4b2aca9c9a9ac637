/- bits.Div64, Rem64, at any words. -/
import Derived.Test.YtcdeankllgpnfaaDvA
namespace Go.Proofs.Ytcdeankllgpnfaa
open Go.RowKit

theorem bDiv (hi lo y : Nat) (hl : lo < 18446744073709551616) (hy : y < 18446744073709551616) (hlt : hi < y) (w : World) :
    Calls Try.prog 62 #[.int .u64 (hi : Nat), .int .u64 (lo : Nat), .int .u64 (y : Nat)] w fun e w' => e = .returned (.tuple #[.int .u64 ((hi * 18446744073709551616 + lo) / y : Nat), .int .u64 ((hi * 18446744073709551616 + lo) % y : Nat)]) ∧ ∃ m, w' = w.drewN m := by
  rcases Nat.eq_zero_or_pos hi with h | h
  · subst h
    have := bDiv0 lo y hl (by omega) w
    simpa using this
  · exact bDiv1 hi lo y hl hy h hlt w

set_option maxHeartbeats 400000 in
/-- Rem64. -/
theorem bRem (hi lo y R : Nat) (hl : lo < 18446744073709551616) (hy : y < 18446744073709551616) (h0 : 0 < y) (hR : R = (hi * 18446744073709551616 + lo) % y) (w : World) :
    Calls Try.prog 42 #[.int .u64 (hi : Nat), .int .u64 (lo : Nat), .int .u64 (y : Nat)] w fun e w' => e = .returned (.int .u64 (R : Nat)) ∧ ∃ m, w' = w.drewN m := by
  obtain ⟨h1, hh1⟩ : ∃ h1, h1 = hi % y := ⟨_, rfl⟩
  have hD := fun W => bDiv h1 lo y hl hy (by rw [hh1]; exact Nat.mod_lt _ h0) W
  have e1 : (h1 * 18446744073709551616 + lo) % y = R := by
    rw [hR, hh1, Nat.add_mod, Nat.mod_mul_mod, ← Nat.add_mod]
  rw [e1] at hD
  have e2 : (hi : Int) % (y : Int) = (h1 : Int) := by rw [hh1]; simp
  have g0 : ¬ (y : Int) = 0 := by omega
  clear hh1 hR e1
  generalize (h1 * 18446744073709551616 + lo) / y = Q at *
  go_enter Try.func42, Try.ntmps42
  go_wp2_with fail
  refine (hD _).mono ?_
  rintro e w' ⟨rfl, m, rfl⟩
  go_wp2
  go_ret
  exact ⟨rfl, m, rfl⟩

end Go.Proofs.Ytcdeankllgpnfaa
