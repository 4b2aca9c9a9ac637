/- The plain quotient and rest. -/
import Derived.Test.YtegjdjfnpphipaaBase2
import Derived.Deep.RegionHeld3
import Derived.Deep.DrawnRows
import Derived.Deep.RegionWith
namespace Go.Proofs.Ytegjdjfnpphipaa
open Go.RowKit

attribute [local go_sem ↓] Go.wp_at_zero Go.wp_at_succ

theorem bit_and1 (t r : Nat) (ht : t < 4294967296) : bits .and .u32 ((t : Int) / 2 ^ r) 1 = ((t / 2 ^ r % 2 : Nat) : Int) := by
  have e : (t : Int) / 2 ^ r = ((t / 2 ^ r : Nat) : Int) := by simp
  have hy := Nat.div_le_self t (2 ^ r)
  have h1 := u32_and_nat (t / 2 ^ r) 1 (by omega) (by omega)
  rw [nat_mask1] at h1
  rw [e, show (1 : Int) = ((1 : Nat) : Int) from rfl, h1]

theorem top_bit {t r : Nat} (h : t < 2 ^ (r + 1)) (hb : t / 2 ^ r % 2 = 0) : t < 2 ^ r := by
  have h1 : t / 2 ^ r < 2 := by rw [Nat.div_lt_iff_lt_mul (Nat.pow_pos (by omega))]; rw [Nat.pow_succ] at h; omega
  have h2 : t / 2 ^ r = 0 := by
    generalize t / 2 ^ r = q at *
    omega
  rcases Nat.lt_or_ge t (2 ^ r) with h3 | h3
  · exact h3
  · have := (Nat.div_pos_iff).2 ⟨Nat.pow_pos (n := r) (show 0 < 2 by omega), h3⟩
    omega

theorem top_bit1 {t r : Nat} (hb : t / 2 ^ r % 2 ≠ 0) : 2 ^ r ≤ t := by
  rcases Nat.lt_or_ge t (2 ^ r) with h3 | h3
  · rw [Nat.div_eq_of_lt h3] at hb
    exact absurd rfl hb
  · exact h3

end Go.Proofs.Ytegjdjfnpphipaa
