/- The plain product, bit by bit, for any words: a b + c + d as its upper and its lower word. -/
import Derived.Test.YtaddnmnnpnkahabRefs
namespace Go.Proofs.Ytaddnmnnpnkahab
open Go.RowKit

/-- A bit joined to an even word. -/
theorem or_bit (x y : Int) (x0 : 0 ≤ x) (x1 : x < 9223372036854775808) (y0 : 0 ≤ y) (y1 : y ≤ 1) : bits .or .u64 (x * 2) y = x * 2 + y := by
  obtain ⟨X, rfl⟩ := Int.eq_ofNat_of_zero_le x0
  obtain ⟨Y, rfl⟩ := Int.eq_ofNat_of_zero_le y0
  have h := u64_or_nat (X * 2) Y (by omega) (by omega)
  rw [nat_join 1 (X * 2) Y (by omega) (by omega)] at h
  have e1 : (X : Int) * 2 = ((X * 2 : Nat) : Int) := by omega
  rw [e1, h]; omega

/-- What one round of the product is made of. -/
theorem mul_round (a b H L : Int) (n : Nat) (a0 : 0 ≤ a) (a1 : a < 18446744073709551616) (b0 : 0 ≤ b) (b1 : b < 18446744073709551616) (H0 : 0 ≤ H) (L0 : 0 ≤ L) (L1 : L < 18446744073709551616)
    (h : H * 18446744073709551616 + L = a * (b / 2 ^ (n + 1))) :
    ∃ H' L' : Int, bits .or .u64 (IntKind.u64.wrap (H * 2)) (L / 9223372036854775808) = H' ∧ IntKind.u64.wrap (L * 2) = L' ∧ 0 ≤ H' ∧ 0 ≤ L' ∧ L' < 18446744073709551616 ∧
      ((b / 2 ^ n) % 2 = 0 → H' * 18446744073709551616 + L' = a * (b / 2 ^ n)) ∧
      ((b / 2 ^ n) % 2 = 1 → H' * 18446744073709551616 + L' + a = a * (b / 2 ^ n) ∧ H' + 1 < 18446744073709551616) ∧
      0 ≤ b / 2 ^ n ∧ b / 2 ^ n < 18446744073709551616 := by
  have hpow : (0 : Int) < 2 ^ n := Int.pow_pos (by decide)
  have hq : b / 2 ^ (n + 1) = b / 2 ^ n / 2 := by rw [Int.pow_succ, Int.ediv_ediv_of_nonneg (Int.le_of_lt hpow)]
  have q0 : 0 ≤ b / 2 ^ n := Int.ediv_nonneg b0 (Int.le_of_lt hpow)
  have q1 : b / 2 ^ n ≤ b := Int.ediv_le_self _ b0
  rw [hq] at h
  generalize b / 2 ^ n = q at *
  obtain ⟨r, t, hr, ht0, ht1, rfl⟩ : ∃ r t : Int, q / 2 = r ∧ 0 ≤ t ∧ t ≤ 1 ∧ q = 2 * r + t := ⟨q / 2, q % 2, rfl, by omega, by omega, by omega⟩
  rw [hr] at h
  have hp := Int.mul_le_mul (a := a) (c := 18446744073709551615) (b := r) (d := 9223372036854775807) (by omega) (by omega) (by omega) (by decide)
  have e1 : a * (2 * r + t) = 2 * (a * r) + a * t := by rw [Int.mul_add, ← Int.mul_assoc, Int.mul_comm a 2, Int.mul_assoc]
  rw [e1]
  generalize a * r = p at *
  have hw1 : IntKind.u64.wrap (H * 2) = H * 2 := by rw [IntKind.wrap_u64]; omega
  have hor := or_bit H (L / 9223372036854775808) H0 (by omega) (by omega) (by omega)
  refine ⟨H * 2 + L / 9223372036854775808, L * 2 % 18446744073709551616, by rw [hw1, hor], IntKind.wrap_u64 _, by omega, by omega, by omega, ?_, ?_, by omega, by omega⟩
  · intro h2
    have : t = 0 := by omega
    subst this; omega
  · intro h2
    have : t = 1 := by omega
    subst this; omega

end Go.Proofs.Ytaddnmnnpnkahab
