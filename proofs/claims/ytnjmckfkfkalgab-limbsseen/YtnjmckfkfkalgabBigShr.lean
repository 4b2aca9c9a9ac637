/- The plain shift down. -/
import Derived.Test.YtnjmckfkfkalgabBigShift
namespace Go.Proofs.Ytnjmckfkfkalgab
open Go.RowKit

theorem shr_digit (V q s k : Nat) (hs : s < 32) : dig 4294967296 (V / (4294967296 ^ q * 2 ^ s)) k = (dig 4294967296 V (q + k) + 4294967296 * dig 4294967296 V (q + k + 1)) / 2 ^ s % 4294967296 := by
  unfold dig
  have e1 : V / (4294967296 ^ q * 2 ^ s) / 4294967296 ^ k = V / 4294967296 ^ (q + k) / 2 ^ s := by
    rw [Nat.div_div_eq_div_mul, Nat.div_div_eq_div_mul, Nat.pow_add]
    congr 1
    rw [Nat.mul_assoc, Nat.mul_assoc, Nat.mul_comm (2 ^ s)]
  have e2 : V / 4294967296 ^ (q + k + 1) = V / 4294967296 ^ (q + k) / 4294967296 := by rw [Nat.div_div_eq_div_mul, ← Nat.pow_succ]
  rw [e1, e2]
  generalize V / 4294967296 ^ (q + k) = z
  have hp : 0 < 2 ^ s := Nat.pow_pos (by omega)
  obtain ⟨c, hc⟩ : ∃ c, (4294967296 : Nat) = 2 ^ s * c := ⟨2 ^ (32 - s), by rw [← Nat.pow_add, show s + (32 - s) = 32 by omega]⟩
  have hz : z = (z % 4294967296 + 4294967296 * (z / 4294967296 % 4294967296)) + 2 ^ s * (4294967296 * (c * (z / 4294967296 / 4294967296))) := by
    have : 2 ^ s * (4294967296 * (c * (z / 4294967296 / 4294967296))) = 4294967296 * (4294967296 * (z / 4294967296 / 4294967296)) := by
      calc 2 ^ s * (4294967296 * (c * (z / 4294967296 / 4294967296))) = (2 ^ s * c) * (4294967296 * (z / 4294967296 / 4294967296)) := by
            rw [Nat.mul_left_comm 4294967296 c, ← Nat.mul_assoc]
        _ = 4294967296 * (4294967296 * (z / 4294967296 / 4294967296)) := by rw [← hc]
    omega
  conv => lhs; rw [hz]
  rw [Nat.add_mul_div_left _ _ hp, Nat.add_mul_mod_self_left]

theorem shr_lt {V q s m : Nat} (h : V < 4294967296 ^ m) (hq : q ≤ m) : V / (4294967296 ^ q * 2 ^ s) < 4294967296 ^ (m - q) := by
  have hp : 0 < 4294967296 ^ q * 2 ^ s := Nat.mul_pos (Nat.pow_pos (by omega)) (Nat.pow_pos (by omega))
  rw [Nat.div_lt_iff_lt_mul hp]
  have e : 4294967296 ^ m = 4294967296 ^ (m - q) * 4294967296 ^ q := by rw [← Nat.pow_add, Nat.sub_add_cancel hq]
  have h2 : 4294967296 ^ (m - q) * 4294967296 ^ q * 1 ≤ 4294967296 ^ (m - q) * 4294967296 ^ q * 2 ^ s := Nat.mul_le_mul_left _ (Nat.pow_pos (by omega))
  rw [← Nat.mul_assoc]
  omega

end Go.Proofs.Ytnjmckfkfkalgab
