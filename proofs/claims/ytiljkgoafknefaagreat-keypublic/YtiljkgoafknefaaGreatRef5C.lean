/- The plain side of layer 5: the rest of a number by a word. -/
import Derived.Test.YtiljkgoafknefaaGreatBase1
namespace Go.Proofs.YtiljkgoafknefaaGreat
open Go.RowKit

/-- One bit more of a rest. -/
theorem rest_step (X k D : Nat) : X / 2 ^ k % D = (2 * (X / 2 ^ (k + 1) % D) + X / 2 ^ k % 2) % D := by
  have e : X / 2 ^ k = 2 * (X / 2 ^ (k + 1)) + X / 2 ^ k % 2 := by
    rw [Nat.pow_succ, ← Nat.div_div_eq_div_mul]; omega
  rw [show X / 2 ^ k % D = (2 * (X / 2 ^ (k + 1)) + X / 2 ^ k % 2) % D by rw [← e]]
  generalize X / 2 ^ (k + 1) = Y
  generalize X / 2 ^ k % 2 = b
  have h := Nat.mod_add_div Y D
  have h2 : 2 * Y + b = (2 * (Y % D) + b) + D * (2 * (Y / D)) := by
    rw [Nat.mul_left_comm D 2]; omega
  rw [h2, Nat.add_mul_mod_self_left]

theorem shl_or5 (x c : Nat) (hc : c ≤ 1) : bits .or .u64 (IntKind.u64.wrap ((x : Int) * 2)) (c : Int) = (((2 * x) % 18446744073709551616 + c : Nat) : Int) := by
  rw [IntKind.wrap_u64, show ((x : Int) * 2) % 18446744073709551616 = (((2 * x) % 18446744073709551616 : Nat) : Int) by omega, u64_or_nat _ _ (by omega) (by omega)]
  congr 1
  have h0 : c = 0 ∨ c = 1 := by omega
  rcases h0 with rfl | rfl
  · rw [Nat.or_zero, Nat.add_zero]
  · have e : (2 * x) % 18446744073709551616 = 2 ^ 1 * (x % 9223372036854775808) := by omega
    rw [e, ← Nat.two_pow_add_eq_or_of_lt (by omega : 1 < 2 ^ 1)]

end Go.Proofs.YtiljkgoafknefaaGreat
