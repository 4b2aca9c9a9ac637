/- The plain side of layer 4 (package sconceref04): sums, differences, tests, choices of any numbers. -/
import Derived.Test.YtnjmckfkfkalgabBigSub
import Derived.Test.YtnjmckfkfkalgabBigShift
namespace Go.Proofs.Ytnjmckfkfkalgab
open Go.RowKit

/-- One, for a test. -/
def oneN (b : Bool) : Nat := if b = true then 1 else 0

theorem q1One (b : Bool) (w : World) : Calls Try.prog 14 #[.bool b] w fun e w' => e = .returned (.int .u64 (oneN b : Nat)) ∧ w' = w := by
  cases b
  · go_enter Try.func14, Try.ntmps14
    go_wp2
    go_ret
    exact ⟨rfl, rfl⟩
  · go_enter Try.func14, Try.ntmps14
    go_wp2
    go_ret
    exact ⟨rfl, rfl⟩

theorem dlen_pow (n : Nat) : dlen (2 ^ (64 * n)) ≤ 2 * n + 1 := by
  rw [dlen_le, show (4294967296 : Nat) ^ (2 * n + 1) = 2 ^ (32 * (2 * n + 1)) by rw [Nat.pow_mul]]
  exact Nat.pow_lt_pow_right (by omega) (by omega)

theorem dlen_val {xs : List Nat} (hd : Digs 18446744073709551616 xs) : dlen (val 18446744073709551616 xs) ≤ 2 * xs.length := by
  rw [dlen_le, show (4294967296 : Nat) ^ (2 * xs.length) = 18446744073709551616 ^ xs.length by rw [Nat.pow_mul]]
  exact val_lt (by omega) hd

end Go.Proofs.Ytnjmckfkfkalgab
