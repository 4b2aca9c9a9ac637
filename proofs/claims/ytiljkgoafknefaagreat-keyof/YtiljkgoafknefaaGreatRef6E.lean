/- The plain side of layer 6: shift: 2^(64 n) modulo a modulus, and its inverse. -/
import Derived.Test.YtiljkgoafknefaaGreatRef6D
namespace Go.Proofs.YtiljkgoafknefaaGreat
open Go.RowKit

theorem coprime_two {V : Nat} (h : V % 2 = 1) (k : Nat) : Nat.gcd (2 ^ k % V) V = 1 := by
  rw [← Nat.gcd_rec, Nat.gcd_comm]
  have h2 : Nat.Coprime 2 V := by
    unfold Nat.Coprime
    rw [Nat.gcd_rec, h]
    rfl
  exact Nat.Coprime.pow_left k h2

theorem dlen_two (k n : Nat) (h : k < 32 * n) : dlen (2 ^ k) ≤ n := by
  rw [dlen_le, show (4294967296 : Nat) ^ n = 2 ^ (32 * n) by rw [Nat.pow_mul]]
  exact Nat.pow_lt_pow_right (by omega) h

theorem dlen_val6 {xs : List Nat} (hd : Digs 18446744073709551616 xs) : dlen (val 18446744073709551616 xs) ≤ 2 * xs.length := by
  rw [dlen_le, show (4294967296 : Nat) ^ (2 * xs.length) = 18446744073709551616 ^ xs.length by rw [Nat.pow_mul]]
  exact val_lt (by omega) hd

end Go.Proofs.YtiljkgoafknefaaGreat
