/- Melted of: LimF LimG. -/
import Derived.Test.YtcjaafmlflonhaaDoorLim2

/- Package limbs: Select: what it answers and writes down, for any numbers. -/
namespace Go.Proofs.YtcjaafmlflonhaaDoor
open Go.RowKit

theorem dig_sel (B X Y bit k : Nat) : dig B (selN bit X Y) k = selN bit (dig B X k) (dig B Y k) := by
  unfold selN
  by_cases h : bit % 2 = 1
  · rw [if_pos h, if_pos h]
  · rw [if_neg h, if_neg h]

theorem sel_lt {bit x y : Nat} (hx : x < 18446744073709551616) (hy : y < 18446744073709551616) : selN bit x y < 18446744073709551616 := by
  unfold selN
  by_cases h : bit % 2 = 1
  · rw [if_pos h]; exact hx
  · rw [if_neg h]; exact hy

end Go.Proofs.YtcjaafmlflonhaaDoor

/- Package limbs: Left: what it answers and writes down, for any number. -/
namespace Go.Proofs.YtcjaafmlflonhaaDoor
open Go.RowKit

theorem shl_or (x c : Nat) (hc : c ≤ 1) : bits .or .u64 (((2 * x) % 18446744073709551616 : Nat) : Int) (c : Int) = (((2 * x) % 18446744073709551616 + c : Nat) : Int) := by
  rw [u64_or_nat _ _ (by omega) (by omega)]
  congr 1
  have h0 : c = 0 ∨ c = 1 := by omega
  rcases h0 with rfl | rfl
  · rw [Nat.or_zero, Nat.add_zero]
  · have e : (2 * x) % 18446744073709551616 = 2 ^ 1 * (x % 9223372036854775808) := by omega
    rw [e, ← Nat.two_pow_add_eq_or_of_lt (by omega : 1 < 2 ^ 1)]

theorem left_step {X k c z c' t : Nat} {os : List Nat} (hl : os.length = k) (h : val 18446744073709551616 os + 18446744073709551616 ^ k * c = 2 * (X % 18446744073709551616 ^ k) + t) (hz : z + 18446744073709551616 * c' = 2 * dig 18446744073709551616 X k + c) :
    val 18446744073709551616 (os ++ [z]) + 18446744073709551616 ^ (k + 1) * c' = 2 * (X % 18446744073709551616 ^ (k + 1)) + t := by
  rw [val_snoc, hl, mod_succ, Nat.pow_succ, Nat.mul_assoc]
  have e : 18446744073709551616 ^ k * (z + 18446744073709551616 * c') = 18446744073709551616 ^ k * (2 * dig 18446744073709551616 X k + c) := by rw [hz]
  rw [Nat.mul_add, Nat.mul_add, Nat.mul_left_comm (18446744073709551616 ^ k) 2] at e
  omega

theorem left_end {n X c t : Nat} {os : List Nat} (hl : os.length = n) (hd : Digs 18446744073709551616 os) (hX : X < 18446744073709551616 ^ n) (h : val 18446744073709551616 os + 18446744073709551616 ^ n * c = 2 * (X % 18446744073709551616 ^ n) + t) :
    os = digs 18446744073709551616 (2 * X + t) n ∧ c = (2 * X + t) / 18446744073709551616 ^ n := by
  have hv := val_lt (by omega) hd
  rw [hl] at hv
  rw [Nat.mod_eq_of_lt hX] at h
  have hp : 0 < 18446744073709551616 ^ n := Nat.pow_pos (by omega)
  rw [← h]
  refine ⟨digs_val (by omega) hd hl ?_, ?_⟩
  · rw [Nat.add_mul_mod_self_left, Nat.mod_eq_of_lt hv]
  · rw [Nat.add_mul_div_left _ _ hp, Nat.div_eq_of_lt hv, Nat.zero_add]

theorem digs_val_self {xs : List Nat} (hd : Digs 18446744073709551616 xs) : digs 18446744073709551616 (val 18446744073709551616 xs) xs.length = xs :=
  (digs_val (by omega) hd rfl (Nat.mod_eq_of_lt (val_lt (by omega) hd)).symm).symm

end Go.Proofs.YtcjaafmlflonhaaDoor
