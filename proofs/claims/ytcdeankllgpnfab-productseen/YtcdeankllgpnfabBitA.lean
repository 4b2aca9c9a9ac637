/- Division bit by bit: plain mathematics. -/
import Derived.Test.YtcdeankllgpnfabPrH
import Derived.Test.YtcdeankllgpnfabBase1
namespace Go.Proofs.Ytcdeankllgpnfab
open Go.RowKit

/-- One bit of a quotient. -/
theorem bring_ok {R M n bit : Nat} (hM : 0 < M) (hR : R < M) (hn : M < 18446744073709551616 ^ n) (hb : bit ≤ 1) : takenN (2 * R + bit) M n = (2 * R + bit) / M ∧ leftN (2 * R + bit) M n = (2 * R + bit) % M := by
  have hV : 2 * R + bit < M * 2 := by omega
  generalize 2 * R + bit = V at *
  have hd : V / M = if M ≤ V then 1 else 0 := by
    split
    · rename_i h
      have h1 : V / M < 2 := (Nat.div_lt_iff_lt_mul hM).2 (by omega)
      have h2 : 0 < V / M := Nat.div_pos h hM
      exact Nat.le_antisymm (Nat.le_of_lt_succ h1) h2
    · exact Nat.div_eq_of_lt (by omega)
  have hm : V % M = if M ≤ V then V - M else V := by
    split
    · rename_i h
      rw [Nat.mod_eq_sub_mod h, Nat.mod_eq_of_lt (by omega)]
    · exact Nat.mod_eq_of_lt (by omega)
  have ht : takenN V M n = if M ≤ V then 1 else 0 := by
    unfold takenN
    generalize 18446744073709551616 ^ n = P at *
    by_cases h : P ≤ V
    · rw [if_pos (.inl h), if_pos (by omega)]
    · rw [Nat.mod_eq_of_lt (by omega : V < P)]
      by_cases h2 : M ≤ V
      · rw [if_pos (.inr h2), if_pos h2]
      · rw [if_neg (by omega), if_neg h2]
  refine ⟨by rw [ht, hd], ?_⟩
  unfold leftN
  rw [ht, hm]
  unfold selN subN
  rw [← B64]
  generalize 18446744073709551616 ^ n = P at *
  by_cases h2 : M ≤ V
  · rw [if_pos h2, if_pos h2, if_pos (by decide)]
    by_cases h : P ≤ V
    · have e : V % P = V - P := by rw [Nat.mod_eq_sub_mod h, Nat.mod_eq_of_lt (by omega)]
      rw [e, if_pos (by omega)]
      omega
    · rw [Nat.mod_eq_of_lt (by omega : V < P), if_neg (by omega)]
  · rw [if_neg h2, if_neg h2, if_neg (by decide), Nat.mod_eq_of_lt (by omega)]

theorem val_setB {B : Nat} : ∀ {zs : List Nat} {i : Nat} (z : Nat), i < zs.length → val B (zs.set i z) + B ^ i * zs.getD i 0 = val B zs + B ^ i * z
  | [], _, _, h => absurd h (by simp)
  | x :: r, 0, z, _ => by simp [val]; omega
  | x :: r, i + 1, z, h => by
    have ih := val_setB (B := B) (zs := r) (i := i) z (by simpa using h)
    simp only [List.set_cons_succ, val, List.getD_cons_succ]
    have e : B * (val B (r.set i z) + B ^ i * r.getD i 0) = B * (val B r + B ^ i * z) := by rw [ih]
    rw [Nat.mul_add, Nat.mul_add, ← Nat.mul_assoc, ← Nat.mul_assoc, ← Nat.pow_succ'] at e
    simp only [Nat.succ_eq_add_one] at e
    omega

theorem digs_setB {B : Nat} {zs : List Nat} (h : Digs B zs) {i z : Nat} (hz : z < B) : Digs B (zs.set i z) := fun d hd => by
  rcases List.mem_or_eq_of_mem_set hd with h1 | h1
  · exact h d h1
  · omega

/-- The quotient with one bit more. -/
theorem quot_bit {qs : List Nat} {X M p T : Nat} (hM : 0 < M) (hd : Digs 18446744073709551616 qs) (hi : p / 64 < qs.length) (hv : val 18446744073709551616 qs = X / 2 ^ (p + 1) / M * 2 ^ (p + 1)) (hT : T = (2 * (X / 2 ^ (p + 1) % M) + X / 2 ^ p % 2) / M) (hT1 : T ≤ 1) :
    val 18446744073709551616 (qs.set (p / 64) (qs.getD (p / 64) 0 ||| T * 2 ^ (p % 64))) = X / 2 ^ p / M * 2 ^ p := by
  have hq : qs.getD (p / 64) 0 = 2 ^ (p % 64 + 1) * (X / 2 ^ (p + 1) / M % 2 ^ (63 - p % 64)) := by
    rw [← dig_val (by omega) hd, hv, dig, B64, Nat.mul_div_assoc _ (Nat.pow_dvd_pow 2 (by omega)), Nat.pow_div (by omega) (by omega), show p + 1 - 64 * (p / 64) = p % 64 + 1 by omega, Nat.mul_comm, show (18446744073709551616 : Nat) = 2 ^ (p % 64 + 1) * 2 ^ (63 - p % 64) by rw [← Nat.pow_add, show p % 64 + 1 + (63 - p % 64) = 64 by omega], Nat.mul_mod_mul_left]
  have hor : qs.getD (p / 64) 0 ||| T * 2 ^ (p % 64) = qs.getD (p / 64) 0 + T * 2 ^ (p % 64) := by
    rw [hq]
    have hlt : T * 2 ^ (p % 64) < 2 ^ (p % 64 + 1) := by
      rw [Nat.pow_succ]
      have : T * 2 ^ (p % 64) ≤ 1 * 2 ^ (p % 64) := Nat.mul_le_mul_right _ hT1
      have : 0 < 2 ^ (p % 64) := Nat.pow_pos (by omega)
      omega
    exact (Nat.two_pow_add_eq_or_of_lt hlt _).symm
  have hs := val_setB (B := 18446744073709551616) (zs := qs) (i := p / 64) (qs.getD (p / 64) 0 ||| T * 2 ^ (p % 64)) hi
  rw [hor] at hs ⊢
  rw [Nat.mul_add] at hs
  have e1 : 18446744073709551616 ^ (p / 64) * (T * 2 ^ (p % 64)) = T * 2 ^ p := by
    rw [B64, Nat.mul_left_comm, ← Nat.pow_add, show 64 * (p / 64) + p % 64 = p by omega]
  rw [e1, hv] at hs
  have e2 : X / 2 ^ p = 2 * (X / 2 ^ (p + 1)) + X / 2 ^ p % 2 := by
    rw [Nat.pow_succ, ← Nat.div_div_eq_div_mul]; omega
  have e3 : X / 2 ^ p / M = 2 * (X / 2 ^ (p + 1) / M) + T := by
    rw [e2, hT]
    have h1 := Nat.div_add_mod (X / 2 ^ (p + 1)) M
    generalize X / 2 ^ (p + 1) = Z at *
    generalize X / 2 ^ p % 2 = b at *
    have h2 : 2 * Z + b = M * (2 * (Z / M)) + (2 * (Z % M) + b) := by
      have : M * (2 * (Z / M)) = 2 * (M * (Z / M)) := Nat.mul_left_comm ..
      omega
    rw [h2, Nat.mul_add_div hM]
  have e4 : X / 2 ^ p / M * 2 ^ p = X / 2 ^ (p + 1) / M * 2 ^ (p + 1) + T * 2 ^ p := by
    rw [e3]
    generalize X / 2 ^ (p + 1) / M = Z
    rw [Nat.add_mul, Nat.pow_succ, Nat.mul_comm 2 Z, Nat.mul_assoc, Nat.mul_comm 2 (2 ^ p)]
  rw [e4]
  omega

theorem rest_bit {X M p : Nat} : (2 * (X / 2 ^ (p + 1) % M) + X / 2 ^ p % 2) % M = X / 2 ^ p % M := by
  have e2 : X / 2 ^ p = 2 * (X / 2 ^ (p + 1)) + X / 2 ^ p % 2 := by
    rw [Nat.pow_succ, ← Nat.div_div_eq_div_mul]; omega
  generalize hb : X / 2 ^ p % 2 = b at *
  rw [e2, Nat.add_mod, Nat.mul_mod, Nat.mod_mod, ← Nat.mul_mod, ← Nat.add_mod]

end Go.Proofs.Ytcdeankllgpnfab
