/- Package limbs: AddIf, and with it Add: what they answer and write down, for any numbers. -/
import Derived.Test.YtcdeankllgpnfabLim1
namespace Go.Proofs.Ytcdeankllgpnfab
open Go.RowKit

theorem addIf_end {n X Y bit c : Nat} {os : List Nat} (hl : os.length = n) (hd : Digs 18446744073709551616 os) (hX : X < 18446744073709551616 ^ n) (hY : Y < 18446744073709551616 ^ n) (h : val 18446744073709551616 os + 18446744073709551616 ^ n * c = X % 18446744073709551616 ^ n + (Y * (bit % 2)) % 18446744073709551616 ^ n) :
    os = digs 18446744073709551616 (selN bit (X + Y) X) n ∧ c = selN bit (oneN (decide (2 ^ (64 * n) ≤ X + Y))) 0 := by
  have hv := val_lt (by omega) hd
  rw [hl] at hv
  rw [← B64]
  have hsel : bit % 2 = 0 ∨ bit % 2 = 1 := by omega
  rw [Nat.mod_eq_of_lt hX] at h
  rcases hsel with hb | hb
  · rw [hb, Nat.mul_zero, Nat.zero_mod, Nat.add_zero] at h
    unfold selN
    rw [if_neg (by omega), if_neg (by omega)]
    have hc : c = 0 := by
      rcases Nat.eq_zero_or_pos c with h0 | h0
      · exact h0
      · have : 18446744073709551616 ^ n * 1 ≤ 18446744073709551616 ^ n * c := Nat.mul_le_mul_left _ h0
        omega
    subst hc
    refine ⟨digs_val (by omega) hd hl ?_, rfl⟩
    rw [Nat.mod_eq_of_lt hX]; omega
  · rw [hb, Nat.mul_one, Nat.mod_eq_of_lt hY] at h
    unfold selN oneN
    rw [if_pos hb, if_pos hb]
    refine ⟨digs_val (by omega) hd hl ?_, ?_⟩
    · rw [← h, Nat.add_mul_mod_self_left, Nat.mod_eq_of_lt hv]
    · have hc : c = 0 ∨ c = 1 ∨ 2 ≤ c := by omega
      rcases hc with rfl | rfl | hc
      · rw [if_neg]; simp; omega
      · rw [if_pos]; simp; omega
      · have : 18446744073709551616 ^ n * 2 ≤ 18446744073709551616 ^ n * c := Nat.mul_le_mul_left _ hc
        omega

theorem val_lt_le {xs : List Nat} {n : Nat} (hd : Digs 18446744073709551616 xs) (hl : xs.length ≤ n) : val 18446744073709551616 xs < 18446744073709551616 ^ n :=
  Nat.lt_of_lt_of_le (val_lt (by omega) hd) (Nat.pow_le_pow_right (by omega) hl)

/-- Place k of a number that was brought to a length. -/
theorem digs_at {k : IntKind} {w : World} {ao : Option Addr} {X n i : Nat} (h : NumAt k w ao (digs 18446744073709551616 X n) i) (hi : i < n) : ∃ b off, ao = some ⟨b, off, none⟩ ∧ w.cell? ⟨b, off + i, none⟩ = some (.int k (dig 18446744073709551616 X i : Nat)) := by
  obtain ⟨b, off, e, hc⟩ := h
  rw [digs_getD _ _ _ _ hi] at hc
  exact ⟨b, off, e, hc⟩

end Go.Proofs.Ytcdeankllgpnfab
