/- Package product: takeMultiple. -/
import Derived.Test.YtcdeankllgpnfabQuD
namespace Go.Proofs.Ytcdeankllgpnfab
open Go.RowKit

/-- The three highest digits of a number, the two highest of another. -/
theorem top_digits {B : Nat} (hB : 0 < B) {us : List Nat} (hd : Digs B us) {n : Nat} (hl : us.length = n + 3) :
    val B us = ((us.getD (n + 2) 0 * B + us.getD (n + 1) 0) * B + us.getD n 0) * B ^ n + val B (us.take n) ∧ val B (us.take n) < B ^ n := by
  have h0 := val_take_drop B us n (by omega)
  have hlt := val_lt hB (hd.take n)
  rw [List.length_take, Nat.min_eq_left (by omega)] at hlt
  refine ⟨?_, hlt⟩
  rw [drop_consB (by omega), drop_consB (by omega), drop_consB (by omega), List.drop_of_length_le (by omega)] at h0
  simp only [val, Nat.mul_zero, Nat.add_zero] at h0
  rw [h0, Nat.add_comm]
  congr 1
  rw [Nat.mul_comm (B ^ n)]
  congr 1
  rw [Nat.mul_add, Nat.add_mul, Nat.mul_comm B (us.getD (n + 1) 0), Nat.mul_comm B (us.getD (n + 2) 0), Nat.mul_comm B (us.getD (n + 2) 0 * B)]
  omega

theorem top2_digits {B : Nat} (hB : 0 < B) {vs : List Nat} (hd : Digs B vs) {n : Nat} (hl : vs.length = n + 2) :
    val B vs = (vs.getD (n + 1) 0 * B + vs.getD n 0) * B ^ n + val B (vs.take n) ∧ val B (vs.take n) < B ^ n := by
  have h0 := val_take_drop B vs n (by omega)
  have hlt := val_lt hB (hd.take n)
  rw [List.length_take, Nat.min_eq_left (by omega)] at hlt
  refine ⟨?_, hlt⟩
  rw [drop_consB (by omega), drop_consB (by omega), List.drop_of_length_le (by omega)] at h0
  simp only [val, Nat.mul_zero, Nat.add_zero] at h0
  rw [h0, Nat.add_comm]
  congr 1
  rw [Nat.mul_comm (B ^ n)]
  congr 1
  rw [Nat.mul_comm B (vs.getD (n + 1) 0)]
  omega

theorem low_two {B v0 vl n : Nat} (h : v0 < B) (hl : vl < B ^ n) : v0 * B ^ n + vl < B ^ (n + 1) := by
  have h1 : (v0 + 1) * B ^ n ≤ B * B ^ n := Nat.mul_le_mul_right _ h
  rw [Nat.add_mul, Nat.one_mul] at h1
  rw [Nat.pow_succ, Nat.mul_comm (B ^ n)]
  omega

theorem up_one (B a b n ul : Nat) : (a * B + b) * B ^ n + ul = a * B ^ (n + 1) + (b * B ^ n + ul) := by
  rw [Nat.add_mul, Nat.mul_assoc a, Nat.pow_succ, Nat.mul_comm (B ^ n) B, Nat.add_assoc]

/-- The guess is right, or one too great. -/
theorem guess_ok {us vs : List Nat} {n q : Nat} (hud : Digs 18446744073709551616 us) (hvd : Digs 18446744073709551616 vs) (hul : us.length = n + 3) (hvl : vs.length = n + 2) (hn : 9223372036854775808 ≤ vs.getD (n + 1) 0) (hlt : val 18446744073709551616 us < val 18446744073709551616 vs * 18446744073709551616)
    (hq : q < 18446744073709551616) (h : (vs.getD (n + 1) 0 ≤ us.getD (n + 2) 0 ∧ q = 18446744073709551615) ∨ (us.getD (n + 2) 0 < vs.getD (n + 1) 0 ∧ q = ((us.getD (n + 2) 0 * 18446744073709551616 + us.getD (n + 1) 0) * 18446744073709551616 + us.getD n 0) / (vs.getD (n + 1) 0 * 18446744073709551616 + vs.getD n 0))) :
    val 18446744073709551616 us / val 18446744073709551616 vs ≤ q ∧ q ≤ val 18446744073709551616 us / val 18446744073709551616 vs + 1 := by
  have hn2 : 18446744073709551616 ≤ 2 * vs.getD (n + 1) 0 := by omega
  have hn3 : 18446744073709551616 ≤ vs.getD (n + 1) 0 * 18446744073709551616 + vs.getD n 0 := by omega
  obtain ⟨e1, l1⟩ := top_digits (by omega) hud hul
  obtain ⟨e2, l2⟩ := top2_digits (by omega) hvd hvl
  have b0 := hud.getD (by omega) n
  have b1 := hud.getD (by omega) (n + 1)
  have b2 := hvd.getD (by omega) n
  generalize val 18446744073709551616 us = U at *
  generalize val 18446744073709551616 vs = V at *
  generalize val 18446744073709551616 (us.take n) = ul at *
  generalize val 18446744073709551616 (vs.take n) = vl at *
  generalize us.getD (n + 2) 0 = u2 at *
  generalize us.getD (n + 1) 0 = u1 at *
  generalize us.getD n 0 = u0 at *
  generalize vs.getD (n + 1) 0 = v1 at *
  generalize vs.getD n 0 = v0 at *
  rcases h with ⟨h1, rfl⟩ | ⟨h1, h2⟩
  · have hU : U = (u2 * 18446744073709551616 + u1) * (18446744073709551616 ^ (n + 1)) + (u0 * 18446744073709551616 ^ n + ul) := by
      rw [e1]; exact up_one _ _ _ _ _
    have hV : V = v1 * 18446744073709551616 ^ (n + 1) + (v0 * 18446744073709551616 ^ n + vl) := by
      rw [e2]; exact up_one _ _ _ _ _
    have hvl' : v0 * 18446744073709551616 ^ n + vl < 18446744073709551616 ^ (n + 1) := low_two b2 l2
    have h3 : v1 * 18446744073709551616 ≤ u2 * 18446744073709551616 + u1 := by
      exact Nat.le_trans (Nat.mul_le_mul_right _ h1) (Nat.le_add_right _ _)
    exact knuth_full hU hV hvl' hlt hn2 (by decide) h3
  · have hQ : ((u2 * 18446744073709551616 + u1) * 18446744073709551616 + u0) / (v1 * 18446744073709551616 + v0) ≤ 18446744073709551616 := by rw [← h2]; exact Nat.le_of_lt hq
    have := knuth_top (B := 18446744073709551616) e1 l1 e2 l2 hn3 (by decide) hQ
    rw [← h2] at this
    exact this

end Go.Proofs.Ytcdeankllgpnfab
