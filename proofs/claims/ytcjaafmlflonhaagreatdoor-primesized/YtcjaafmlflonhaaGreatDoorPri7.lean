/- What is drawn, as numbers. -/
import Derived.Test.YtcjaafmlflonhaaGreatDoorKey7
namespace Go.Proofs.YtcjaafmlflonhaaGreatDoor
open Go.RowKit

/-- What a draw comes to: a good candidate, or nothing and an error. -/
theorem DrawR.tells {n e r : Nat} : ∀ {f : Nat} {bs : List Nat} {k : Nat} {P : List Nat} {K E : Nat} {R : List Nat}, DrawR n e r f bs k (P, K, E, R) →
    (E ≠ 0 ∧ P = [] ∧ K = 0) ∨ (E = 0 ∧ k ≤ K ∧ ∃ ds, P = candL ds n ∧ goodN (candN (ds.take ((n + 7) / 8)) n) e)
  | 0, bs, k, P, K, E, R, h => by
    have h' : (P, K, E, R) = ([], 0, 180, bs) := h
    simp only [Prod.mk.injEq] at h'
    obtain ⟨rfl, rfl, rfl, rfl⟩ := h'
    exact .inl ⟨by omega, rfl, rfl⟩
  | f + 1, bs, k, P, K, E, R, h => by
    rcases h with ⟨_, h2⟩ | ⟨_, _, h3⟩ | ⟨_, h2, is, ls, E', rest, _, h4⟩
    · simp only [Prod.mk.injEq] at h2
      obtain ⟨rfl, rfl, rfl, rfl⟩ := h2
      exact .inl ⟨by omega, rfl, rfl⟩
    · rcases DrawR.tells h3 with g | ⟨g1, g2, g3⟩
      · exact .inl g
      · exact .inr ⟨g1, by omega, g3⟩
    · rcases h4 with ⟨hE, h5⟩ | ⟨hE, _, h5⟩ | ⟨_, _, h5⟩
      · simp only [Prod.mk.injEq] at h5
        obtain ⟨rfl, rfl, rfl, rfl⟩ := h5
        exact .inl ⟨hE, rfl, rfl⟩
      · simp only [Prod.mk.injEq] at h5
        obtain ⟨rfl, rfl, rfl, rfl⟩ := h5
        exact .inr ⟨rfl, Nat.le_refl _, bs, rfl, h2⟩
      · rcases DrawR.tells h5 with g | ⟨g1, g2, g3⟩
        · exact .inl g
        · exact .inr ⟨g1, by omega, g3⟩

theorem candL_val (ds : List Nat) {n : Nat} (hn : 16 ≤ n) : val 18446744073709551616 (candL ds n) = candN (ds.take ((n + 7) / 8)) n := by
  unfold candL
  rw [val_digs]
  refine Nat.mod_eq_of_lt (Nat.lt_of_lt_of_le (candN_lt hn) ?_)
  rw [show (18446744073709551616 : Nat) = 2 ^ 64 from rfl, ← Nat.pow_mul]
  exact Nat.pow_le_pow_right (by omega) (by omega)

theorem candN_form (bs : List Nat) {n : Nat} (hn : 16 ≤ n) : ∃ m s, n = m + 2 ∧ candN bs n = 3 * 2 ^ m + s ∧ s < 2 ^ m ∧ s % 2 = 1 ∧ 2 ^ m % 2 = 0 := by
  obtain ⟨m, rfl⟩ : ∃ m, n = m + 2 := ⟨n - 2, by omega⟩
  have hr : bev bs % 2 ^ m < 2 ^ m := Nat.mod_lt _ (Nat.pow_pos (by omega))
  have h2 : 2 ^ m % 2 = 0 := by
    rw [show m = (m - 1) + 1 by omega, Nat.pow_succ]
    omega
  refine ⟨m, bev bs % 2 ^ m + (if bev bs % 2 ^ m % 2 = 0 then 1 else 0), rfl, ?_, ?_, ?_, h2⟩
  · unfold candN
    rw [show m + 2 - 2 = m by omega]
    omega
  · split <;> omega
  · split <;> omega

theorem candN_blen (bs : List Nat) {n : Nat} (hn : 16 ≤ n) : blen (candN bs n) = n := by
  obtain ⟨m, s, rfl, h1, h2, _, _⟩ := candN_form bs hn
  have e1 : 2 ^ (m + 1) = 2 * 2 ^ m := by rw [Nat.pow_succ]; omega
  have e2 : 2 ^ (m + 1 + 1) = 4 * 2 ^ m := by rw [Nat.pow_succ, e1]; omega
  refine blen_one (k := m + 1) (by rw [e2, h1]; omega) ?_
  have : candN bs (m + 2) / 2 ^ (m + 1) = 1 := by
    rw [e1, h1]
    exact Nat.div_eq_of_lt_le (by omega) (by omega)
  rw [this]
  decide

theorem candN_top (bs : List Nat) {n : Nat} (hn : 16 ≤ n) : bitN (candN bs n) ((n : Int) - 2) = 1 := by
  obtain ⟨m, s, rfl, h1, h2, _, _⟩ := candN_form bs hn
  unfold bitN
  rw [if_neg (by omega), show (((m + 2 : Nat) : Int) - 2).toNat = m by omega, h1]
  have : (3 * 2 ^ m + s) / 2 ^ m = 3 := Nat.div_eq_of_lt_le (by omega) (by omega)
  rw [this]

theorem candN_odd (bs : List Nat) {n : Nat} (hn : 16 ≤ n) : bitN (candN bs n) 0 = 1 := by
  obtain ⟨m, s, rfl, h1, _, h3, h4⟩ := candN_form bs hn
  unfold bitN
  rw [if_neg (by omega)]
  show candN bs (m + 2) / 2 ^ 0 % 2 = 1
  rw [Nat.pow_zero, Nat.div_one, h1]
  omega

end Go.Proofs.YtcjaafmlflonhaaGreatDoor
