/- The plain side of layer 17 (package sconceref16): Strong. -/
import Derived.Test.YtgcbbadakfdcgaaPrm2
namespace Go.Proofs.Ytgcbbadakfdcgaa
open Go.RowKit

/-- M has just s noughts at its low end, as bits. -/
def IsTz (M s : Nat) : Prop := M / 2 ^ s % 2 = 1 ∧ ∀ j, j < s → M / 2 ^ j % 2 = 0

theorem IsTz.uniq {M s t : Nat} (h : IsTz M s) (g : IsTz M t) : s = t := by
  rcases Nat.lt_trichotomy s t with h1 | h1 | h1
  · have := g.2 s h1
    have := h.1
    omega
  · exact h1
  · have := h.2 t h1
    have := g.1
    omega

theorem tz_ex : ∀ (n M : Nat), 0 < M → M < 2 ^ n → ∃ s, IsTz M s ∧ s < n
  | 0, M, h, g => by simp at g; omega
  | n + 1, M, h, g => by
    by_cases h1 : M % 2 = 1
    · exact ⟨0, ⟨by simpa using h1, fun j hj => by omega⟩, by omega⟩
    · have hd : 0 < M / 2 := by omega
      obtain ⟨s, ⟨hs, hs2⟩, hn⟩ := tz_ex n (M / 2) hd (by rw [Nat.pow_succ] at g; omega)
      refine ⟨s + 1, ⟨?_, fun j hj => ?_⟩, by omega⟩
      · rw [Nat.pow_succ, Nat.mul_comm, ← Nat.div_div_eq_div_mul]
        exact hs
      · cases j with
        | zero => simp; omega
        | succ j =>
          rw [Nat.pow_succ, Nat.mul_comm, ← Nat.div_div_eq_div_mul]
          exact hs2 j (by omega)

/-- Whether N passes the strong test with the base A. -/
def strongP (N A : Nat) : Prop := ∃ s, IsTz (N - 1) s ∧ (A ^ ((N - 1) / 2 ^ s) % N = 1 ∨ ∃ i, i < s ∧ (A ^ ((N - 1) / 2 ^ s)) ^ 2 ^ i % N = N - 1)

/-- What Strong answers beside it. -/
def strE (N A : Nat) : Nat := if oddE N ≠ 0 then oddE N else if A < 2 ∨ N - 1 ≤ A then 1 else 0

theorem oddE_ok {X : Nat} (h : oddE X = 0) : 3 < X ∧ X % 2 = 1 ∧ ∃ n, n ≤ 130 ∧ X < 18446744073709551616 ^ n := by
  unfold oddE at h
  split at h
  · omega
  · rename_i h1
    split at h
    · omega
    · exact ⟨by omega, by omega, wordsN X, by omega, (wordsN_le X _).1 (Nat.le_refl _)⟩

theorem sq_pow (X B i : Nat) : (B ^ 2 ^ i % X) * (B ^ 2 ^ i % X) % X = B ^ 2 ^ (i + 1) % X := by
  rw [← Nat.mul_mod, ← Nat.pow_add]
  congr 2
  rw [Nat.pow_succ]
  omega

end Go.Proofs.Ytgcbbadakfdcgaa
