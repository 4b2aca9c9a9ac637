/- The plain side of layer 17 (package sconceref16): odd, Strong. -/
import Derived.Test.YtiljkgoafknefaaGreatPrm1
import Derived.Test.YtiljkgoafknefaaGreatBigM
namespace Go.Proofs.YtiljkgoafknefaaGreat
open Go.RowKit

/-- What odd answers. -/
def oddE (X : Nat) : Nat := if 130 < wordsN X then 2 else if X ≤ 3 ∨ X % 2 = 0 then 1 else 0

theorem wordsTrim {xs : List Nat} {k : Nat} (hd : Digs 18446744073709551616 xs) (hk : k ≤ xs.length) (hz : ∀ i, k ≤ i → xs.getD i 0 = 0) (ht : k = 0 ∨ xs.getD (k - 1) 0 ≠ 0) : wordsN (val 18446744073709551616 xs) = k := by
  have hl : (xs.take k).length = k := by rw [List.length_take]; omega
  have hT := trimmed_take hk ht
  have hv := take_trim (B := 18446744073709551616) hk hz
  have h1 := fun n => len_le_iff (B := 18446744073709551616) (by omega) (hd.take k) hT n
  rw [hl, hv] at h1
  have h2 := fun n => wordsN_le (val 18446744073709551616 xs) n
  have h3 := (h2 k).2 ((h1 k).1 (Nat.le_refl _))
  have h4 := (h1 _).2 ((h2 _).1 (Nat.le_refl _))
  omega

theorem bigLow {w : World} {v : Value} {X : Nat} (h : IsBig w v X) (hX : 0 < X) : ∃ b off n cap d, v = .slice (some ⟨b, off, none⟩) n cap ∧ 0 < n ∧ w.cell? ⟨b, off, none⟩ = some (.int .u32 ((d : Nat) : Int)) ∧ d % 2 = X % 2 ∧ d < 4294967296 := by
  obtain ⟨ds, hr, hd, _, rfl, _⟩ := h
  cases ds with
  | nil => simp [val] at hX
  | cons d ds =>
    obtain ⟨ao, n, cap, rfl, hL, _, _, _, h4⟩ := hr.open
    have hn : 0 < n := by rw [← hL.out]; simp
    obtain ⟨b, off, rfl, hc⟩ := h4 0 hn
    refine ⟨b, off, n, cap, d, rfl, hn, by simpa using hc, ?_, hd d (by simp)⟩
    simp only [val]
    omega

theorem cmpN_le {a b : Nat} (h : a ≤ b) : cmpN a b ≤ 0 := by
  unfold cmpN
  split
  · omega
  · rw [if_pos (by omega)]
    omega

end Go.Proofs.YtiljkgoafknefaaGreat
