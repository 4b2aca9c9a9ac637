/- The plain side of layer 4: 0, choices, sums and differences if a bit is 1, one bit up and down. -/
import Derived.Test.YtnjmckfkfkalgabRef4B
import Derived.Test.YtnjmckfkfkalgabBigShr
namespace Go.Proofs.Ytnjmckfkfkalgab
open Go.RowKit

theorem big_len {w : World} {v : Value} {V : Nat} (h : IsBig w v V) : ∃ ao n cap, v = .slice ao n cap ∧ (n = 0 ↔ V = 0) := by
  obtain ⟨ds, hr, hd, ht, rfl, _⟩ := h
  obtain ⟨ao, n, cap, rfl, hL, _⟩ := hr.open
  refine ⟨ao, n, cap, rfl, ?_⟩
  have h1 := len_le_iff (B := 4294967296) (by omega) hd ht 0
  rw [Nat.pow_zero, hL.out] at h1
  omega

/-- Which of two a bit selects. -/
def selN (bit A B : Nat) : Nat := if bit % 2 = 1 then A else B

end Go.Proofs.Ytnjmckfkfkalgab
