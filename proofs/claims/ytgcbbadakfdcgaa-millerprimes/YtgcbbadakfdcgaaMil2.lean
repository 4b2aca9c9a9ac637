/- Layer 17, of small numbers: how many bases the strong test says yes to, to its end. -/
import Derived.Test.YtgcbbadakfdcgaaMil1
namespace Go.Proofs.Ytgcbbadakfdcgaa
open Go.RowKit

set_option maxRecDepth 100000 in
theorem mil4 : (List.range 50).all (fun i => milOk (2 * (i + 200) + 5)) = true := by decide +kernel

set_option maxRecDepth 100000 in
theorem mil5 : (List.range 50).all (fun i => milOk (2 * (i + 250) + 5)) = true := by decide +kernel

theorem mil_all {n : Nat} (h5 : 5 ≤ n) (h6 : n ≤ 600) (hodd : n % 2 = 1) : milOk n = true := by
  obtain ⟨j, rfl⟩ : ∃ j, n = 2 * j + 5 := ⟨(n - 5) / 2, by omega⟩
  have hj : j < 300 := by omega
  have get : ∀ (k : Nat), (List.range 50).all (fun i => milOk (2 * (i + 50 * k) + 5)) = true → 50 * k ≤ j → j < 50 * k + 50 → milOk (2 * j + 5) = true := fun k h h1 h2 => by
    have := List.all_eq_true.1 h (j - 50 * k) (List.mem_range.2 (by omega))
    rwa [show j - 50 * k + 50 * k = j by omega] at this
  rcases (show j < 50 ∨ (50 ≤ j ∧ j < 100) ∨ (100 ≤ j ∧ j < 150) ∨ (150 ≤ j ∧ j < 200) ∨ (200 ≤ j ∧ j < 250) ∨ (250 ≤ j ∧ j < 300) by omega) with h | h | h | h | h | h
  · exact get 0 mil0 (by omega) (by omega)
  · exact get 1 mil1 (by omega) (by omega)
  · exact get 2 mil2 (by omega) (by omega)
  · exact get 3 mil3 (by omega) (by omega)
  · exact get 4 mil4 (by omega) (by omega)
  · exact get 5 mil5 (by omega) (by omega)

end Go.Proofs.Ytgcbbadakfdcgaa
