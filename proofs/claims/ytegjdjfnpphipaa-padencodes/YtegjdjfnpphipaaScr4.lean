/- The plain side of layer 15: Below. -/
import Derived.Test.YtegjdjfnpphipaaScr3
namespace Go.Proofs.Ytegjdjfnpphipaa
open Go.RowKit

theorem belF_step {M t z f k : Nat} {bs : List Nat} (hf : bs.length < f) (hz : 0 < z) : (bs.length < z ∧ belF M t z f bs k = (0, 0, [])) ∨
    (¬ bs.length < z ∧ (0 < bev (bs.take z) % 2 ^ t ∧ bev (bs.take z) % 2 ^ t < M) ∧ belF M t z f bs k = (bev (bs.take z) % 2 ^ t, k, bs.drop z)) ∨
    (¬ bs.length < z ∧ ¬ (0 < bev (bs.take z) % 2 ^ t ∧ bev (bs.take z) % 2 ^ t < M) ∧ ∃ g, (bs.drop z).length < g ∧ belF M t z f bs k = belF M t z g (bs.drop z) (k + 1)) := by
  obtain ⟨g, rfl⟩ : ∃ g, f = g + 1 := ⟨f - 1, by omega⟩
  by_cases h1 : bs.length < z
  · exact .inl ⟨h1, by rw [belF, if_pos h1]⟩
  · by_cases h2 : 0 < bev (bs.take z) % 2 ^ t ∧ bev (bs.take z) % 2 ^ t < M
    · exact .inr (.inl ⟨h1, h2, by rw [belF, if_neg h1, if_pos h2]⟩)
    · exact .inr (.inr ⟨h1, h2, g, by rw [List.length_drop]; omega, by rw [belF, if_neg h1, if_neg h2]⟩)

end Go.Proofs.Ytegjdjfnpphipaa
