/- What is found in bytes, and where. (out of WPadFinds in round 23) -/
import Derived.Test.YtegjdjfnpphipaaBase1
namespace Go.Proofs.Ytegjdjfnpphipaa
open Go.RowKit

/-- What is found above a place: where, and whether. -/
def FndR (bs : List Nat) (c : Nat) (fr lo : Int) (a s : Nat) : Prop :=
  (s = 1 ∧ a < bs.length ∧ lo < (a : Int) ∧ fr ≤ (a : Int) ∧ bs.getD a 0 = c ∧ ∀ j : Nat, lo < (j : Int) → fr ≤ (j : Int) → j < a → bs.getD j 0 ≠ c) ∨
  (s = 0 ∧ a = bs.length ∧ ∀ j : Nat, lo < (j : Int) → fr ≤ (j : Int) → j < bs.length → bs.getD j 0 ≠ c)

theorem FndR.uniq {bs : List Nat} {c : Nat} {fr lo : Int} {a s a' s' : Nat} (h : FndR bs c fr lo a s) (h' : FndR bs c fr lo a' s') : a' = a ∧ s' = s := by
  rcases h with ⟨rfl, h1, h2, h3, h4, h5⟩ | ⟨rfl, rfl, h5⟩
  · rcases h' with ⟨rfl, g1, g2, g3, g4, g5⟩ | ⟨rfl, rfl, g5⟩
    · rcases Nat.lt_trichotomy a' a with h | h | h
      · exact absurd g4 (h5 a' g2 g3 h)
      · exact ⟨h, rfl⟩
      · exact absurd h4 (g5 a h2 h3 h)
    · exact absurd h4 (g5 a h2 h3 h1)
  · rcases h' with ⟨rfl, g1, g2, g3, g4, g5⟩ | ⟨rfl, rfl, g5⟩
    · exact absurd g4 (h5 a' g2 g3 g1)
    · exact ⟨rfl, rfl⟩

theorem FndR.start (bs : List Nat) (c : Nat) (fr : Int) : FndR bs c fr ((bs.length : Int) - 1) bs.length 0 := .inr ⟨rfl, rfl, fun j h1 _ h3 => by omega⟩

theorem fnd_hit {bs : List Nat} {c : Nat} {fr : Int} {i : Nat} (hi : i < bs.length) (hf : fr ≤ (i : Int)) (hc : bs.getD i 0 = c) : FndR bs c fr ((i : Int) - 1) i 1 :=
  .inl ⟨rfl, hi, by omega, hf, hc, fun j h1 _ h3 => by omega⟩

theorem FndR.miss {bs : List Nat} {c : Nat} {fr : Int} {i a s : Nat} (h : FndR bs c fr (i : Int) a s) (hc : bs.getD i 0 ≠ c) : FndR bs c fr ((i : Int) - 1) a s := by
  have key : ∀ j : Nat, (i : Int) - 1 < (j : Int) → j ≠ i → (i : Int) < (j : Int) := fun j h1 h2 => by omega
  rcases h with ⟨rfl, h1, h2, h3, h4, h5⟩ | ⟨rfl, rfl, h5⟩
  · refine .inl ⟨rfl, h1, by omega, h3, h4, fun j g1 g2 g3 => ?_⟩
    by_cases e : j = i
    · subst e; exact hc
    · exact h5 j (key j g1 e) g2 g3
  · refine .inr ⟨rfl, rfl, fun j g1 g2 g3 => ?_⟩
    by_cases e : j = i
    · subst e; exact hc
    · exact h5 j (key j g1 e) g2 g3

theorem FndR.done {bs : List Nat} {c : Nat} {fr lo : Int} {a s : Nat} (h : FndR bs c fr lo a s) (hl : lo < 0 ∨ lo < fr) (hl1 : -1 ≤ lo) : FndR bs c fr (-1) a s := by
  rcases h with ⟨rfl, h1, h2, h3, h4, h5⟩ | ⟨rfl, rfl, h5⟩
  · exact .inl ⟨rfl, h1, by omega, h3, h4, fun j g1 g2 g3 => h5 j (by omega) g2 g3⟩
  · exact .inr ⟨rfl, rfl, fun j g1 g2 g3 => h5 j (by omega) g2 g3⟩

end Go.Proofs.Ytegjdjfnpphipaa
