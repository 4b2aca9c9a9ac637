/- Package product: Divide. -/
import Derived.Test.YtiljkgoafknefabGreatPro3
import Derived.Test.YtiljkgoafknefabGreatRef5A
namespace Go.Proofs.YtiljkgoafknefabGreat
open Go.RowKit

def divSeen (L M : Nat) : List Ev := if L ≤ 300 ∧ M ≤ 300 then divEvs L M else []

theorem div_long {X Y L M : Nat} (h : ¬ (L ≤ 300 ∧ M ≤ 300)) : divE Y L M = 2 ∧ divQ X Y L M = [] ∧ divR X Y L M = [] := by
  have e : divE Y L M = 2 := by unfold divE okLen; rw [if_neg (by simpa using h)]
  refine ⟨e, ?_, ?_⟩
  · unfold divQ; rw [e, if_neg (by omega)]
  · unfold divR; rw [e, if_neg (by omega)]

theorem div_zero {X Y L M : Nat} (h : L ≤ 300 ∧ M ≤ 300) (h0 : Y = 0) : divE Y L M = 1 ∧ divQ X Y L M = [] ∧ divR X Y L M = [] := by
  have e : divE Y L M = 1 := by unfold divE okLen; rw [if_pos (by simpa using h), if_pos h0]
  refine ⟨e, ?_, ?_⟩
  · unfold divQ; rw [e, if_neg (by omega)]
  · unfold divR; rw [e, if_neg (by omega)]

theorem div_good {X Y L M : Nat} (h : L ≤ 300 ∧ M ≤ 300) (h0 : Y ≠ 0) : divE Y L M = 0 ∧ divQ X Y L M = digs 18446744073709551616 (X / Y) L ∧ divR X Y L M = digs 18446744073709551616 (X % Y) M := by
  have e : divE Y L M = 0 := by unfold divE okLen; rw [if_pos (by simpa using h), if_neg h0]
  refine ⟨e, ?_, ?_⟩
  · unfold divQ; rw [if_pos e]
  · unfold divR; rw [if_pos e]

end Go.Proofs.YtiljkgoafknefabGreat
