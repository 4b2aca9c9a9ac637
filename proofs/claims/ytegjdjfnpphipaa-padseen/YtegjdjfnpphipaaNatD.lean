/- Package nat: Compare: how any two numbers stand to one another. -/
import Derived.Test.YtegjdjfnpphipaaNatC
import Derived.Deep.RegionWith
namespace Go.Proofs.Ytegjdjfnpphipaa
open Go.RowKit Go.Shelf

attribute [local go_sem] Oper.semAt_some

theorem words_len {xs : List Nat} (hd : Digs 18446744073709551616 xs) : wordsN (val 18446744073709551616 xs) ≤ xs.length := (wordsN_le _ _).2 (val_lt (by omega) hd)

/-- The words that a number needs, and no more. -/
theorem need_list {xs : List Nat} (hd : Digs 18446744073709551616 xs) : ∃ ys, ys = xs.take (wordsN (val 18446744073709551616 xs)) ∧ ys.length = wordsN (val 18446744073709551616 xs) ∧ Digs 18446744073709551616 ys ∧ val 18446744073709551616 ys = val 18446744073709551616 xs ∧ (∀ j, j < wordsN (val 18446744073709551616 xs) → ys.getD j 0 = xs.getD j 0) := by
  have hl := words_len hd
  refine ⟨_, rfl, by rw [List.length_take]; omega, hd.take _, ?_, fun j hj => ?_⟩
  · refine take_trim hl (fun i hi => ?_)
    rw [← dig_val (by omega) hd i]
    unfold dig
    rw [Nat.div_eq_of_lt, Nat.zero_mod]
    exact (wordsN_le _ _).1 hi
  · rw [List.getD_eq_getElem?_getD, List.getD_eq_getElem?_getD, List.getElem?_take, if_pos hj]

theorem cmpInt (x y : Nat) : Lib.compareInt (x : Int) (y : Int) = cmpN x y := by
  unfold Lib.compareInt cmpN
  by_cases h : x < y
  · rw [if_pos h, if_pos (by omega)]
  · rw [if_neg h, if_neg (by omega)]
    by_cases h2 : x = y
    · rw [if_pos h2, if_neg (by omega)]
    · rw [if_neg h2, if_pos (by omega)]

theorem cmp_words {A B : Nat} (h : wordsN A ≠ wordsN B) : cmpN (wordsN A) (wordsN B) = cmpN A B := by
  rcases Nat.lt_or_gt_of_ne h with k | k
  · rw [cmpN_lt k, cmpN_lt]
    have h1 := (wordsN_le A _).1 (Nat.le_refl _)
    have h2 : ¬ wordsN B ≤ wordsN A := by omega
    have h3 := mt (wordsN_le B (wordsN A)).2 h2
    omega
  · rw [cmpN_gt k, cmpN_gt]
    have h1 := (wordsN_le B _).1 (Nat.le_refl _)
    have h2 : ¬ wordsN A ≤ wordsN B := by omega
    have h3 := mt (wordsN_le A (wordsN B)).2 h2
    omega

/-- The highest word in which two numbers of one length differ tells how they stand. -/
theorem cmp_at {a b : List Nat} {k : Nat} (ha : Digs 18446744073709551616 a) (hb : Digs 18446744073709551616 b) (hl : a.length = b.length) (hk : k < a.length) (he : ∀ j, k < j → j < a.length → a.getD j 0 = b.getD j 0) :
    a.getD k 0 ≠ b.getD k 0 → cmpN (a.getD k 0) (b.getD k 0) = cmpN (val 18446744073709551616 a) (val 18446744073709551616 b) := by
  intro hne
  have ea := val_take_drop 18446744073709551616 a (k + 1) (by omega)
  have eb := val_take_drop 18446744073709551616 b (k + 1) (by omega)
  have hdrop : a.drop (k + 1) = b.drop (k + 1) := by
    apply List.ext_getElem?
    intro i
    rw [List.getElem?_drop, List.getElem?_drop]
    by_cases hi : k + 1 + i < a.length
    · have := he (k + 1 + i) (by omega) hi
      rw [List.getD_eq_getElem?_getD, List.getD_eq_getElem?_getD, List.getElem?_eq_getElem hi, List.getElem?_eq_getElem (show k + 1 + i < b.length by omega)] at this
      rw [List.getElem?_eq_getElem hi, List.getElem?_eq_getElem (show k + 1 + i < b.length by omega)]
      exact congrArg some this
    · rw [List.getElem?_eq_none (by omega), List.getElem?_eq_none (by omega)]
  have ta : a.take (k + 1) = a.take k ++ [a.getD k 0] := by rw [List.take_add_one, List.getD_eq_getElem?_getD, List.getElem?_eq_getElem hk]; rfl
  have tb : b.take (k + 1) = b.take k ++ [b.getD k 0] := by rw [List.take_add_one, List.getD_eq_getElem?_getD, List.getElem?_eq_getElem (show k < b.length by omega)]; rfl
  rw [ta, val_snoc, List.length_take, Nat.min_eq_left (by omega)] at ea
  rw [tb, val_snoc, List.length_take, Nat.min_eq_left (by omega), ← hdrop] at eb
  have la : val 18446744073709551616 (a.take k) < 18446744073709551616 ^ k := by
    have := val_lt (by omega) (ha.take k)
    rwa [List.length_take, Nat.min_eq_left (by omega)] at this
  have lb : val 18446744073709551616 (b.take k) < 18446744073709551616 ^ k := by
    have := val_lt (by omega) (hb.take k)
    rwa [List.length_take, Nat.min_eq_left (by omega)] at this
  generalize a.getD k 0 = x at *
  generalize b.getD k 0 = y at *
  generalize 18446744073709551616 ^ (k + 1) * val 18446744073709551616 (a.drop (k + 1)) = H at *
  generalize val 18446744073709551616 (a.take k) = p at *
  generalize val 18446744073709551616 (b.take k) = q at *
  generalize 18446744073709551616 ^ k = M at *
  rcases Nat.lt_or_gt_of_ne hne with h | h
  · have : M * (x + 1) ≤ M * y := Nat.mul_le_mul_left _ h
    rw [Nat.mul_add, Nat.mul_one] at this
    rw [cmpN_lt h, cmpN_lt (by omega)]
  · have : M * (y + 1) ≤ M * x := Nat.mul_le_mul_left _ h
    rw [Nat.mul_add, Nat.mul_one] at this
    rw [cmpN_gt h, cmpN_gt (by omega)]

theorem cmpN_ne {x y : Nat} : cmpN x y = 0 ↔ x = y := by
  unfold cmpN
  by_cases h : x < y
  · rw [if_pos h]; constructor <;> intro h2 <;> omega
  · rw [if_neg h]
    by_cases h2 : x = y
    · simp [h2]
    · rw [if_neg h2]; constructor <;> intro h3 <;> omega

end Go.Proofs.Ytegjdjfnpphipaa
