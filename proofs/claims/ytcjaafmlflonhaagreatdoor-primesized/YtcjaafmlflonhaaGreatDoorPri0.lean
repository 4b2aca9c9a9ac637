/- A candidate's number: bits of words that are put together. -/
import Derived.Test.YtcjaafmlflonhaaGreatDoorKey3
namespace Go.Proofs.YtcjaafmlflonhaaGreatDoor
open Go.RowKit

theorem digs_ext {B V n : Nat} {l : List Nat} (hl : l.length = n) (h : ∀ i, i < n → l.getD i 0 = dig B V i) : l = digs B V n := by
  refine List.ext_getElem? fun i => ?_
  by_cases hi : i < n
  · have h1 := h i hi
    have h2 := digs_getD B V n i hi
    rw [List.getD_eq_getElem?_getD, List.getElem?_eq_getElem (by omega)] at h1
    rw [List.getD_eq_getElem?_getD, List.getElem?_eq_getElem (by rw [digs_length]; omega)] at h2
    rw [List.getElem?_eq_getElem (by omega), List.getElem?_eq_getElem (by rw [digs_length]; omega)]
    simp only [Option.getD_some] at h1 h2
    rw [h1, h2]
  · rw [List.getElem?_eq_none (by omega), List.getElem?_eq_none (by rw [digs_length]; omega)]

theorem digs_bit (Y j i : Nat) : (dig 18446744073709551616 Y j).testBit i = (decide (i < 64) && Y.testBit (64 * j + i)) := by
  unfold dig
  rw [show (18446744073709551616 : Nat) = 2 ^ 64 from rfl, ← Nat.pow_mul, Nat.testBit_mod_two_pow, Nat.testBit_div_two_pow, Nat.add_comm i]

theorem getD_set {l : List Nat} {j i d : Nat} (hj : j < l.length) : (l.set j d).getD i 0 = if i = j then d else l.getD i 0 := by
  rw [List.getD_eq_getElem?_getD, List.getElem?_set, List.getD_eq_getElem?_getD]
  by_cases h : j = i
  · subst h
    simp [hj]
  · rw [if_neg h, if_neg (fun e => h e.symm)]

/-- A bit is made 1. -/
theorem digs_or (Y p L : Nat) (hp : p / 64 < L) : (digs 18446744073709551616 Y L).set (p / 64) (dig 18446744073709551616 Y (p / 64) ||| 2 ^ (p % 64)) = digs 18446744073709551616 (Y ||| 2 ^ p) L := by
  refine digs_ext (by rw [List.length_set, digs_length]) fun i hi => ?_
  rw [getD_set (by rw [digs_length]; exact hp), digs_getD _ _ _ _ hi]
  have hb : ∀ t, t < 64 → ((2 ^ p).testBit (64 * i + t) = decide (i = p / 64 ∧ t = p % 64)) := fun t ht => by
    rw [Nat.testBit_two_pow]
    exact decide_eq_decide.2 ⟨fun h => by omega, fun h => by omega⟩
  refine Nat.eq_of_testBit_eq fun t => ?_
  rw [digs_bit, Nat.testBit_or]
  by_cases ht : t < 64
  · rw [hb t ht]
    split
    · next h =>
      subst h
      rw [Nat.testBit_or, digs_bit, Nat.testBit_two_pow]
      by_cases h2 : t = p % 64
      · subst h2
        have h4 : p % 64 < 64 := Nat.mod_lt _ (by omega)
        simp [h4]
      · have h3 : ¬ p % 64 = t := fun e => h2 e.symm
        simp [ht, h2, h3]
    · next h =>
      rw [digs_bit]
      simp [ht, h]
  · split
    · next h =>
      subst h
      rw [Nat.testBit_or, digs_bit, Nat.testBit_two_pow]
      simp [ht]
      omega
    · next h =>
      rw [digs_bit]
      simp [ht]

/-- The bits above n of the highest word are made 0. -/
theorem digs_top (X n L : Nat) (h1 : 64 * L < n + 64) (h2 : n ≤ 64 * L) (hL : 1 ≤ L) :
    (digs 18446744073709551616 X L).set (L - 1) (dig 18446744073709551616 X (L - 1) &&& 18446744073709551615 / 2 ^ (64 * L - n)) = digs 18446744073709551616 (X % 2 ^ n) L := by
  have hy : 18446744073709551615 / 2 ^ (64 * L - n) = 2 ^ (64 - (64 * L - n)) - 1 := by
    have hs : 64 * L - n < 64 := by omega
    generalize 64 * L - n = s at hs
    have e : (18446744073709551615 : Nat) = 2 ^ s * (2 ^ (64 - s) - 1) + (2 ^ s - 1) := by
      have e1 : 2 ^ s * 2 ^ (64 - s) = 18446744073709551616 := by
        rw [← Nat.pow_add, show s + (64 - s) = 64 by omega]
      have p1 : 0 < 2 ^ s := Nat.pow_pos (by omega)
      have p2 : 0 < 2 ^ (64 - s) := Nat.pow_pos (by omega)
      rw [Nat.mul_sub, e1, Nat.mul_one]
      have : 2 ^ s ≤ 2 ^ 64 := Nat.pow_le_pow_right (by omega) (by omega)
      have : (2 : Nat) ^ 64 = 18446744073709551616 := rfl
      omega
    have p1 : 0 < 2 ^ s := Nat.pow_pos (by omega)
    rw [e, Nat.mul_add_div p1, Nat.div_eq_of_lt (by omega), Nat.add_zero]
  rw [hy]
  refine digs_ext (by rw [List.length_set, digs_length]) fun i hi => ?_
  rw [getD_set (by rw [digs_length]; omega), digs_getD _ _ _ _ hi]
  refine Nat.eq_of_testBit_eq fun t => ?_
  rw [digs_bit, Nat.testBit_mod_two_pow]
  split
  · next h =>
    subst h
    rw [Nat.and_two_pow_sub_one_eq_mod, Nat.testBit_mod_two_pow, digs_bit]
    by_cases ht : t < 64
    · have e : decide (t < 64 - (64 * L - n)) = decide (64 * (L - 1) + t < n) := decide_eq_decide.2 ⟨fun h => by omega, fun h => by omega⟩
      rw [e]
      simp [ht]
    · simp [ht]
  · next h =>
    rw [digs_bit]
    by_cases ht : t < 64
    · have e : 64 * i + t < n := by omega
      simp [ht, e]
    · simp [ht]

theorem or_one (x : Nat) : x ||| 1 = x + (if x % 2 = 0 then 1 else 0) := by
  have e1 : x = 2 ^ 1 * (x / 2) ||| x % 2 := by
    rw [← Nat.two_pow_add_eq_or_of_lt (by omega)]
    omega
  have e2 : (x % 2) ||| 1 = 1 := by
    rcases Nat.mod_two_eq_zero_or_one x with h | h <;> rw [h] <;> rfl
  rw [show x ||| 1 = (2 ^ 1 * (x / 2) ||| x % 2) ||| 1 by rw [← e1], Nat.or_assoc, e2, ← Nat.two_pow_add_eq_or_of_lt (by omega)]
  split <;> omega

/-- A candidate, bit by bit. -/
theorem cand_bits (bs : List Nat) (n : Nat) (hn : 16 ≤ n) : bev bs % 2 ^ n ||| 2 ^ (n - 1) ||| 2 ^ (n - 2) ||| 1 = candN bs n := by
  unfold candN
  generalize bev bs = X
  obtain ⟨m, rfl⟩ : ∃ m, n = m + 2 := ⟨n - 2, by omega⟩
  rw [show m + 2 - 1 = m + 1 by omega, show m + 2 - 2 = m by omega]
  have hr : X % 2 ^ m < 2 ^ m := Nat.mod_lt _ (Nat.pow_pos (by omega))
  have e : X % 2 ^ (m + 2) ||| 2 ^ (m + 1) ||| 2 ^ m = 2 ^ m * 3 + X % 2 ^ m := by
    refine Nat.eq_of_testBit_eq fun j => ?_
    rw [Nat.testBit_two_pow_mul_add _ hr, Nat.testBit_or, Nat.testBit_or, Nat.testBit_mod_two_pow, Nat.testBit_two_pow, Nat.testBit_two_pow, Nat.testBit_mod_two_pow]
    by_cases h1 : j < m
    · have a1 : ¬ m + 1 = j := by omega
      have a2 : ¬ m = j := by omega
      have a3 : j < m + 2 := by omega
      simp [h1, a1, a2, a3]
    · rw [if_neg h1]
      by_cases h2 : j = m
      · subst h2
        simp
      · by_cases h3 : j = m + 1
        · subst h3
          rw [show m + 1 - m = 1 by omega]
          simp
          decide
        · have a1 : ¬ m + 1 = j := fun e => h3 e.symm
          have a2 : ¬ m = j := fun e => h2 e.symm
          have a3 : ¬ j < m + 2 := by omega
          have a4 : Nat.testBit 3 (j - m) = false := Nat.testBit_lt_two_pow (by
            have : 2 ^ 2 ≤ 2 ^ (j - m) := Nat.pow_le_pow_right (by omega) (by omega)
            omega)
          simp [a1, a2, a3, a4]
  rw [e, or_one]
  have h2 : 2 ^ m % 2 = 0 := by
    rw [show m = (m - 1) + 1 by omega, Nat.pow_succ]
    omega
  generalize X % 2 ^ m = r at *
  split
  · next h => rw [if_pos (by omega)]; omega
  · next h => rw [if_neg (by omega)]; omega

end Go.Proofs.YtcjaafmlflonhaaGreatDoor
