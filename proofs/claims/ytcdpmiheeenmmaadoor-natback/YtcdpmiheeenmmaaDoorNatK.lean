/- Package nat: Bytes: any number as so many bytes, or refused. -/
import Derived.Test.YtcdpmiheeenmmaaDoorNatJ
namespace Go.Proofs.YtcdpmiheeenmmaaDoor
open Go.RowKit Go.Shelf

/-- A word's eight bytes, the highest ahead. -/
def bytes8 (x : Nat) : List Nat := (List.range 8).map fun j => dig 256 x (7 - j)

theorem put_cells (x : Nat) : putCells (x : Int) 8 = ((bytes8 x).map fun z => Value.int .u8 (z : Nat)).toArray := by
  rw [pc8]
  simp [bytes8, dig, List.range_succ]

/-- What lies in n bytes when i words have been laid. -/
def laidB (V n i : Nat) : List Nat := (List.range n).map fun j => if n - 8 * i ≤ j then dig 256 V (n - 1 - j) else 0

theorem laidB_length (V n i : Nat) : (laidB V n i).length = n := by simp [laidB]

theorem laidB_zero (V n : Nat) : laidB V n 0 = List.replicate n 0 := by
  apply List.ext_getElem
  · simp [laidB]
  · intro j h1 h2
    simp only [laidB, List.length_map, List.length_range] at h1
    simp only [laidB, List.getElem_map, List.getElem_range, List.getElem_replicate]
    rw [if_neg (by omega)]

theorem bes_get (V n : Nat) : ∀ i j, j < i → (bes V n i)[j]? = some (dig 256 V (n - 1 - j))
  | 0, j, h => by omega
  | i + 1, j, h => by
    unfold bes
    by_cases e : j < i
    · rw [List.getElem?_append_left (by rw [bes_length]; exact e)]; exact bes_get V n i j e
    · obtain rfl : j = i := by omega
      rw [List.getElem?_append_right (by rw [bes_length]; omega), bes_length, Nat.sub_self]; rfl

theorem dig256_above {V L k : Nat} (h : wordsN V ≤ L) (hk : 8 * L ≤ k) : dig 256 V k = 0 := by
  unfold dig
  rw [Nat.div_eq_of_lt, Nat.zero_mod]
  have h1 := (wordsN_le V L).1 h
  rw [show (18446744073709551616 : Nat) ^ L = 256 ^ (8 * L) by rw [Nat.pow_mul]] at h1
  exact Nat.lt_of_lt_of_le h1 (Nat.pow_le_pow_right (by omega) hk)

theorem laidB_all {V n L : Nat} (h : wordsN V ≤ L) : laidB V n L = bes V n n := by
  apply List.ext_getElem?
  intro j
  by_cases hj : j < n
  · rw [bes_get V n n j hj]
    simp only [laidB, List.getElem?_map, List.getElem?_range hj, Option.map_some]
    by_cases e : n - 8 * L ≤ j
    · rw [if_pos e]
    · rw [if_neg e, dig256_above h (by omega)]
  · rw [List.getElem?_eq_none (by rw [laidB_length]; omega), List.getElem?_eq_none (by rw [bes_length]; omega)]

/-- Byte s of word i. -/
theorem dig_byte (V i s : Nat) (h : s < 8) : dig 256 (dig 18446744073709551616 V i) s = dig 256 V (8 * i + s) := by
  unfold dig
  have e1 : (18446744073709551616 : Nat) ^ i = 256 ^ (8 * i) := by rw [Nat.pow_mul]
  rw [e1, show (18446744073709551616 : Nat) = 256 ^ s * 256 ^ (8 - s) by rw [← Nat.pow_add, show s + (8 - s) = 8 by omega], Nat.mod_mul_right_div_self, Nat.div_div_eq_div_mul, ← Nat.pow_add, Nat.mod_mod_of_dvd]
  exact ⟨256 ^ (7 - s), by rw [show 8 - s = (7 - s) + 1 by omega, Nat.pow_succ, Nat.mul_comm]⟩

theorem splice_get {α : Type} (L : List α) (off : Nat) (cs : List α) (h : off + cs.length ≤ L.length) (j : Nat) : (splice L off cs)[j]? = if j < off then L[j]? else if j < off + cs.length then cs[j - off]? else L[j]? := by
  unfold splice
  by_cases h1 : j < off
  · rw [if_pos h1, List.getElem?_append_left (by rw [List.length_take]; omega), List.getElem?_take, if_pos h1]
  · rw [if_neg h1, List.getElem?_append_right (by rw [List.length_take]; omega), List.length_take, Nat.min_eq_left (by omega)]
    by_cases h2 : j < off + cs.length
    · rw [if_pos h2, List.getElem?_append_left (by omega)]
    · rw [if_neg h2, List.getElem?_append_right (by omega), List.getElem?_drop]
      congr 1
      omega

theorem laidB_step {V n i : Nat} (hr : 0 < n - 8 * i) : splice (laidB V n i) (n - 8 * i - min (n - 8 * i) 8) ((bytes8 (dig 18446744073709551616 V i)).drop (8 - min (n - 8 * i) 8)) = laidB V n (i + 1) := by
  have hl : ((bytes8 (dig 18446744073709551616 V i)).drop (8 - min (n - 8 * i) 8)).length = min (n - 8 * i) 8 := by simp [bytes8]; omega
  apply List.ext_getElem?
  intro j
  rw [splice_get _ _ _ (by rw [hl, laidB_length]; omega), hl]
  by_cases hj : j < n
  · have g : ∀ i, (laidB V n i)[j]? = some (if n - 8 * i ≤ j then dig 256 V (n - 1 - j) else 0) := fun i => by
      simp only [laidB, List.getElem?_map, List.getElem?_range hj, Option.map_some]
    by_cases h1 : j < n - 8 * i - min (n - 8 * i) 8
    · rw [if_pos h1, g, g, if_neg (by omega), if_neg (by omega)]
    · rw [if_neg h1]
      by_cases h2 : j < n - 8 * i - min (n - 8 * i) 8 + min (n - 8 * i) 8
      · rw [if_pos h2, g, if_pos (by omega), List.getElem?_drop, bytes8, List.getElem?_map, List.getElem?_range (by omega), Option.map_some, dig_byte _ _ _ (by omega)]
        congr 2
        omega
      · rw [if_neg h2, g, g, if_pos (by omega), if_pos (by omega)]
  · rw [if_neg (by omega), if_neg (by omega), List.getElem?_eq_none (by rw [laidB_length]; omega), List.getElem?_eq_none (by rw [laidB_length]; omega)]

theorem splice_map {α β : Type} (f : α → β) (L : List α) (off : Nat) (cs : List α) : splice (L.map f) off (cs.map f) = (splice L off cs).map f := by
  simp [splice]

end Go.Proofs.YtcdpmiheeenmmaaDoor
