/- Melted of: Lay0 NatA. -/
import Derived.Test.YtegjdjfnpphipaaRows
import Derived.Test.YtegjdjfnpphipaaBase3
import Derived.Shelf.Strconv.Itoa0
import Derived.Lib.ItoaNum
import Derived.Laws.CopyOwn

/- Where bits.Len64 lies in this translation: the table of numbers, each row checked. -/
namespace Go.Proofs.Ytegjdjfnpphipaa
open Go.Shelf

end Go.Proofs.Ytegjdjfnpphipaa

/- Package nat: needed, lengthError, Bits, Word, Bit, Resize: what they answer, for any number. -/
namespace Go.Proofs.Ytegjdjfnpphipaa
open Go.RowKit

theorem len_words {ds : List Nat} (hd : Digs 18446744073709551616 ds) (ht : Trimmed ds) : ds.length = wordsN (val 18446744073709551616 ds) := by
  have h1 := (len_le_iff (by omega) hd ht (wordsN (val 18446744073709551616 ds))).2 ((wordsN_le _ _).1 (Nat.le_refl _))
  have h2 := (wordsN_le (val 18446744073709551616 ds) ds.length).2 ((len_le_iff (by omega) hd ht _).1 (Nat.le_refl _))
  omega

theorem bitLen_blen (x : Nat) (h : x < 18446744073709551616) : Lib.bitLen x = blen x := by
  by_cases h0 : x = 0
  · subst h0; rfl
  · obtain ⟨a, b, c⟩ := Lib.bitLenAux_bounds 64 x h h0
    unfold Lib.bitLen
    have h1 := (blen_le x _).2 c
    have h2 : ¬ blen x ≤ Lib.bitLenAux 64 x - 1 := fun k => by have := (blen_le x _).1 k; omega
    omega

theorem blen_top {ys : List Nat} (hd : Digs 18446744073709551616 ys) (ht : Trimmed ys) (hn : 0 < ys.length) : blen (val 18446744073709551616 ys) = 64 * (ys.length - 1) + blen (ys.getD (ys.length - 1) 0) := by
  have e := val_take_drop 18446744073709551616 ys (ys.length - 1) (by omega)
  have hdrop : ys.drop (ys.length - 1) = [ys.getD (ys.length - 1) 0] := by
    rw [List.drop_eq_getElem_cons (by omega), List.drop_eq_nil_of_le (by omega), List.getD_eq_getElem?_getD, List.getElem?_eq_getElem (by omega)]
    rfl
  rw [hdrop] at e
  have hlow : val 18446744073709551616 (ys.take (ys.length - 1)) < 18446744073709551616 ^ (ys.length - 1) := by
    have := val_lt (by omega) (hd.take (ys.length - 1))
    rwa [List.length_take, Nat.min_eq_left (by omega)] at this
  have htop : ys.getD (ys.length - 1) 0 ≠ 0 := by
    rcases ht with h | h
    · omega
    · exact h
  simp only [val, Nat.mul_zero, Nat.add_zero] at e
  generalize ys.getD (ys.length - 1) 0 = y at *
  generalize ys.length - 1 = k at *
  generalize val 18446744073709551616 (ys.take k) = L at *
  generalize val 18446744073709551616 ys = V at *
  have hB : (18446744073709551616 : Nat) ^ k = 2 ^ (64 * k) := by rw [Nat.pow_mul]
  rw [hB] at e hlow
  generalize hM : blen y = M
  have h1 : y < 2 ^ M := (blen_le _ _).1 (by omega)
  have h2 : 2 ^ (M - 1) ≤ y := by
    have : ¬ blen y ≤ M - 1 := by
      have : 0 < blen y := by
        rcases Nat.eq_zero_or_pos (blen y) with z | z
        · have := (blen_le y 0).1 (by omega); omega
        · exact z
      omega
    have := mt (blen_le y (M - 1)).2 this
    omega
  have hM1 : 1 ≤ M := by
    rcases Nat.eq_zero_or_pos M with z | z
    · rw [z] at h1; omega
    · exact z
  have u1 : V < 2 ^ (64 * k + M) := by
    rw [Nat.pow_add]
    have : 2 ^ (64 * k) * (y + 1) ≤ 2 ^ (64 * k) * 2 ^ M := Nat.mul_le_mul_left _ h1
    rw [Nat.mul_add, Nat.mul_one] at this
    omega
  have u2 : 2 ^ (64 * k + (M - 1)) ≤ V := by
    rw [Nat.pow_add]
    have : 2 ^ (64 * k) * 2 ^ (M - 1) ≤ 2 ^ (64 * k) * y := Nat.mul_le_mul_left _ h2
    omega
  have h3 := (blen_le V _).2 u1
  have h4 : ¬ blen V ≤ 64 * k + (M - 1) := fun c => by have := (blen_le V _).1 c; omega
  omega

theorem word_digs (x m : Nat) (hx : x < 18446744073709551616) : digs 18446744073709551616 x (m + 1) = x :: List.replicate m 0 := by
  refine (digs_val (by omega) (B := 18446744073709551616) (l := x :: List.replicate m 0) (V := x) (n := m + 1) ?_ (by simp) ?_).symm
  · intro d hd
    rcases List.mem_cons.1 hd with rfl | hd
    · exact hx
    · rw [List.mem_replicate] at hd; omega
  · have hz : val 18446744073709551616 (List.replicate m 0) = 0 := val_zeros _ (fun d hd => (List.mem_replicate.1 hd).2)
    rw [Nat.mod_eq_of_lt (Nat.lt_of_lt_of_le hx (by rw [Nat.pow_succ]; exact Nat.le_mul_of_pos_left _ (Nat.pow_pos (by omega))))]
    simp only [val, hz]
    omega

end Go.Proofs.Ytegjdjfnpphipaa
