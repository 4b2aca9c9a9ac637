/- Package nat: Of: any bytes as a number of a length, or refused. -/
import Derived.Test.YtegjdjfnpphipaaNatG
namespace Go.Proofs.Ytegjdjfnpphipaa
open Go.RowKit Go.Shelf

attribute [local go_sem] Oper.semAt_some

theorem bev_drop {bs : List Nat} {k : Nat} (hk : k ≤ bs.length) (hz : ∀ i, i < k → bs.getD i 0 = 0) : bev (bs.drop k) = bev bs := by
  have h : bev (bs.take k) = 0 := by
    have hall : ∀ d ∈ bs.take k, d = 0 := by
      intro d hd
      obtain ⟨i, hi, rfl⟩ := List.mem_iff_getElem.1 hd
      have hik : i < k := by rw [List.length_take] at hi; omega
      have := hz i hik
      rw [List.getD_eq_getElem?_getD, List.getElem?_eq_getElem (by omega)] at this
      simpa using this
    have : ∀ l : List Nat, (∀ d ∈ l, d = 0) → bev l = 0 := by
      intro l
      induction l with
      | nil => intro _; rfl
      | cons x m ih =>
        intro h
        have e := bev_append [x] m
        rw [List.singleton_append] at e
        rw [e, ih (fun d hd => h d (by simp [hd])), show bev [x] = x by simp [bev], h x (by simp), Nat.zero_mul]
    exact this _ hall
  have e := bev_append (bs.take k) (bs.drop k)
  rw [List.take_append_drop, h, Nat.zero_mul, Nat.zero_add] at e
  exact e.symm

/-- Bytes with none that is 0 ahead: how many words they need. -/
theorem words_bytes {bs : List Nat} (hd : Digs 256 bs) (hne : bs.length = 0 ∨ bs.getD 0 0 ≠ 0) (m : Nat) : wordsN (bev bs) ≤ m ↔ bs.length ≤ 8 * m := by
  rw [wordsN_le]
  have hp : (18446744073709551616 : Nat) ^ m = 256 ^ (8 * m) := by rw [Nat.pow_mul]
  rw [hp]
  constructor
  · intro h
    rcases hne with h0 | h0
    · omega
    · cases bs with
      | nil => simp
      | cons x t =>
        have hx : x ≠ 0 := by simpa using h0
        have e := bev_append [x] t
        rw [List.singleton_append, show bev [x] = x by simp [bev]] at e
        have h1 : 1 * 256 ^ t.length ≤ x * 256 ^ t.length := Nat.mul_le_mul_right _ (by omega)
        have h2 : (256 : Nat) ^ t.length < 256 ^ (8 * m) := by omega
        have := (Nat.pow_lt_pow_iff_right (by omega : 1 < 256)).1 h2
        simp only [List.length_cons]
        omega
  · intro h
    exact Nat.lt_of_lt_of_le (bev_lt hd) (Nat.pow_le_pow_right (by omega) h)

/-- Which words have been put: those that came. -/
def Put (g : Nat → Nat) (L n : Nat) (pre : List (Fin L)) (zs : List Nat) : Prop := zs.length = n ∧ ∀ j, zs.getD j 0 = if j ∈ pre.map Fin.val then g j else 0

theorem Put.step {g : Nat → Nat} {L n : Nat} {pre : List (Fin L)} {zs : List Nat} (h : Put g L n pre zs) (x : Fin L) (hx : x.val < n) : Put g L n (pre ++ [x]) (zs.set x.val (g x.val)) := by
  refine ⟨by rw [List.length_set]; exact h.1, fun j => ?_⟩
  rw [List.getD_eq_getElem?_getD, List.getElem?_set, List.map_append]
  by_cases e : x.val = j
  · subst e
    simp [h.1, hx]
  · rw [if_neg e, ← List.getD_eq_getElem?_getD, h.2 j]
    have : ¬ j = x.val := fun h => e h.symm
    simp [this]

theorem Put.all {g : Nat → Nat} {L n V : Nat} {pre : List (Fin L)} {zs : List Nat} (h : Put g L n pre zs) (hp : pre.map Fin.val = List.range L) (hg : ∀ j, dig 18446744073709551616 V j = g j) (hV : wordsN V ≤ L) : zs = digs 18446744073709551616 V n := by
  apply List.ext_getElem
  · rw [h.1, digs_length]
  · intro i h1 h2
    have e := h.2 i
    rw [hp, List.getD_eq_getElem?_getD, List.getElem?_eq_getElem h1, Option.getD_some] at e
    have e2 := digs_getD 18446744073709551616 V n i (by rw [← h.1]; exact h1)
    rw [List.getD_eq_getElem?_getD, List.getElem?_eq_getElem h2, Option.getD_some] at e2
    rw [e, e2]
    by_cases hi : i < L
    · rw [if_pos (by simpa using hi), hg]
    · rw [if_neg (by simpa using hi)]
      unfold dig
      rw [Nat.div_eq_of_lt ((wordsN_le V i).1 (by omega)), Nat.zero_mod]

end Go.Proofs.Ytegjdjfnpphipaa
