/- The words of bytes, the lowest ahead, as a range over a function hands them out (wordsOfBytes). -/
import Derived.Test.YtegjdjfnpphipaaNatF
namespace Go.Proofs.Ytegjdjfnpphipaa
open Go.RowKit Go.Shelf

attribute [local go_sem] Oper.semAt_some

/-- Word i of bytes. -/
theorem word_of_bytes {bs : List Nat} (hd : Digs 256 bs) (i : Nat) (h : 8 * i < bs.length) :
    bev ((bs.drop (bs.length - 8 * (i + 1))).take (bs.length - 8 * i - (bs.length - 8 * (i + 1)))) = dig 18446744073709551616 (bev bs) i := by
  obtain ⟨s, hs⟩ : ∃ s, s = bs.length - 8 * (i + 1) := ⟨_, rfl⟩
  obtain ⟨e, he⟩ : ∃ e, e = bs.length - 8 * i := ⟨_, rfl⟩
  rw [← hs, ← he]
  have hse : s < e := by omega
  have hel : e ≤ bs.length := by omega
  have hsplit : bs = (bs.take s ++ (bs.drop s).take (e - s)) ++ bs.drop e := by
    rw [List.append_assoc]
    have h2 : (bs.drop s).take (e - s) ++ bs.drop e = bs.drop s := by
      have := List.take_append_drop (e - s) (bs.drop s)
      rw [List.drop_drop, show s + (e - s) = e by omega] at this
      exact this
    rw [h2, List.take_append_drop]
  have hval : bev bs = (bev (bs.take s) * 256 ^ (e - s) + bev ((bs.drop s).take (e - s))) * 256 ^ (8 * i) + bev (bs.drop e) := by
    conv => lhs; rw [hsplit]
    rw [bev_append, bev_append, List.length_take, List.length_drop, List.length_drop, Nat.min_eq_left (by omega), show bs.length - e = 8 * i by omega]
  have h1 : bev (bs.drop e) < 256 ^ (8 * i) := by
    have := bev_lt (hd.drop e)
    rwa [List.length_drop, show bs.length - e = 8 * i by omega] at this
  have h2 : bev ((bs.drop s).take (e - s)) < 256 ^ (e - s) := by
    have := bev_lt ((hd.drop s).take (e - s))
    rwa [List.length_take, List.length_drop, Nat.min_eq_left (by omega)] at this
  have h3 : e - s = 8 ∨ s = 0 := by omega
  have hle : e - s ≤ 8 := by omega
  generalize bev ((bs.drop s).take (e - s)) = M at *
  have hp : (18446744073709551616 : Nat) ^ i = 256 ^ (8 * i) := by rw [Nat.pow_mul]
  unfold dig
  rw [hp, hval, Nat.mul_comm _ (256 ^ (8 * i)), Nat.mul_add_div (Nat.pow_pos (by omega)), Nat.div_eq_of_lt h1, Nat.add_zero]
  rcases h3 with h8 | h0
  · rw [h8] at h2 ⊢
    rw [show (256 : Nat) ^ 8 = 18446744073709551616 from rfl] at h2 ⊢
    omega
  · subst h0
    have h4 : M < 18446744073709551616 := Nat.lt_of_lt_of_le h2 (Nat.le_trans (Nat.pow_le_pow_right (by omega) hle) (Nat.le_refl (256 ^ 8)))
    rw [List.take_zero, show bev [] = 0 from rfl, Nat.zero_mul, Nat.zero_add, Nat.mod_eq_of_lt h4]

/-- A part of a slice. -/
theorem Row.part {k : IntKind} {w : World} {b off n cap s e : Nat} {zs : List Nat} (h : Row k w (.slice (some ⟨b, off, none⟩) n cap) zs) (h1 : s < e) (h2 : e ≤ n) : Row k w (.slice (some ⟨b, off + s, none⟩) (e - s) (cap - s)) ((zs.drop s).take (e - s)) := by
  obtain ⟨ao, cap', e', c1, c2, _, h4⟩ := h
  cases e'
  have hl : ((zs.drop s).take (e - s)).length = e - s := by rw [List.length_take, List.length_drop]; omega
  refine ⟨_, _, by rw [hl], by omega, by omega, (fun e => by cases e), fun i hi => ?_⟩
  rw [hl] at hi
  obtain ⟨b', off', e', hcell⟩ := h4 (s + i) (by omega)
  cases e'
  refine ⟨b, off + s, rfl, ?_⟩
  rw [Nat.add_assoc, hcell, List.getD_eq_getElem?_getD, List.getD_eq_getElem?_getD, List.getElem?_take, if_pos hi, List.getElem?_drop]

end Go.Proofs.Ytegjdjfnpphipaa
