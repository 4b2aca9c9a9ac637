/- A key's equations, as numbers. -/
import Derived.Test.YtiljkgoafknefaaGreatLaw19b
namespace Go.Proofs.YtiljkgoafknefaaGreat
open Go.RowKit

theorem com_dvd (P Q : Nat) : (P - 1) ∣ comN P Q ∧ (Q - 1) ∣ comN P Q := by
  unfold comN
  generalize P - 1 = a
  generalize Q - 1 = b
  refine ⟨?_, Nat.dvd_mul_left _ _⟩
  rcases Nat.eq_zero_or_pos (Nat.gcd a b) with h | h
  · rw [Nat.gcd_eq_zero_iff] at h
    rw [h.1, h.2]
    exact ⟨0, rfl⟩
  · obtain ⟨x, hx⟩ := Nat.gcd_dvd_left a b
    obtain ⟨y, hy⟩ := Nat.gcd_dvd_right a b
    generalize Nat.gcd a b = g at *
    subst hx
    subst hy
    rw [Nat.mul_div_cancel_left _ h]
    exact ⟨y, by rw [Nat.mul_left_comm, Nat.mul_assoc]⟩

theorem com_le (P Q : Nat) : comN P Q ≤ P * Q := by
  unfold comN
  exact Nat.mul_le_mul (Nat.le_trans (Nat.div_le_self _ _) (Nat.sub_le _ _)) (Nat.sub_le _ _)

theorem val_fit {X n : Nat} (h : wordsN X ≤ n) : val 18446744073709551616 (digs 18446744073709551616 X n) = X := by
  rw [val_digs, Nat.mod_eq_of_lt ((wordsN_le X n).1 h)]

theorem words_mono {X Y : Nat} (h : X ≤ Y) : wordsN X ≤ wordsN Y := (wordsN_le X _).2 (Nat.lt_of_le_of_lt h ((wordsN_le Y _).1 (Nat.le_refl _)))

/-- A key's numbers, and its equations. -/
structure KeyNums (P Q e d u : Nat) (l : KL) : Prop where
  vn : val 18446744073709551616 l.n = P * Q
  vd : val 18446744073709551616 l.d = d
  vp : val 18446744073709551616 l.p = P
  vq : val 18446744073709551616 l.q = Q
  vdp : val 18446744073709551616 l.dp = d % (P - 1)
  vdq : val 18446744073709551616 l.dq = d % (Q - 1)
  vqi : val 18446744073709551616 l.qi = u
  p3 : 3 ≤ P
  q3 : 3 ≤ Q
  ed : 1 ≤ d * e
  e1 : (d * e - 1) % (P - 1) = 0
  e2 : (d * e - 1) % (Q - 1) = 0
  u1 : u * Q % P = 1
  lp : dlen P ≤ 256
  lq : dlen Q ≤ 256
  ld : dlen d ≤ 512
  lu : dlen u ≤ 256
  lde : dlen (d * e) ≤ 514
  lde1 : dlen (d * e - 1) ≤ 514
  luq : dlen (u * Q) ≤ 512

theorem dlen19m {X Y n : Nat} (h : X ≤ Y) (hY : dlen Y ≤ n) : dlen X ≤ n := (dlen_le X n).2 (Nat.lt_of_le_of_lt h ((dlen_le Y n).1 hY))

theorem dlen19x {X Y n m : Nat} (hX : dlen X ≤ n) (hY : dlen Y ≤ m) : dlen (X * Y) ≤ n + m := (dlen_le _ _).2 (by
  rw [Nat.pow_add]
  exact Nat.mul_lt_mul'' ((dlen_le X n).1 hX) ((dlen_le Y m).1 hY))

theorem keyNums {L M P Q e d u : Nat} {l : KL} (he : e < 18446744073709551616) (hok : keyOk L M P Q e) (h : keyRows P Q e d u l.n l.d l.p l.q l.dp l.dq l.qi) : KeyNums P Q e d u l := by
  obtain ⟨h1, h2, h3, h4, a1, a2, a3, a4, a5, a6, a7⟩ := h
  obtain ⟨_, ⟨p3, _, pb⟩, ⟨q3, _, qb⟩, _, _, _⟩ := hok
  have hlp : dlen P ≤ 256 := dlen_of_bits (by omega)
  have hlq : dlen Q ≤ 256 := dlen_of_bits (by omega)
  have hpq := dlen19x hlp hlq
  have hdPQ : d ≤ P * Q := Nat.le_trans (Nat.le_of_lt h1) (com_le P Q)
  have hld : dlen d ≤ 512 := dlen19m hdPQ hpq
  have hle : dlen e ≤ 2 := (dlen_le e 2).2 he
  have hlde := dlen19x hld hle
  have hlen : (keyWords P Q).length = max (wordsN (P * Q)) 1 := digs_length _ _ _
  have hed : 1 ≤ d * e := by
    rcases Nat.eq_zero_or_pos (d * e) with h0 | h0
    · rw [Nat.mul_comm, h0, Nat.zero_mod] at h2
      omega
    · exact h0
  have hdv : ∀ m, m ∣ comN P Q → (d * e - 1) % m = 0 := fun m hm => by
    have h5 : comN P Q ∣ d * e - 1 := by
      rw [Nat.mul_comm e d] at h2
      exact ⟨d * e / comN P Q, by have := Nat.div_add_mod (d * e) (comN P Q); omega⟩
    exact Nat.mod_eq_zero_of_dvd (Nat.dvd_trans hm h5)
  have hu : u ≤ P := Nat.le_of_lt h3
  refine ⟨?_, ?_, ?_, ?_, ?_, ?_, ?_, p3, q3, hed, hdv _ (com_dvd P Q).1, hdv _ (com_dvd P Q).2, by rw [Nat.mul_comm]; exact h4, hlp, hlq, hld, dlen19m hu hlp, hlde, dlen19m (Nat.sub_le _ _) hlde, dlen19x (dlen19m hu hlp) hlq⟩
  · rw [a1]
    exact val_fit (by omega)
  · rw [a2, hlen]
    exact val_fit (Nat.le_trans (words_mono hdPQ) (by omega))
  · rw [a3]
    exact val_fit (by omega)
  · rw [a4]
    exact val_fit (by omega)
  · rw [a5]
    exact val_fit (Nat.le_trans (words_mono (Y := P) (by have := Nat.mod_lt d (show P - 1 > 0 by omega); omega)) (by omega))
  · rw [a6]
    exact val_fit (Nat.le_trans (words_mono (Y := Q) (by have := Nat.mod_lt d (show Q - 1 > 0 by omega); omega)) (by omega))
  · rw [a7]
    exact val_fit (Nat.le_trans (words_mono hu) (by omega))

/-- A key that Of answers is well formed. -/
theorem keyGood_of {L M P Q e d u : Nat} {l : KL} (he : e < 18446744073709551616) (hok : keyOk L M P Q e) (h : keyRows P Q e d u l.n l.d l.p l.q l.dp l.dq l.qi) : KeyGood l.n l.d l.p l.q l.dp l.dq l.qi e := by
  have hN := keyNums he hok h
  have hlen : ∀ X, blen X ≤ 8192 → wordsN X ≤ 128 := fun X hX => words_of_bits (by omega)
  have w1 := hlen P hok.2.1.2.2
  have w2 := hlen Q hok.2.2.1.2.2
  have l1 : l.p.length = max (wordsN P) (wordsN Q) := by rw [h.2.2.2.2.2.2.1]; exact digs_length _ _ _
  have l2 : l.q.length = max (wordsN P) (wordsN Q) := by rw [h.2.2.2.2.2.2.2.1]; exact digs_length _ _ _
  unfold KeyGood
  rw [hN.vp, hN.vq]
  exact ⟨⟨⟨by rw [l1]; omega, by rw [l2]; omega⟩, hok.2⟩, d, u, h⟩

end Go.Proofs.YtiljkgoafknefaaGreat
