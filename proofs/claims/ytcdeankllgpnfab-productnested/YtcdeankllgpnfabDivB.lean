/- Long division word by word: plain mathematics. -/
import Derived.Test.YtcdeankllgpnfabQuF
import Derived.Test.YtcdeankllgpnfabBase4
namespace Go.Proofs.Ytcdeankllgpnfab
open Go.RowKit

/-- One digit of the quotient. -/
theorem div_roundB {B : Nat} (hB : 0 < B) {zs orig qs : List Nat} {V n j N : Nat} (hd : Digs B zs) (hl : zs.length = N) (hlo : orig.length = N) (hj : j + (n + 1) ≤ N) (hV : V < B ^ n) (hVp : 0 < V) (hR : val B (zs.drop (j + 1)) < V) (htake : zs.take (j + 1) = orig.take (j + 1))
    (hinv : V * val B qs + val B (zs.drop (j + 1)) = val B (orig.drop (j + 1))) (U : Nat) (hU : U = val B ((zs.drop j).take (n + 1))) :
    U < V * B ∧
    ∀ zs', zs' = zs.take j ++ (digs B (U % V) (n + 1) ++ zs.drop (j + (n + 1))) →
      zs'.length = N ∧ Digs B zs' ∧ zs'.take j = orig.take j ∧ val B (zs'.drop j) < V ∧ V * val B (U / V :: qs) + val B (zs'.drop j) = val B (orig.drop j) := by
  have e1 := val_take_drop B (zs.drop (j + 1)) n (by rw [List.length_drop]; omega)
  rw [List.drop_drop] at e1
  have hz : val B (zs.drop (j + 1 + n)) = 0 := by
    rcases Nat.eq_zero_or_pos (val B (zs.drop (j + 1 + n))) with h | h
    · exact h
    · have : B ^ n * 1 ≤ B ^ n * val B (zs.drop (j + 1 + n)) := Nat.mul_le_mul_left _ h
      omega
  have e2 := val_take_drop B (zs.drop j) (n + 1) (by rw [List.length_drop]; omega)
  rw [List.drop_drop, show j + (n + 1) = j + 1 + n by omega, hz, Nat.mul_zero, Nat.add_zero, ← hU] at e2
  have e3 := drop_consB (B := B) (zs := zs) (j := j) (by omega)
  have hzj : zs.getD j 0 = orig.getD j 0 := by
    have h1 : (zs.take (j + 1)).getD j 0 = (orig.take (j + 1)).getD j 0 := by rw [htake]
    rw [List.getD_eq_getElem?_getD, List.getD_eq_getElem?_getD, List.getElem?_take, List.getElem?_take, if_pos (by omega), if_pos (by omega)] at h1
    rw [List.getD_eq_getElem?_getD, List.getD_eq_getElem?_getD]
    exact h1
  have hd0 := hd.getD hB j
  have hU2 : U = zs.getD j 0 + B * val B (zs.drop (j + 1)) := e2.symm.trans e3
  have hUV : U < V * B := by
    rw [hU2]
    have : B * (val B (zs.drop (j + 1)) + 1) ≤ B * V := Nat.mul_le_mul_left _ hR
    rw [Nat.mul_add, Nat.mul_one] at this
    rw [Nat.mul_comm V]
    omega
  refine ⟨hUV, fun zs' hzs => ?_⟩
  have hlj : (zs.take j).length = j := by rw [List.length_take]; omega
  have hdrop : zs'.drop j = digs B (U % V) (n + 1) ++ zs.drop (j + (n + 1)) := by rw [hzs, List.drop_left' hlj]
  have hmod := Nat.mod_lt U hVp
  have hval : val B (zs'.drop j) = U % V := by
    rw [hdrop, val_append, val_digs, show j + (n + 1) = j + 1 + n by omega, hz, Nat.mul_zero, Nat.add_zero]
    apply Nat.mod_eq_of_lt
    have h1 : B ^ n ≤ B ^ (n + 1) := Nat.pow_le_pow_right hB (by omega)
    omega
  refine ⟨by rw [hzs]; simp [digs_length]; omega, by rw [hzs]; exact (hd.take j).append ((digs_digs hB _ _).append (hd.drop _)), ?_, by omega, ?_⟩
  · rw [hzs, List.take_left' hlj]
    have h1 : (zs.take (j + 1)).take j = (orig.take (j + 1)).take j := by rw [htake]
    rwa [List.take_take, List.take_take, Nat.min_eq_left (by omega)] at h1
  · rw [hval, drop_consB (zs := orig) (j := j) (by omega), ← hzj, ← hinv]
    simp only [val]
    have h1 := Nat.div_add_mod U V
    rw [Nat.mul_add, Nat.mul_left_comm V B, Nat.mul_add]
    generalize U / V = q at *
    generalize U % V = r at *
    generalize V * val B qs = y at *
    omega

/-- A divisor that is shifted till its top bit is set. -/
theorem norm_top {Y K t s : Nat} (hY : Y < 18446744073709551616 ^ (K + 1)) (ht : t = Y / 18446744073709551616 ^ K) (ht0 : 0 < t) (hs : s = 64 - blen t) :
    s ≤ 63 ∧ Y * 2 ^ s < 18446744073709551616 ^ (K + 1) ∧ 9223372036854775808 ≤ dig 18446744073709551616 (Y * 2 ^ s) K ∧ 9223372036854775808 * 18446744073709551616 ^ K ≤ Y * 2 ^ s := by
  have hp : 0 < 18446744073709551616 ^ K := Nat.pow_pos (by omega)
  have htb : t < 18446744073709551616 := by
    rw [ht, Nat.div_lt_iff_lt_mul hp, ← Nat.pow_succ']
    exact hY
  obtain ⟨f1, f2, f3⟩ := lz_facts ht0 htb
  rw [← hs] at f1 f2 f3
  have hps : 0 < 2 ^ s := Nat.pow_pos (by omega)
  have hdvd : t * 2 ^ s + 2 ^ s ≤ 18446744073709551616 := by
    have h64 : (18446744073709551616 : Nat) = 2 ^ (64 - s) * 2 ^ s := by rw [← Nat.pow_add, show 64 - s + s = 64 by omega]
    have h1 : t < 2 ^ (64 - s) := Nat.lt_of_mul_lt_mul_right (a := 2 ^ s) (by rw [← h64]; exact f2)
    have h2 : (t + 1) * 2 ^ s ≤ 2 ^ (64 - s) * 2 ^ s := Nat.mul_le_mul_right _ h1
    rw [← h64, Nat.add_mul, Nat.one_mul] at h2
    exact h2
  have e := Nat.div_add_mod Y (18446744073709551616 ^ K)
  rw [← ht] at e
  have hm := Nat.mod_lt Y hp
  have hge : t * 2 ^ s * 18446744073709551616 ^ K ≤ Y * 2 ^ s := by
    have : 18446744073709551616 ^ K * t ≤ Y := by rw [← e]; exact Nat.le_add_right _ _
    have := Nat.mul_le_mul_right (2 ^ s) this
    rw [Nat.mul_comm (t * 2 ^ s), ← Nat.mul_assoc]
    exact this
  have hlt : Y * 2 ^ s < 18446744073709551616 ^ (K + 1) := by
    have h1 : Y + 1 ≤ 18446744073709551616 ^ K * (t + 1) := by
      rw [Nat.mul_add, Nat.mul_one]
      omega
    have h2 : (Y + 1) * 2 ^ s ≤ 18446744073709551616 ^ K * (t + 1) * 2 ^ s := Nat.mul_le_mul_right _ h1
    have h3 : 18446744073709551616 ^ K * ((t + 1) * 2 ^ s) ≤ 18446744073709551616 ^ K * 18446744073709551616 := Nat.mul_le_mul_left _ (by rw [Nat.add_mul, Nat.one_mul]; exact hdvd)
    rw [Nat.mul_assoc] at h2
    have h4 : Y * 2 ^ s < (Y + 1) * 2 ^ s := Nat.mul_lt_mul_of_pos_right (Nat.lt_succ_self _) hps
    rw [Nat.pow_succ]
    exact Nat.lt_of_lt_of_le h4 (Nat.le_trans h2 h3)
  refine ⟨f1, hlt, ?_, Nat.le_trans (Nat.mul_le_mul_right _ f3) hge⟩
  have hq : Y * 2 ^ s / 18446744073709551616 ^ K < 18446744073709551616 := by
    rw [Nat.div_lt_iff_lt_mul hp, ← Nat.pow_succ']
    exact hlt
  rw [dig, Nat.mod_eq_of_lt hq]
  exact Nat.le_trans f3 ((Nat.le_div_iff_mul_le hp).2 hge)

/-- A number shifted down, digit by digit. -/
theorem down_digit {Z s i : Nat} (hs : s ≤ 63) :
    bits .or .u64 ((dig 18446744073709551616 Z i / 2 ^ s : Nat) : Int) (IntKind.u64.wrap ((dig 18446744073709551616 Z (i + 1) : Int) * 2 ^ (64 - s))) = (dig 18446744073709551616 (Z / 2 ^ s) i : Int) := by
  have h64 : (18446744073709551616 : Nat) = 2 ^ (64 - s) * 2 ^ s := by rw [← Nat.pow_add, show 64 - s + s = 64 by omega]
  have hp : 0 < 2 ^ s := Nat.pow_pos (by omega)
  have hp2 : 0 < 2 ^ (64 - s) := Nat.pow_pos (by omega)
  have ha0 : dig 18446744073709551616 Z i / 2 ^ s < 2 ^ (64 - s) := by
    rw [Nat.div_lt_iff_lt_mul hp, ← h64]
    exact Nat.mod_lt _ (by omega)
  have hd1 : dig 18446744073709551616 Z (i + 1) = Z / 18446744073709551616 ^ i / 18446744073709551616 % 18446744073709551616 := by
    rw [dig, Nat.pow_succ, Nat.div_div_eq_div_mul]
  have hd2 : dig 18446744073709551616 (Z / 2 ^ s) i = Z / 18446744073709551616 ^ i / 2 ^ s % 18446744073709551616 := by
    rw [dig, Nat.div_div_eq_div_mul, Nat.mul_comm, ← Nat.div_div_eq_div_mul]
  have hd0 : dig 18446744073709551616 Z i = Z / 18446744073709551616 ^ i % 18446744073709551616 := rfl
  generalize Z / 18446744073709551616 ^ i = A at *
  have hA : A / 2 ^ s = 2 ^ (64 - s) * (A / 18446744073709551616) + A % 18446744073709551616 / 2 ^ s := by
    have e := Nat.div_add_mod A 18446744073709551616
    have : A = 2 ^ s * (2 ^ (64 - s) * (A / 18446744073709551616)) + A % 18446744073709551616 := by
      rw [← Nat.mul_assoc, Nat.mul_comm (2 ^ s), ← h64]
      exact e.symm
    rw [this, Nat.mul_add_div hp, ← this]
  have hlt : A % 18446744073709551616 / 2 ^ s < 2 ^ (64 - s) := by rw [← hd0]; exact ha0
  have hmod : A / 2 ^ s % 18446744073709551616 = 2 ^ (64 - s) * (A / 18446744073709551616 % 2 ^ s) + A % 18446744073709551616 / 2 ^ s := by
    rw [hA]
    clear hA hd0 hd1 hd2 ha0
    generalize A / 18446744073709551616 = A1 at *
    generalize A % 18446744073709551616 / 2 ^ s = a0 at *
    rw [show (2 ^ (64 - s) * A1 + a0) % 18446744073709551616 = (2 ^ (64 - s) * A1 + a0) % (2 ^ (64 - s) * 2 ^ s) by rw [← h64], Nat.mod_mul, Nat.mul_add_mod, Nat.mod_eq_of_lt hlt, Nat.mul_add_div hp2, Nat.div_eq_of_lt hlt, Nat.add_zero, Nat.add_comm]
  have hsh : dig 18446744073709551616 Z (i + 1) * 2 ^ (64 - s) % 18446744073709551616 = 2 ^ (64 - s) * (A / 18446744073709551616 % 2 ^ s) := by
    rw [hd1, Nat.mul_comm]
    generalize A / 18446744073709551616 = A1
    rw [show 2 ^ (64 - s) * (A1 % 18446744073709551616) % 18446744073709551616 = 2 ^ (64 - s) * (A1 % 18446744073709551616) % (2 ^ (64 - s) * 2 ^ s) by rw [← h64], Nat.mul_mod_mul_left, Nat.mod_mod_of_dvd]
    exact ⟨2 ^ (64 - s), by rw [Nat.mul_comm]; exact h64⟩
  rw [hd2, hmod, ← hd0]
  generalize dig 18446744073709551616 Z i / 2 ^ s = lo at *
  generalize dig 18446744073709551616 Z (i + 1) = d1 at *
  rw [show (d1 : Int) * 2 ^ (64 - s) = ((d1 * 2 ^ (64 - s) : Nat) : Int) by simp, IntKind.wrap_u64, show ((d1 * 2 ^ (64 - s) : Nat) : Int) % 18446744073709551616 = ((d1 * 2 ^ (64 - s) % 18446744073709551616 : Nat) : Int) by simp, hsh]
  have hhi : 2 ^ (64 - s) * (A / 18446744073709551616 % 2 ^ s) < 18446744073709551616 := by rw [← hsh]; exact Nat.mod_lt _ (by omega)
  have hlo : lo < 18446744073709551616 := Nat.lt_of_lt_of_le ha0 (by rw [show (18446744073709551616 : Nat) = 2 ^ 64 from rfl]; exact Nat.pow_le_pow_right (by omega) (by omega))
  rw [u64_or_nat _ _ hlo hhi, Nat.or_comm, Nat.two_pow_add_eq_or_of_lt ha0]

theorem up_bound {Z s L N : Nat} (h : Z < 2 ^ s * 18446744073709551616 ^ L) (hs : s ≤ 63) (hN : L + 1 ≤ N) : Z < 18446744073709551616 ^ N := by
  have h1 : 2 ^ s ≤ 18446744073709551616 := by rw [show (18446744073709551616 : Nat) = 2 ^ 64 from rfl]; exact Nat.pow_le_pow_right (by omega) (by omega)
  have h2 : 2 ^ s * 18446744073709551616 ^ L ≤ 18446744073709551616 * 18446744073709551616 ^ L := Nat.mul_le_mul_right _ h1
  have h3 : 18446744073709551616 * 18446744073709551616 ^ L = 18446744073709551616 ^ (L + 1) := (Nat.pow_succ' ..).symm
  rw [h3] at h2
  exact Nat.lt_of_lt_of_le h (Nat.le_trans h2 (Nat.pow_le_pow_right (by omega) hN))

theorem start_below {Z s L T nk V : Nat} (h : Z < 2 ^ s * 18446744073709551616 ^ L) (hs : s ≤ 63) (hV : 9223372036854775808 * 18446744073709551616 ^ nk ≤ V) (hT : L ≤ nk + T) : Z / 18446744073709551616 ^ T < V := by
  rw [Nat.div_lt_iff_lt_mul (Nat.pow_pos (by omega))]
  have h1 : 2 ^ s ≤ 9223372036854775808 := by rw [show (9223372036854775808 : Nat) = 2 ^ 63 from rfl]; exact Nat.pow_le_pow_right (by omega) hs
  have h2 : 18446744073709551616 ^ L ≤ 18446744073709551616 ^ (nk + T) := Nat.pow_le_pow_right (by omega) hT
  have h3 : 2 ^ s * 18446744073709551616 ^ L ≤ 9223372036854775808 * 18446744073709551616 ^ (nk + T) := Nat.mul_le_mul h1 h2
  rw [Nat.pow_add, ← Nat.mul_assoc] at h3
  exact Nat.lt_of_lt_of_le h (Nat.le_trans h3 (Nat.mul_le_mul_right _ hV))

end Go.Proofs.Ytcdeankllgpnfab
