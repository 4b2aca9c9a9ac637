/- The plain side of layers 18 and 19 (package sconceref18): Public, Good. -/
import Derived.Test.YtiljkgoafknefaaGreatKey1
namespace Go.Proofs.YtiljkgoafknefaaGreat
open Go.RowKit

/-- What Public answers. -/
def pubE (xs : List Nat) (e : Nat) : Nat :=
  if xs.length = 0 ∨ 1000 < xs.length ∨ xs.getD (xs.length - 1) 0 = 0 ∨ val 18446744073709551616 xs % 2 = 0 ∨ blen (val 18446744073709551616 xs) < 32 ∨ 8192 < blen (val 18446744073709551616 xs) ∨ e < 3 ∨ e % 2 = 0 ∨ 4294967296 ≤ e then 190 else 0

set_option maxRecDepth 20000 in
set_option maxHeartbeats 2000000 in
/-- Public. -/
theorem r18Public (ao : Option Addr) (L cap : Nat) (xs : List Nat) (e : Nat) (he : e < 18446744073709551616) (E : Nat) (hE : E = pubE xs e) (w : World) (hu : Row .u64 w (.slice ao L cap) xs) (hdx : Digs 18446744073709551616 xs) (hLb : L ≤ 1000000) :
    Calls Tryz.prog 11 #[.slice ao L cap, .int .u64 (e : Nat)] w fun r w' => r = .returned (.int .i64 (E : Nat)) ∧ Kept Nought w w' := by
  obtain ⟨_, _, _, e1, hL, -, -, -, h4⟩ := hu.open
  cases e1
  have hO := rOf _ xs w hu hdx (by rw [hL.out]; omega)
  have HBAD : Hid ((L = 0 ∨ 1000 < L ∨ xs.getD (L - 1) 0 = 0 ∨ val 18446744073709551616 xs % 2 = 0 ∨ blen (val 18446744073709551616 xs) < 32 ∨ 8192 < blen (val 18446744073709551616 xs) ∨ e < 3 ∨ e % 2 = 0 ∨ 4294967296 ≤ e) → E = 190) := fun h => by
    rw [hE, pubE, hL.out, if_pos h]
  have HGOOD : Hid (¬ (L = 0 ∨ 1000 < L ∨ xs.getD (L - 1) 0 = 0 ∨ val 18446744073709551616 xs % 2 = 0 ∨ blen (val 18446744073709551616 xs) < 32 ∨ 8192 < blen (val 18446744073709551616 xs) ∨ e < 3 ∨ e % 2 = 0 ∨ 4294967296 ≤ e) → E = 0) := fun h => by
    rw [hE, pubE, hL.out, if_neg h]
  have hval0 : Hid (xs.getD (L - 1) 0 ≠ 0 → 0 < L → 0 < val 18446744073709551616 xs) := fun h h2 => by
    have hT : Trimmed xs := .inr (by rw [hL.out]; exact h)
    have := val_le_of_top (B := 18446744073709551616) hT (by rw [hL.out]; exact h2)
    exact Nat.lt_of_lt_of_le (Nat.pow_pos (by omega)) this
  clear hu hdx hE hL
  generalize hXX : val 18446744073709551616 xs = X at *
  clear hXX
  by_cases a1 : L = 0
  · have HT := toHid (HBAD.out (.inl a1))
    subst a1
    clear h4 hO
    go_enter Tryz.func11, Tryz.ntmps11
    go_wp2_with fail
    go_ret
    exact ⟨by rw [HT.out]; rfl, Kept.refl _ _⟩
  have q1 : ((L : Int) == 0) = false := by simp; omega
  by_cases a2 : 1000 < L
  · have HT := toHid (HBAD.out (.inr (.inl a2)))
    have g2 : (1000 : Int) < (L : Int) := by omega
    clear h4 hO
    go_enter Tryz.func11, Tryz.ntmps11
    go_wp2_with fail
    go_ret
    exact ⟨by rw [HT.out]; rfl, Kept.refl _ _⟩
  have g2 : ¬ (1000 : Int) < (L : Int) := by omega
  have q2 : decide ((1000 : Int) < (L : Int)) = false := decide_eq_false g2
  obtain ⟨m, hm⟩ : ∃ m, L = m + 1 := ⟨L - 1, by omega⟩
  have hm' : L - 1 = m := by omega
  rw [hm'] at HBAD HGOOD hval0
  obtain ⟨b, off, rfl, hc⟩ := h4 m (by omega)
  obtain ⟨z, hz⟩ : ∃ z, z = xs.getD m 0 := ⟨_, rfl⟩
  rw [← hz] at hc HBAD HGOOD hval0
  have gw : IntKind.i64.wrap ((L : Int) - 1) = (m : Int) := by rw [IntKind.wrap_i64]; omega
  have gj : (L : Int) - 1 = (m : Int) := by omega
  have gm0 : (0 : Int) ≤ (m : Int) := by omega
  have gm1 : (m : Int) < (L : Int) := by omega
  clear h4 hz hm hm'
  by_cases a3 : z = 0
  · have HT := toHid (HBAD.out (.inr (.inr (.inl a3))))
    subst a3
    clear hO
    go_enter Tryz.func11, Tryz.ntmps11
    go_wp2_with fail
    go_ret
    exact ⟨by rw [HT.out]; rfl, Kept.refl _ _⟩
  have g3 : ¬ (z : Int) = 0 := by omega
  have q3 : ((z : Int) == 0) = false := by simp; omega
  have hX0 : 0 < X := hval0.out a3 (by omega)
  clear hval0
  go_enter Tryz.func11, Tryz.ntmps11
  go_wp2_with fail
  refine hO.mono ?_
  rintro r w1 ⟨v1, rfl, b1, _, k1⟩
  have h2 := rBitLen v1 X w1 b1
  have hbl := blen_b b1
  obtain ⟨b5, off5, n5, cap5, d5, rfl, hn5, hc5, hd5, hd6⟩ := bigLow b1 hX0
  obtain ⟨t, ht⟩ : ∃ t, t = blen X := ⟨_, rfl⟩
  rw [← ht] at h2 HBAD HGOOD hbl
  have gn5 : (0 : Int) < (n5 : Int) := by omega
  have hm5 : (d5 : Int).tmod 2 = ((d5 % 2 : Nat) : Int) := by rw [Int.tmod_eq_emod_of_nonneg (by omega)]; omega
  have he5 : (e : Int).tmod 2 = ((e % 2 : Nat) : Int) := by rw [Int.tmod_eq_emod_of_nonneg (by omega)]; omega
  clear hO ht b1 hc gw gj gm0 gm1 q1 q2 q3 g2 g3
  go_wp2_with fail
  refine h2.mono ?_
  rintro r w2 ⟨rfl, rfl⟩
  clear h2
  by_cases a4 : X % 2 = 0
  · have HT := toHid (HBAD.out (.inr (.inr (.inr (.inl a4)))))
    have hz5 : (d5 : Int) % 2 = 0 := by omega
    rw [show d5 % 2 = 0 by omega] at hm5
    clear HBAD HGOOD
    go_wp2_with fail
    go_ret
    exact ⟨by rw [HT.out]; rfl, k1⟩
  have hz5 : (d5 : Int) % 2 = 1 := by omega
  rw [show d5 % 2 = 1 by omega] at hm5
  by_cases a5 : t < 32
  · have HT := toHid (HBAD.out (.inr (.inr (.inr (.inr (.inl a5))))))
    have g5 : (t : Int) < 32 := by omega
    have q5 : decide ((t : Int) < 32) = true := decide_eq_true g5
    clear HBAD HGOOD
    go_wp2_with fail
    go_ret
    exact ⟨by rw [HT.out]; rfl, k1⟩
  have g5 : ¬ (t : Int) < 32 := by omega
  have q5 : decide ((t : Int) < 32) = false := decide_eq_false g5
  by_cases a6 : 8192 < t
  · have HT := toHid (HBAD.out (.inr (.inr (.inr (.inr (.inr (.inl a6)))))))
    have g6 : (8192 : Int) < (t : Int) := by omega
    have q6 : decide ((8192 : Int) < (t : Int)) = true := decide_eq_true g6
    clear HBAD HGOOD
    go_wp2_with fail
    go_ret
    exact ⟨by rw [HT.out]; rfl, k1⟩
  have g6 : ¬ (8192 : Int) < (t : Int) := by omega
  have q6 : decide ((8192 : Int) < (t : Int)) = false := decide_eq_false g6
  by_cases a7 : e < 3
  · have HT := toHid (HBAD.out (.inr (.inr (.inr (.inr (.inr (.inr (.inl a7))))))))
    have g7 : (e : Int) < 3 := by omega
    have q7 : decide ((e : Int) < 3) = true := decide_eq_true g7
    clear HBAD HGOOD
    go_wp2_with fail
    go_ret
    exact ⟨by rw [HT.out]; rfl, k1⟩
  have g7 : ¬ (e : Int) < 3 := by omega
  have q7 : decide ((e : Int) < 3) = false := decide_eq_false g7
  by_cases a8 : e % 2 = 0
  · have HT := toHid (HBAD.out (.inr (.inr (.inr (.inr (.inr (.inr (.inr (.inl a8)))))))))
    have g8 : (e : Int) % 2 = 0 := by omega
    rw [show e % 2 = 0 by omega] at he5
    clear HBAD HGOOD
    go_wp2_with fail
    go_ret
    exact ⟨by rw [HT.out]; rfl, k1⟩
  have g8 : (e : Int) % 2 = 1 := by omega
  rw [show e % 2 = 1 by omega] at he5
  by_cases a9 : 4294967296 ≤ e
  · have HT := toHid (HBAD.out (.inr (.inr (.inr (.inr (.inr (.inr (.inr (.inr (a9))))))))))
    have g9 : (4294967296 : Int) ≤ (e : Int) := by omega
    have q9 : decide ((4294967296 : Int) ≤ (e : Int)) = true := decide_eq_true g9
    clear HBAD HGOOD
    go_wp2_with fail
    go_ret
    exact ⟨by rw [HT.out]; rfl, k1⟩
  have g9 : ¬ (4294967296 : Int) ≤ (e : Int) := by omega
  have q9 : decide ((4294967296 : Int) ≤ (e : Int)) = false := decide_eq_false g9
  have HT : Hid (E = 0) := HGOOD.out (by omega)
  clear HBAD HGOOD
  go_wp2_with fail
  go_ret
  exact ⟨by rw [HT.out]; rfl, k1⟩

end Go.Proofs.YtiljkgoafknefaaGreat
