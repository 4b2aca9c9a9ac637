/- The plain side of layers 18 and 19 (package sconceref18): one, Size, Good, Common. -/
import Derived.Test.YtiljkgoafknefaaGreatPrm2
import Derived.Test.YtiljkgoafknefaaGreatBase3
namespace Go.Proofs.YtiljkgoafknefaaGreat
open Go.RowKit

theorem r18one (w : World) : Calls Tryz.prog 48 #[] w fun r w' => ∃ v', r = .returned v' ∧ IsBig w' v' 1 ∧ (∀ b, v'.ownBlock = some b → w.heap.size ≤ b) ∧ Kept Nought w w' := by
  have h := rSmall 1 (by omega) w
  go_enter Tryz.func48, Tryz.ntmps48
  go_wp2_with fail
  refine h.mono ?_
  rintro e w1 ⟨v1, rfl, h1, h2, h3⟩
  go_wp2_with fail
  go_ret
  exact ⟨_, rfl, h1, h2, h3⟩

theorem blen_b {w : World} {v : Value} {V : Nat} (h : IsBig w v V) : blen V ≤ 100000000000 := by
  obtain ⟨ds, _, hd, _, rfl, hl⟩ := h
  have h1 := val_lt (B := 4294967296) (by omega) hd
  have h2 : blen (val 4294967296 ds) ≤ 32 * ds.length := (blen_le _ _).2 (by rw [Nat.pow_mul]; exact h1)
  omega

/-- How many bytes a number needs. -/
def sizeN (X : Nat) : Nat := (blen X + 7) / 8

set_option maxHeartbeats 800000 in
/-- Size. -/
theorem r18Size (v : Value) (xs : List Nat) (w : World) (hu : Row .u64 w v xs) (hdx : Digs 18446744073709551616 xs) (hL : xs.length ≤ 100000000) :
    Calls Tryz.prog 22 #[v] w fun e w' => e = .returned (.int .i64 (sizeN (val 18446744073709551616 xs) : Nat)) ∧ Kept Nought w w' := by
  have h1 := rOf v xs w hu hdx hL
  obtain ⟨ao, L, cap, rfl, -, -, -, -, -⟩ := hu.open
  clear hu
  go_enter Tryz.func22, Tryz.ntmps22
  go_wp2_with fail
  refine h1.mono ?_
  rintro e w1 ⟨v1, rfl, b1, _, k1⟩
  have h2 := rBitLen v1 _ w1 b1
  have hb := blen_b b1
  obtain ⟨t, ht⟩ : ∃ t, t = blen (val 18446744073709551616 xs) := ⟨_, rfl⟩
  obtain ⟨z, hz⟩ : ∃ z, z = sizeN (val 18446744073709551616 xs) := ⟨_, rfl⟩
  have hzt : z = (t + 7) / 8 := by rw [hz, ht]; rfl
  have HZ := toHid hz
  rw [← ht] at h2 hb
  have hsz : ((t : Int) + 7).tdiv 8 = (z : Int) := by rw [Int.tdiv_eq_ediv_of_nonneg (by omega)]; omega
  have hszd : ((t : Int) + 7) / 8 = (z : Int) := by omega
  clear h1 ht hz hzt
  go_wp2_with fail
  refine h2.mono ?_
  rintro e w2 ⟨rfl, rfl⟩
  go_wp2_with fail
  go_ret
  exact ⟨by rw [← HZ.out]; first | rfl | (simp; omega), k1⟩

/-- What Common answers. -/
def comE (P Q L M : Nat) : Nat := if 130 < L ∨ 130 < M then 2 else if P < 2 ∨ Q < 2 then 1 else 0

/-- The least number that both less 1 divide. -/
def comN (P Q : Nat) : Nat := (P - 1) / Nat.gcd (P - 1) (Q - 1) * (Q - 1)

set_option maxRecDepth 20000 in
set_option maxHeartbeats 2000000 in
/-- Common. -/
theorem r18Common (ao bo : Option Addr) (L M cap dap : Nat) (xs ys : List Nat) (E : Nat) (RL : List Nat) (hE : E = comE (val 18446744073709551616 xs) (val 18446744073709551616 ys) L M) (hRL : RL = if E = 0 then digs 18446744073709551616 (comN (val 18446744073709551616 xs) (val 18446744073709551616 ys)) (max (wordsN (comN (val 18446744073709551616 xs) (val 18446744073709551616 ys))) 1) else []) (w : World) (hu : Row .u64 w (.slice ao L cap) xs) (hv : Row .u64 w (.slice bo M dap) ys) (hdx : Digs 18446744073709551616 xs) (hdy : Digs 18446744073709551616 ys) (hLb : L ≤ 1000000) (hMb : M ≤ 1000000) :
    Calls Tryz.prog 19 #[.slice ao L cap, .slice bo M dap] w fun e w' => ∃ v', e = .returned (.tuple #[v', .int .i64 (E : Nat)]) ∧ Row .u64 w' v' RL ∧ (∀ b, v'.ownBlock = some b → w.heap.size ≤ b) ∧ Kept Nought w w' := by
  obtain ⟨_, _, _, e1, hL, -, -, -, -⟩ := hu.open
  cases e1
  obtain ⟨_, _, _, e1, hM, -, -, -, -⟩ := hv.open
  cases e1
  have JX : Hid (∀ W, Kept Nought w W → Calls Tryz.prog 24 #[.slice ao L cap] W fun r w' => ∃ v', r = .returned v' ∧ IsBig w' v' (val 18446744073709551616 xs) ∧ (∀ b, v'.ownBlock = some b → W.heap.size ≤ b) ∧ Kept Nought W w') := fun W k => rOf _ xs W (hu.grew k) hdx (by rw [hL.out]; omega)
  have JY : Hid (∀ W, Kept Nought w W → Calls Tryz.prog 24 #[.slice bo M dap] W fun r w' => ∃ v', r = .returned v' ∧ IsBig w' v' (val 18446744073709551616 ys) ∧ (∀ b, v'.ownBlock = some b → W.heap.size ≤ b) ∧ Kept Nought W w') := fun W k => rOf _ ys W (hv.grew k) hdy (by rw [hM.out]; omega)
  by_cases hlen : 130 < L ∨ 130 < M
  · have HE : Hid (E = 2) := by unfold Hid; rw [hE, comE, if_pos hlen]
    have HR : Hid (RL = []) := by unfold Hid; rw [hRL, if_neg (by rw [HE.out]; omega)]
    clear hu hv hE hRL hL hM JX JY
    by_cases h1 : 130 < L
    · have g1 : (130 : Int) < (L : Int) := by omega
      clear hlen
      go_enter Tryz.func19, Tryz.ntmps19
      go_wp2_with fail
      go_ret2
      exact ⟨_, by rw [HE.out]; rfl, by rw [HR.out]; exact Row.nil _ _, (fun b hb => by cases hb), Kept.refl _ _⟩
    · have g1 : ¬ (130 : Int) < (L : Int) := by omega
      have g2 : (130 : Int) < (M : Int) := by omega
      clear hlen
      go_enter Tryz.func19, Tryz.ntmps19
      go_wp2_with fail
      go_ret2
      exact ⟨_, by rw [HE.out]; rfl, by rw [HR.out]; exact Row.nil _ _, (fun b hb => by cases hb), Kept.refl _ _⟩
  · have g1 : ¬ (130 : Int) < (L : Int) := by omega
    have g2 : ¬ (130 : Int) < (M : Int) := by omega
    have hdX : dlen (val 18446744073709551616 xs) ≤ 260 := by
      have : dlen (val 18446744073709551616 xs) ≤ 2 * L := (dlen_le _ _).2 (by rw [Nat.pow_mul, ← hL.out]; exact val_lt (by omega) hdx)
      omega
    have hdY : dlen (val 18446744073709551616 ys) ≤ 260 := by
      have : dlen (val 18446744073709551616 ys) ≤ 2 * M := (dlen_le _ _).2 (by rw [Nat.pow_mul, ← hM.out]; exact val_lt (by omega) hdy)
      omega
    rw [comE, if_neg hlen] at hE
    have HE := toHid hE
    have HRL := toHid hRL
    clear hu hv hL hM hE hRL hdx hdy hlen
    generalize val 18446744073709551616 xs = P at *
    generalize val 18446744073709551616 ys = Q at *
    go_enter Tryz.func19, Tryz.ntmps19
    go_wp2_with fail
    have h1 := JX.out _ (Kept.refl _ _)
    refine h1.mono ?_
    rintro e w1 ⟨v1, rfl, b1, _, K1⟩
    clear h1
    have h2 := JY.out _ K1
    go_wp2_with fail
    refine h2.mono ?_
    rintro e w2 ⟨v2, rfl, b2, _, k2⟩
    have K2 := K1.trans k2
    have b1 := b1.grew k2
    clear h2
    have h3 := rSmall 2 (by omega) w2
    go_wp2_with fail
    refine h3.mono ?_
    rintro e w3 ⟨v3, rfl, b3, _, k3⟩
    have K3 := K2.trans k3
    have b1 := b1.grew k3
    have b2 := b2.grew k3
    clear h3
    have h4 := rCmp v1 v3 P 2 w3 b1 b3
    by_cases hP : P < 2
    · have HE1 : Hid (E = 1) := by unfold Hid; rw [HE.out, if_pos (.inl hP)]
      have HR : Hid (RL = []) := by unfold Hid; rw [HRL.out, if_neg (by rw [HE1.out]; omega)]
      rw [cmpN_lt hP] at h4
      go_wp2_with fail
      refine h4.mono ?_
      rintro e w4 ⟨rfl, m4, rfl⟩
      go_wp2_with fail
      go_ret2
      exact ⟨_, by rw [HE1.out]; rfl, by rw [HR.out]; exact Row.nil _ _, (fun b hb => by cases hb), K3.drewN m4⟩
    have hc4 := cmpN_nn (show 2 ≤ P by omega)
    have q4 : decide (cmpN P 2 < 0) = false := decide_eq_false hc4
    generalize cmpN P 2 = c4 at *
    go_wp2_with fail
    refine h4.mono ?_
    rintro e w4' ⟨rfl, m4, rfl⟩
    have k4 := (Kept.refl Nought w3).drewN m4
    obtain ⟨w4, hw4⟩ : ∃ w4, w4 = w3.drewN m4 := ⟨_, rfl⟩
    rw [← hw4] at k4 ⊢
    have K4 := K3.trans k4
    have b1 := b1.grew k4
    have b2 := b2.grew k4
    have b3 := b3.grew k4
    clear h4 hw4
    have h5 := rSmall 2 (by omega) w4
    go_wp2_with fail
    refine h5.mono ?_
    rintro e w5 ⟨v5, rfl, b5, _, k5⟩
    have K5 := K4.trans k5
    have b1 := b1.grew k5
    have b2 := b2.grew k5
    have b3 := b3.grew k5
    clear h5
    have h6 := rCmp v2 v5 Q 2 w5 b2 b5
    by_cases hQ : Q < 2
    · have HE1 : Hid (E = 1) := by unfold Hid; rw [HE.out, if_pos (.inr hQ)]
      have HR : Hid (RL = []) := by unfold Hid; rw [HRL.out, if_neg (by rw [HE1.out]; omega)]
      rw [cmpN_lt hQ] at h6
      go_wp2_with fail
      refine h6.mono ?_
      rintro e w6 ⟨rfl, m6, rfl⟩
      go_wp2_with fail
      go_ret2
      exact ⟨_, by rw [HE1.out]; rfl, by rw [HR.out]; exact Row.nil _ _, (fun b hb => by cases hb), K5.drewN m6⟩
    have hc6 := cmpN_nn (show 2 ≤ Q by omega)
    have q6 : decide (cmpN Q 2 < 0) = false := decide_eq_false hc6
    have HE0 : Hid (E = 0) := by unfold Hid; rw [HE.out, if_neg (by omega)]
    have HR : Hid (RL = digs 18446744073709551616 (comN P Q) (max (wordsN (comN P Q)) 1)) := by unfold Hid; rw [HRL.out, if_pos HE0.out]
    generalize cmpN Q 2 = c6 at *
    go_wp2_with fail
    refine h6.mono ?_
    rintro e w6' ⟨rfl, m6, rfl⟩
    have k6 := (Kept.refl Nought w5).drewN m6
    obtain ⟨w6, hw6⟩ : ∃ w6, w6 = w5.drewN m6 := ⟨_, rfl⟩
    rw [← hw6] at k6 ⊢
    have K6 := K5.trans k6
    have b1 := b1.grew k6
    have b2 := b2.grew k6
    clear h6 hw6 b3 b5
    have h7 := r18one w6
    go_wp2_with fail
    refine h7.mono ?_
    rintro e w7 ⟨v7, rfl, b7, _, k7⟩
    have K7 := K6.trans k7
    have b1 := b1.grew k7
    have b2 := b2.grew k7
    clear h7
    have h8 := rSub v1 v7 P 1 w7 b1 b7 (by omega)
    go_wp2_with fail
    refine h8.mono ?_
    rintro e w8 ⟨v8, rfl, b8, _, k8⟩
    have K8 := K7.trans k8
    have b1 := b1.grew k8
    have b2 := b2.grew k8
    have b7 := b7.grew k8
    clear h8
    have h9 := r18one w8
    go_wp2_with fail
    refine h9.mono ?_
    rintro e w9 ⟨v9, rfl, b9, _, k9⟩
    have K9 := K8.trans k9
    have b1 := b1.grew k9
    have b2 := b2.grew k9
    have b7 := b7.grew k9
    have b8 := b8.grew k9
    clear h9
    have h10 := rSub v2 v9 Q 1 w9 b2 b9 (by omega)
    go_wp2_with fail
    refine h10.mono ?_
    rintro e w10 ⟨v10, rfl, b10, _, k10⟩
    have K10 := K9.trans k10
    have b1 := b1.grew k10
    have b2 := b2.grew k10
    have b7 := b7.grew k10
    have b8 := b8.grew k10
    have b9 := b9.grew k10
    clear h10
    have hdP1 : dlen (P - 1) ≤ 260 := by have := dlen_mono (show P - 1 ≤ P by omega); omega
    have hdQ1 : dlen (Q - 1) ≤ 260 := by have := dlen_mono (show Q - 1 ≤ Q by omega); omega
    have h11 := rGcd v8 v10 (P - 1) (Q - 1) w10 b8 b10 (by omega) (by omega)
    go_wp2_with fail
    refine h11.mono ?_
    rintro e w11 ⟨v11, rfl, b11, _, k11⟩
    have K11 := K10.trans k11
    have b1 := b1.grew k11
    have b2 := b2.grew k11
    have b7 := b7.grew k11
    have b8 := b8.grew k11
    have b9 := b9.grew k11
    have b10 := b10.grew k11
    clear h11
    have hg0 : 0 < Nat.gcd (P - 1) (Q - 1) := Nat.gcd_pos_of_pos_left _ (by omega)
    have h12 := rDivMod v8 v11 (P - 1) (Nat.gcd (P - 1) (Q - 1)) w11 b8 b11 hg0 (by omega)
    go_wp2_with fail
    refine h12.mono ?_
    rintro e w12 ⟨v12, v12', rfl, b12, _, _, _, k12⟩
    have K12 := K11.trans k12
    have b10 := b10.grew k12
    clear h12
    have hdq : dlen ((P - 1) / Nat.gcd (P - 1) (Q - 1)) ≤ 260 := by have := dlen_mono (Nat.div_le_self (P - 1) (Nat.gcd (P - 1) (Q - 1))); omega
    have h13 := rMul v12 v10 _ (Q - 1) w12 b12 b10 (by omega) (by omega)
    go_wp2_with fail
    refine h13.mono ?_
    rintro e w13 ⟨v13, rfl, b13, _, k13⟩
    have K13 := K12.trans k13
    have b10 := b10.grew k13
    have b12 := b12.grew k13
    clear h13
    have h14 := rLeast v13 _ w13 b13
    go_wp2_with fail
    refine h14.mono ?_
    rintro e w14 ⟨v14, rfl, r14, o14, k14⟩
    have K14 := K13.trans k14
    clear h14
    go_wp2_with fail
    go_ret2
    exact ⟨_, by rw [HE0.out]; rfl, by rw [HR.out]; exact r14, (fun b hb => by have hb' : v14.ownBlock = some b := hb; rw [o14] at hb'; cases hb'; exact K13.size), K14⟩

end Go.Proofs.YtiljkgoafknefaaGreat
