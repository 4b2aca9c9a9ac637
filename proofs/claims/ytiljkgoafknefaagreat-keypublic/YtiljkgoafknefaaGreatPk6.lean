/- Put together of: Key1 Key2 Key4. -/
import Derived.Test.YtiljkgoafknefaaGreatPk5

/- The plain side of layers 18 and 19 (package sconceref18): one, Size, Good, Common. -/
namespace Go.Proofs.YtiljkgoafknefaaGreat
open Go.RowKit

theorem r18one (w : World) : Calls Tryz.prog 48 #[] w fun r w' => ∃ v', r = .returned v' ∧ IsBig w' v' 1 ∧ (∀ b, v'.ownBlock = some b → w.heap.size ≤ b) ∧ Kept Nought w w' := by
  have h := rSmall 1 (by omega) w
  go_enter Tryz.func48, Tryz.ntmps48
  go_wp2_with fail
  refine h.mono ?_
  rintro e w1 ⟨v1, rfl, h1, h2, h3⟩
  go_wp2_with fail
  go_ret
  exact ⟨_, rfl, h1, h2, h3⟩

theorem blen_b {w : World} {v : Value} {V : Nat} (h : IsBig w v V) : blen V ≤ 100000000000 := by
  obtain ⟨ds, _, hd, _, rfl, hl⟩ := h
  have h1 := val_lt (B := 4294967296) (by omega) hd
  have h2 : blen (val 4294967296 ds) ≤ 32 * ds.length := (blen_le _ _).2 (by rw [Nat.pow_mul]; exact h1)
  omega

/-- How many bytes a number needs. -/
def sizeN (X : Nat) : Nat := (blen X + 7) / 8

/-- What Common answers. -/
def comE (P Q L M : Nat) : Nat := if 130 < L ∨ 130 < M then 2 else if P < 2 ∨ Q < 2 then 1 else 0

/-- The least number that both less 1 divide. -/
def comN (P Q : Nat) : Nat := (P - 1) / Nat.gcd (P - 1) (Q - 1) * (Q - 1)

set_option maxRecDepth 20000 in
set_option maxHeartbeats 2000000 in
/-- Common. -/
theorem r18Common (ao bo : Option Addr) (L M cap dap : Nat) (xs ys : List Nat) (E : Nat) (RL : List Nat) (hE : E = comE (val 18446744073709551616 xs) (val 18446744073709551616 ys) L M) (hRL : RL = if E = 0 then digs 18446744073709551616 (comN (val 18446744073709551616 xs) (val 18446744073709551616 ys)) (max (wordsN (comN (val 18446744073709551616 xs) (val 18446744073709551616 ys))) 1) else []) (w : World) (hu : Row .u64 w (.slice ao L cap) xs) (hv : Row .u64 w (.slice bo M dap) ys) (hdx : Digs 18446744073709551616 xs) (hdy : Digs 18446744073709551616 ys) (hLb : L ≤ 1000000) (hMb : M ≤ 1000000) :
    Calls Tryz.prog 19 #[.slice ao L cap, .slice bo M dap] w fun e w' => ∃ v', e = .returned (.tuple #[v', .int .i64 (E : Nat)]) ∧ Row .u64 w' v' RL ∧ (∀ b, v'.ownBlock = some b → w.heap.size ≤ b) ∧ Kept Nought w w' := by
  obtain ⟨_, _, _, e1, hL, -, -, -, -⟩ := hu.open
  cases e1
  obtain ⟨_, _, _, e1, hM, -, -, -, -⟩ := hv.open
  cases e1
  have JX : Hid (∀ W, Kept Nought w W → Calls Tryz.prog 24 #[.slice ao L cap] W fun r w' => ∃ v', r = .returned v' ∧ IsBig w' v' (val 18446744073709551616 xs) ∧ (∀ b, v'.ownBlock = some b → W.heap.size ≤ b) ∧ Kept Nought W w') := fun W k => rOf _ xs W (hu.grew k) hdx (by rw [hL.out]; omega)
  have JY : Hid (∀ W, Kept Nought w W → Calls Tryz.prog 24 #[.slice bo M dap] W fun r w' => ∃ v', r = .returned v' ∧ IsBig w' v' (val 18446744073709551616 ys) ∧ (∀ b, v'.ownBlock = some b → W.heap.size ≤ b) ∧ Kept Nought W w') := fun W k => rOf _ ys W (hv.grew k) hdy (by rw [hM.out]; omega)
  by_cases hlen : 130 < L ∨ 130 < M
  · have HE : Hid (E = 2) := by unfold Hid; rw [hE, comE, if_pos hlen]
    have HR : Hid (RL = []) := by unfold Hid; rw [hRL, if_neg (by rw [HE.out]; omega)]
    clear hu hv hE hRL hL hM JX JY
    by_cases h1 : 130 < L
    · have g1 : (130 : Int) < (L : Int) := by omega
      clear hlen
      go_enter Tryz.func19, Tryz.ntmps19
      go_wp2_with fail
      go_ret2
      exact ⟨_, by rw [HE.out]; rfl, by rw [HR.out]; exact Row.nil _ _, (fun b hb => by cases hb), Kept.refl _ _⟩
    · have g1 : ¬ (130 : Int) < (L : Int) := by omega
      have g2 : (130 : Int) < (M : Int) := by omega
      clear hlen
      go_enter Tryz.func19, Tryz.ntmps19
      go_wp2_with fail
      go_ret2
      exact ⟨_, by rw [HE.out]; rfl, by rw [HR.out]; exact Row.nil _ _, (fun b hb => by cases hb), Kept.refl _ _⟩
  · have g1 : ¬ (130 : Int) < (L : Int) := by omega
    have g2 : ¬ (130 : Int) < (M : Int) := by omega
    have hdX : dlen (val 18446744073709551616 xs) ≤ 260 := by
      have : dlen (val 18446744073709551616 xs) ≤ 2 * L := (dlen_le _ _).2 (by rw [Nat.pow_mul, ← hL.out]; exact val_lt (by omega) hdx)
      omega
    have hdY : dlen (val 18446744073709551616 ys) ≤ 260 := by
      have : dlen (val 18446744073709551616 ys) ≤ 2 * M := (dlen_le _ _).2 (by rw [Nat.pow_mul, ← hM.out]; exact val_lt (by omega) hdy)
      omega
    rw [comE, if_neg hlen] at hE
    have HE := toHid hE
    have HRL := toHid hRL
    clear hu hv hL hM hE hRL hdx hdy hlen
    generalize val 18446744073709551616 xs = P at *
    generalize val 18446744073709551616 ys = Q at *
    go_enter Tryz.func19, Tryz.ntmps19
    go_wp2_with fail
    have h1 := JX.out _ (Kept.refl _ _)
    refine h1.mono ?_
    rintro e w1 ⟨v1, rfl, b1, _, K1⟩
    clear h1
    have h2 := JY.out _ K1
    go_wp2_with fail
    refine h2.mono ?_
    rintro e w2 ⟨v2, rfl, b2, _, k2⟩
    have K2 := K1.trans k2
    have b1 := b1.grew k2
    clear h2
    have h3 := rSmall 2 (by omega) w2
    go_wp2_with fail
    refine h3.mono ?_
    rintro e w3 ⟨v3, rfl, b3, _, k3⟩
    have K3 := K2.trans k3
    have b1 := b1.grew k3
    have b2 := b2.grew k3
    clear h3
    have h4 := rCmp v1 v3 P 2 w3 b1 b3
    by_cases hP : P < 2
    · have HE1 : Hid (E = 1) := by unfold Hid; rw [HE.out, if_pos (.inl hP)]
      have HR : Hid (RL = []) := by unfold Hid; rw [HRL.out, if_neg (by rw [HE1.out]; omega)]
      rw [cmpN_lt hP] at h4
      go_wp2_with fail
      refine h4.mono ?_
      rintro e w4 ⟨rfl, m4, rfl⟩
      go_wp2_with fail
      go_ret2
      exact ⟨_, by rw [HE1.out]; rfl, by rw [HR.out]; exact Row.nil _ _, (fun b hb => by cases hb), K3.drewN m4⟩
    have hc4 := cmpN_nn (show 2 ≤ P by omega)
    have q4 : decide (cmpN P 2 < 0) = false := decide_eq_false hc4
    generalize cmpN P 2 = c4 at *
    go_wp2_with fail
    refine h4.mono ?_
    rintro e w4' ⟨rfl, m4, rfl⟩
    have k4 := (Kept.refl Nought w3).drewN m4
    obtain ⟨w4, hw4⟩ : ∃ w4, w4 = w3.drewN m4 := ⟨_, rfl⟩
    rw [← hw4] at k4 ⊢
    have K4 := K3.trans k4
    have b1 := b1.grew k4
    have b2 := b2.grew k4
    have b3 := b3.grew k4
    clear h4 hw4
    have h5 := rSmall 2 (by omega) w4
    go_wp2_with fail
    refine h5.mono ?_
    rintro e w5 ⟨v5, rfl, b5, _, k5⟩
    have K5 := K4.trans k5
    have b1 := b1.grew k5
    have b2 := b2.grew k5
    have b3 := b3.grew k5
    clear h5
    have h6 := rCmp v2 v5 Q 2 w5 b2 b5
    by_cases hQ : Q < 2
    · have HE1 : Hid (E = 1) := by unfold Hid; rw [HE.out, if_pos (.inr hQ)]
      have HR : Hid (RL = []) := by unfold Hid; rw [HRL.out, if_neg (by rw [HE1.out]; omega)]
      rw [cmpN_lt hQ] at h6
      go_wp2_with fail
      refine h6.mono ?_
      rintro e w6 ⟨rfl, m6, rfl⟩
      go_wp2_with fail
      go_ret2
      exact ⟨_, by rw [HE1.out]; rfl, by rw [HR.out]; exact Row.nil _ _, (fun b hb => by cases hb), K5.drewN m6⟩
    have hc6 := cmpN_nn (show 2 ≤ Q by omega)
    have q6 : decide (cmpN Q 2 < 0) = false := decide_eq_false hc6
    have HE0 : Hid (E = 0) := by unfold Hid; rw [HE.out, if_neg (by omega)]
    have HR : Hid (RL = digs 18446744073709551616 (comN P Q) (max (wordsN (comN P Q)) 1)) := by unfold Hid; rw [HRL.out, if_pos HE0.out]
    generalize cmpN Q 2 = c6 at *
    go_wp2_with fail
    refine h6.mono ?_
    rintro e w6' ⟨rfl, m6, rfl⟩
    have k6 := (Kept.refl Nought w5).drewN m6
    obtain ⟨w6, hw6⟩ : ∃ w6, w6 = w5.drewN m6 := ⟨_, rfl⟩
    rw [← hw6] at k6 ⊢
    have K6 := K5.trans k6
    have b1 := b1.grew k6
    have b2 := b2.grew k6
    clear h6 hw6 b3 b5
    have h7 := r18one w6
    go_wp2_with fail
    refine h7.mono ?_
    rintro e w7 ⟨v7, rfl, b7, _, k7⟩
    have K7 := K6.trans k7
    have b1 := b1.grew k7
    have b2 := b2.grew k7
    clear h7
    have h8 := rSub v1 v7 P 1 w7 b1 b7 (by omega)
    go_wp2_with fail
    refine h8.mono ?_
    rintro e w8 ⟨v8, rfl, b8, _, k8⟩
    have K8 := K7.trans k8
    have b1 := b1.grew k8
    have b2 := b2.grew k8
    have b7 := b7.grew k8
    clear h8
    have h9 := r18one w8
    go_wp2_with fail
    refine h9.mono ?_
    rintro e w9 ⟨v9, rfl, b9, _, k9⟩
    have K9 := K8.trans k9
    have b1 := b1.grew k9
    have b2 := b2.grew k9
    have b7 := b7.grew k9
    have b8 := b8.grew k9
    clear h9
    have h10 := rSub v2 v9 Q 1 w9 b2 b9 (by omega)
    go_wp2_with fail
    refine h10.mono ?_
    rintro e w10 ⟨v10, rfl, b10, _, k10⟩
    have K10 := K9.trans k10
    have b1 := b1.grew k10
    have b2 := b2.grew k10
    have b7 := b7.grew k10
    have b8 := b8.grew k10
    have b9 := b9.grew k10
    clear h10
    have hdP1 : dlen (P - 1) ≤ 260 := by have := dlen_mono (show P - 1 ≤ P by omega); omega
    have hdQ1 : dlen (Q - 1) ≤ 260 := by have := dlen_mono (show Q - 1 ≤ Q by omega); omega
    have h11 := rGcd v8 v10 (P - 1) (Q - 1) w10 b8 b10 (by omega) (by omega)
    go_wp2_with fail
    refine h11.mono ?_
    rintro e w11 ⟨v11, rfl, b11, _, k11⟩
    have K11 := K10.trans k11
    have b1 := b1.grew k11
    have b2 := b2.grew k11
    have b7 := b7.grew k11
    have b8 := b8.grew k11
    have b9 := b9.grew k11
    have b10 := b10.grew k11
    clear h11
    have hg0 : 0 < Nat.gcd (P - 1) (Q - 1) := Nat.gcd_pos_of_pos_left _ (by omega)
    have h12 := rDivMod v8 v11 (P - 1) (Nat.gcd (P - 1) (Q - 1)) w11 b8 b11 hg0 (by omega)
    go_wp2_with fail
    refine h12.mono ?_
    rintro e w12 ⟨v12, v12', rfl, b12, _, _, _, k12⟩
    have K12 := K11.trans k12
    have b10 := b10.grew k12
    clear h12
    have hdq : dlen ((P - 1) / Nat.gcd (P - 1) (Q - 1)) ≤ 260 := by have := dlen_mono (Nat.div_le_self (P - 1) (Nat.gcd (P - 1) (Q - 1))); omega
    have h13 := rMul v12 v10 _ (Q - 1) w12 b12 b10 (by omega) (by omega)
    go_wp2_with fail
    refine h13.mono ?_
    rintro e w13 ⟨v13, rfl, b13, _, k13⟩
    have K13 := K12.trans k13
    have b10 := b10.grew k13
    have b12 := b12.grew k13
    clear h13
    have h14 := rLeast v13 _ w13 b13
    go_wp2_with fail
    refine h14.mono ?_
    rintro e w14 ⟨v14, rfl, r14, o14, k14⟩
    have K14 := K13.trans k14
    clear h14
    go_wp2_with fail
    go_ret2
    exact ⟨_, by rw [HE0.out]; rfl, by rw [HR.out]; exact r14, (fun b hb => by have hb' : v14.ownBlock = some b := hb; rw [o14] at hb'; cases hb'; exact K13.size), K14⟩

end Go.Proofs.YtiljkgoafknefaaGreat


/- The plain side of layers 18 and 19 (package sconceref18): Public, Good. -/
namespace Go.Proofs.YtiljkgoafknefaaGreat
open Go.RowKit

/-- What Public answers. -/
def pubE (xs : List Nat) (e : Nat) : Nat :=
  if xs.length = 0 ∨ 1000 < xs.length ∨ xs.getD (xs.length - 1) 0 = 0 ∨ val 18446744073709551616 xs % 2 = 0 ∨ blen (val 18446744073709551616 xs) < 32 ∨ 8192 < blen (val 18446744073709551616 xs) ∨ e < 3 ∨ e % 2 = 0 ∨ 4294967296 ≤ e then 190 else 0

set_option maxRecDepth 20000 in
set_option maxHeartbeats 2000000 in
/-- Public. -/
theorem r18Public (ao : Option Addr) (L cap : Nat) (xs : List Nat) (e : Nat) (he : e < 18446744073709551616) (E : Nat) (hE : E = pubE xs e) (w : World) (hu : Row .u64 w (.slice ao L cap) xs) (hdx : Digs 18446744073709551616 xs) (hLb : L ≤ 1000000) :
    Calls Tryz.prog 11 #[.slice ao L cap, .int .u64 (e : Nat)] w fun r w' => r = .returned (.int .i64 (E : Nat)) ∧ Kept Nought w w' := by
  obtain ⟨_, _, _, e1, hL, -, -, -, h4⟩ := hu.open
  cases e1
  have hO := rOf _ xs w hu hdx (by rw [hL.out]; omega)
  have HBAD : Hid ((L = 0 ∨ 1000 < L ∨ xs.getD (L - 1) 0 = 0 ∨ val 18446744073709551616 xs % 2 = 0 ∨ blen (val 18446744073709551616 xs) < 32 ∨ 8192 < blen (val 18446744073709551616 xs) ∨ e < 3 ∨ e % 2 = 0 ∨ 4294967296 ≤ e) → E = 190) := fun h => by
    rw [hE, pubE, hL.out, if_pos h]
  have HGOOD : Hid (¬ (L = 0 ∨ 1000 < L ∨ xs.getD (L - 1) 0 = 0 ∨ val 18446744073709551616 xs % 2 = 0 ∨ blen (val 18446744073709551616 xs) < 32 ∨ 8192 < blen (val 18446744073709551616 xs) ∨ e < 3 ∨ e % 2 = 0 ∨ 4294967296 ≤ e) → E = 0) := fun h => by
    rw [hE, pubE, hL.out, if_neg h]
  have hval0 : Hid (xs.getD (L - 1) 0 ≠ 0 → 0 < L → 0 < val 18446744073709551616 xs) := fun h h2 => by
    have hT : Trimmed xs := .inr (by rw [hL.out]; exact h)
    have := val_le_of_top (B := 18446744073709551616) hT (by rw [hL.out]; exact h2)
    exact Nat.lt_of_lt_of_le (Nat.pow_pos (by omega)) this
  clear hu hdx hE hL
  generalize hXX : val 18446744073709551616 xs = X at *
  clear hXX
  by_cases a1 : L = 0
  · have HT := toHid (HBAD.out (.inl a1))
    subst a1
    clear h4 hO
    go_enter Tryz.func11, Tryz.ntmps11
    go_wp2_with fail
    go_ret
    exact ⟨by rw [HT.out]; rfl, Kept.refl _ _⟩
  have q1 : ((L : Int) == 0) = false := by simp; omega
  by_cases a2 : 1000 < L
  · have HT := toHid (HBAD.out (.inr (.inl a2)))
    have g2 : (1000 : Int) < (L : Int) := by omega
    clear h4 hO
    go_enter Tryz.func11, Tryz.ntmps11
    go_wp2_with fail
    go_ret
    exact ⟨by rw [HT.out]; rfl, Kept.refl _ _⟩
  have g2 : ¬ (1000 : Int) < (L : Int) := by omega
  have q2 : decide ((1000 : Int) < (L : Int)) = false := decide_eq_false g2
  obtain ⟨m, hm⟩ : ∃ m, L = m + 1 := ⟨L - 1, by omega⟩
  have hm' : L - 1 = m := by omega
  rw [hm'] at HBAD HGOOD hval0
  obtain ⟨b, off, rfl, hc⟩ := h4 m (by omega)
  obtain ⟨z, hz⟩ : ∃ z, z = xs.getD m 0 := ⟨_, rfl⟩
  rw [← hz] at hc HBAD HGOOD hval0
  have gw : IntKind.i64.wrap ((L : Int) - 1) = (m : Int) := by rw [IntKind.wrap_i64]; omega
  have gj : (L : Int) - 1 = (m : Int) := by omega
  have gm0 : (0 : Int) ≤ (m : Int) := by omega
  have gm1 : (m : Int) < (L : Int) := by omega
  clear h4 hz hm hm'
  by_cases a3 : z = 0
  · have HT := toHid (HBAD.out (.inr (.inr (.inl a3))))
    subst a3
    clear hO
    go_enter Tryz.func11, Tryz.ntmps11
    go_wp2_with fail
    go_ret
    exact ⟨by rw [HT.out]; rfl, Kept.refl _ _⟩
  have g3 : ¬ (z : Int) = 0 := by omega
  have q3 : ((z : Int) == 0) = false := by simp; omega
  have hX0 : 0 < X := hval0.out a3 (by omega)
  clear hval0
  go_enter Tryz.func11, Tryz.ntmps11
  go_wp2_with fail
  refine hO.mono ?_
  rintro r w1 ⟨v1, rfl, b1, _, k1⟩
  have h2 := rBitLen v1 X w1 b1
  have hbl := blen_b b1
  obtain ⟨b5, off5, n5, cap5, d5, rfl, hn5, hc5, hd5, hd6⟩ := bigLow b1 hX0
  obtain ⟨t, ht⟩ : ∃ t, t = blen X := ⟨_, rfl⟩
  rw [← ht] at h2 HBAD HGOOD hbl
  have gn5 : (0 : Int) < (n5 : Int) := by omega
  have hm5 : (d5 : Int).tmod 2 = ((d5 % 2 : Nat) : Int) := by rw [Int.tmod_eq_emod_of_nonneg (by omega)]; omega
  have he5 : (e : Int).tmod 2 = ((e % 2 : Nat) : Int) := by rw [Int.tmod_eq_emod_of_nonneg (by omega)]; omega
  clear hO ht b1 hc gw gj gm0 gm1 q1 q2 q3 g2 g3
  go_wp2_with fail
  refine h2.mono ?_
  rintro r w2 ⟨rfl, rfl⟩
  clear h2
  by_cases a4 : X % 2 = 0
  · have HT := toHid (HBAD.out (.inr (.inr (.inr (.inl a4)))))
    have hz5 : (d5 : Int) % 2 = 0 := by omega
    rw [show d5 % 2 = 0 by omega] at hm5
    clear HBAD HGOOD
    go_wp2_with fail
    go_ret
    exact ⟨by rw [HT.out]; rfl, k1⟩
  have hz5 : (d5 : Int) % 2 = 1 := by omega
  rw [show d5 % 2 = 1 by omega] at hm5
  by_cases a5 : t < 32
  · have HT := toHid (HBAD.out (.inr (.inr (.inr (.inr (.inl a5))))))
    have g5 : (t : Int) < 32 := by omega
    have q5 : decide ((t : Int) < 32) = true := decide_eq_true g5
    clear HBAD HGOOD
    go_wp2_with fail
    go_ret
    exact ⟨by rw [HT.out]; rfl, k1⟩
  have g5 : ¬ (t : Int) < 32 := by omega
  have q5 : decide ((t : Int) < 32) = false := decide_eq_false g5
  by_cases a6 : 8192 < t
  · have HT := toHid (HBAD.out (.inr (.inr (.inr (.inr (.inr (.inl a6)))))))
    have g6 : (8192 : Int) < (t : Int) := by omega
    have q6 : decide ((8192 : Int) < (t : Int)) = true := decide_eq_true g6
    clear HBAD HGOOD
    go_wp2_with fail
    go_ret
    exact ⟨by rw [HT.out]; rfl, k1⟩
  have g6 : ¬ (8192 : Int) < (t : Int) := by omega
  have q6 : decide ((8192 : Int) < (t : Int)) = false := decide_eq_false g6
  by_cases a7 : e < 3
  · have HT := toHid (HBAD.out (.inr (.inr (.inr (.inr (.inr (.inr (.inl a7))))))))
    have g7 : (e : Int) < 3 := by omega
    have q7 : decide ((e : Int) < 3) = true := decide_eq_true g7
    clear HBAD HGOOD
    go_wp2_with fail
    go_ret
    exact ⟨by rw [HT.out]; rfl, k1⟩
  have g7 : ¬ (e : Int) < 3 := by omega
  have q7 : decide ((e : Int) < 3) = false := decide_eq_false g7
  by_cases a8 : e % 2 = 0
  · have HT := toHid (HBAD.out (.inr (.inr (.inr (.inr (.inr (.inr (.inr (.inl a8)))))))))
    have g8 : (e : Int) % 2 = 0 := by omega
    rw [show e % 2 = 0 by omega] at he5
    clear HBAD HGOOD
    go_wp2_with fail
    go_ret
    exact ⟨by rw [HT.out]; rfl, k1⟩
  have g8 : (e : Int) % 2 = 1 := by omega
  rw [show e % 2 = 1 by omega] at he5
  by_cases a9 : 4294967296 ≤ e
  · have HT := toHid (HBAD.out (.inr (.inr (.inr (.inr (.inr (.inr (.inr (.inr (a9))))))))))
    have g9 : (4294967296 : Int) ≤ (e : Int) := by omega
    have q9 : decide ((4294967296 : Int) ≤ (e : Int)) = true := decide_eq_true g9
    clear HBAD HGOOD
    go_wp2_with fail
    go_ret
    exact ⟨by rw [HT.out]; rfl, k1⟩
  have g9 : ¬ (4294967296 : Int) ≤ (e : Int) := by omega
  have q9 : decide ((4294967296 : Int) ≤ (e : Int)) = false := decide_eq_false g9
  have HT : Hid (E = 0) := HGOOD.out (by omega)
  clear HBAD HGOOD
  go_wp2_with fail
  go_ret
  exact ⟨by rw [HT.out]; rfl, k1⟩

end Go.Proofs.YtiljkgoafknefaaGreat


/- The plain side of layer 19 (package sconceref18): Same. -/
namespace Go.Proofs.YtiljkgoafknefaaGreat
open Go.RowKit

theorem cells8 {W : World} {p : Nat} {a b c d e f g h : Value} {t : TypeId} (hh : W.heap[p]? = some (.cells #[a, b, c, d, e, f, g, h] t (0, 0))) :
    W.cell? ⟨p, 0, none⟩ = some a ∧ W.cell? ⟨p, 1, none⟩ = some b ∧ W.cell? ⟨p, 2, none⟩ = some c ∧ W.cell? ⟨p, 3, none⟩ = some d ∧ W.cell? ⟨p, 4, none⟩ = some e ∧ W.cell? ⟨p, 5, none⟩ = some f ∧ W.cell? ⟨p, 6, none⟩ = some g ∧ W.cell? ⟨p, 7, none⟩ = some h := by
  simp [World.cell?, hh]

set_option maxRecDepth 40000 in
set_option maxHeartbeats 4000000 in
/-- Same: keys alike. -/
theorem r18Same (ano ado apo aqo adpo adqo aqio bno bdo bpo bqo bdpo bdqo bqio : Option Addr) (anl anc adl adc apl apc aql aqc adpl adpc adql adqc aqil aqic bnl bnc bdl bdc bpl bpc bql bqc bdpl bdpc bdql bdqc bqil bqic ae be : Nat) (ans ads aps aqs adps adqs aqis bns bds bps bqs bdps bdqs bqis : List Nat) (R : Bool) (hR : R = true ↔ ae = be ∧ ans = bns ∧ ads = bds ∧ aps = bps ∧ aqs = bqs ∧ adps = bdps ∧ adqs = bdqs ∧ aqis = bqis) (w : World) (han : Row .u64 w (.slice ano anl anc) ans) (had : Row .u64 w (.slice ado adl adc) ads) (hap : Row .u64 w (.slice apo apl apc) aps) (haq : Row .u64 w (.slice aqo aql aqc) aqs) (hadp : Row .u64 w (.slice adpo adpl adpc) adps) (hadq : Row .u64 w (.slice adqo adql adqc) adqs) (haqi : Row .u64 w (.slice aqio aqil aqic) aqis) (hbn : Row .u64 w (.slice bno bnl bnc) bns) (hbd : Row .u64 w (.slice bdo bdl bdc) bds) (hbp : Row .u64 w (.slice bpo bpl bpc) bps) (hbq : Row .u64 w (.slice bqo bql bqc) bqs) (hbdp : Row .u64 w (.slice bdpo bdpl bdpc) bdps) (hbdq : Row .u64 w (.slice bdqo bdql bdqc) bdqs) (hbqi : Row .u64 w (.slice bqio bqil bqic) bqis) :
    Calls Tryz.prog 14 #[.agg #[.slice ano anl anc, .int .u64 (ae : Nat), .slice ado adl adc, .slice apo apl apc, .slice aqo aql aqc, .slice adpo adpl adpc, .slice adqo adql adqc, .slice aqio aqil aqic], .agg #[.slice bno bnl bnc, .int .u64 (be : Nat), .slice bdo bdl bdc, .slice bpo bpl bpc, .slice bqo bql bqc, .slice bdpo bdpl bdpc, .slice bdqo bdql bdqc, .slice bqio bqil bqic]] w fun e w' => e = .returned (.bool R) ∧ Kept Nought w w' := by
  have HR := toHid hR
  have HF : Hid (¬ (ae = be ∧ ans = bns ∧ ads = bds ∧ aps = bps ∧ aqs = bqs ∧ adps = bdps ∧ adqs = bdqs ∧ aqis = bqis) → R = false) := fun h => by
    cases h2 : R with
    | false => rfl
    | true => exact absurd (HR.out.1 h2) h
  have k0 : Kept Nought w ((w.alloc (.cells #[.slice ano anl anc, .int .u64 (ae : Nat), .slice ado adl adc, .slice apo apl apc, .slice aqo aql aqc, .slice adpo adpl adpc, .slice adqo adql adqc, .slice aqio aqil aqic] 32)).alloc (.cells #[.slice bno bnl bnc, .int .u64 (be : Nat), .slice bdo bdl bdc, .slice bpo bpl bpc, .slice bqo bql bqc, .slice bdpo bdpl bdpc, .slice bdqo bdql bdqc, .slice bqio bqil bqic] 32)) := ((Kept.refl Nought w).alloc _).alloc _
  have Jn := toHid (fun W (k : Kept Nought w W) => rSame _ _ ans bns W (han.grew k) (hbn.grew k))
  have Jd := toHid (fun W (k : Kept Nought w W) => rSame _ _ ads bds W (had.grew k) (hbd.grew k))
  have Jp := toHid (fun W (k : Kept Nought w W) => rSame _ _ aps bps W (hap.grew k) (hbp.grew k))
  have Jq := toHid (fun W (k : Kept Nought w W) => rSame _ _ aqs bqs W (haq.grew k) (hbq.grew k))
  have Jdp := toHid (fun W (k : Kept Nought w W) => rSame _ _ adps bdps W (hadp.grew k) (hbdp.grew k))
  have Jdq := toHid (fun W (k : Kept Nought w W) => rSame _ _ adqs bdqs W (hadq.grew k) (hbdq.grew k))
  have Jqi := toHid (fun W (k : Kept Nought w W) => rSame _ _ aqis bqis W (haqi.grew k) (hbqi.grew k))
  clear hR han hbn had hbd hap hbp haq hbq hadp hbdp hadq hbdq haqi hbqi
  by_cases he : ae = be
  · subst he
    by_cases e0 : ans = bns
    · have hn := Jn.out
      rw [decide_eq_true e0] at hn
      by_cases e1 : ads = bds
      · have hd := Jd.out
        rw [decide_eq_true e1] at hd
        by_cases e2 : aps = bps
        · have hp := Jp.out
          rw [decide_eq_true e2] at hp
          by_cases e3 : aqs = bqs
          · have hq := Jq.out
            rw [decide_eq_true e3] at hq
            by_cases e4 : adps = bdps
            · have hdp := Jdp.out
              rw [decide_eq_true e4] at hdp
              by_cases e5 : adqs = bdqs
              · have hdq := Jdq.out
                rw [decide_eq_true e5] at hdq
                by_cases e6 : aqis = bqis
                · have hqi := Jqi.out
                  rw [decide_eq_true e6] at hqi
                  have HT : Hid (R = true) := HR.out.2 ⟨rfl, e0, e1, e2, e3, e4, e5, e6⟩
                  clear HR HF Jn Jd Jp Jq Jdp Jdq Jqi e0 e1 e2 e3 e4 e5 e6
                  go_enter Tryz.func14, Tryz.ntmps14
                  go_wp2_with fail
                  refine (hn _ k0).mono ?_
                  rintro e w0 ⟨rfl, m0, rfl⟩
                  go_wp2_with fail
                  refine (hd _ (k0.drewN _)).mono ?_
                  rintro e w1 ⟨rfl, m1, rfl⟩
                  go_wp2_with fail
                  refine (hp _ (k0.drewN _)).mono ?_
                  rintro e w2 ⟨rfl, m2, rfl⟩
                  go_wp2_with fail
                  refine (hq _ (k0.drewN _)).mono ?_
                  rintro e w3 ⟨rfl, m3, rfl⟩
                  go_wp2_with fail
                  refine (hdp _ (k0.drewN _)).mono ?_
                  rintro e w4 ⟨rfl, m4, rfl⟩
                  go_wp2_with fail
                  refine (hdq _ (k0.drewN _)).mono ?_
                  rintro e w5 ⟨rfl, m5, rfl⟩
                  go_wp2_with fail
                  refine (hqi _ (k0.drewN _)).mono ?_
                  rintro e w6 ⟨rfl, m6, rfl⟩
                  go_wp2_with fail
                  go_ret
                  exact ⟨by rw [HT.out]; rfl, k0.drewN _⟩
                · have HT := toHid (HF.out (fun h => e6 h.2.2.2.2.2.2.2))
                  have hqi := Jqi.out
                  rw [decide_eq_false e6] at hqi
                  clear HR HF Jn Jd Jp Jq Jdp Jdq Jqi e0 e1 e2 e3 e4 e5 e6
                  go_enter Tryz.func14, Tryz.ntmps14
                  go_wp2_with fail
                  refine (hn _ k0).mono ?_
                  rintro e w0 ⟨rfl, m0, rfl⟩
                  go_wp2_with fail
                  refine (hd _ (k0.drewN _)).mono ?_
                  rintro e w1 ⟨rfl, m1, rfl⟩
                  go_wp2_with fail
                  refine (hp _ (k0.drewN _)).mono ?_
                  rintro e w2 ⟨rfl, m2, rfl⟩
                  go_wp2_with fail
                  refine (hq _ (k0.drewN _)).mono ?_
                  rintro e w3 ⟨rfl, m3, rfl⟩
                  go_wp2_with fail
                  refine (hdp _ (k0.drewN _)).mono ?_
                  rintro e w4 ⟨rfl, m4, rfl⟩
                  go_wp2_with fail
                  refine (hdq _ (k0.drewN _)).mono ?_
                  rintro e w5 ⟨rfl, m5, rfl⟩
                  go_wp2_with fail
                  refine (hqi _ (k0.drewN _)).mono ?_
                  rintro e w6 ⟨rfl, m6, rfl⟩
                  go_wp2_with fail
                  go_ret
                  exact ⟨by rw [HT.out]; rfl, k0.drewN _⟩
              · have HT := toHid (HF.out (fun h => e5 h.2.2.2.2.2.2.1))
                have hdq := Jdq.out
                rw [decide_eq_false e5] at hdq
                clear HR HF Jn Jd Jp Jq Jdp Jdq Jqi e0 e1 e2 e3 e4 e5
                go_enter Tryz.func14, Tryz.ntmps14
                go_wp2_with fail
                refine (hn _ k0).mono ?_
                rintro e w0 ⟨rfl, m0, rfl⟩
                go_wp2_with fail
                refine (hd _ (k0.drewN _)).mono ?_
                rintro e w1 ⟨rfl, m1, rfl⟩
                go_wp2_with fail
                refine (hp _ (k0.drewN _)).mono ?_
                rintro e w2 ⟨rfl, m2, rfl⟩
                go_wp2_with fail
                refine (hq _ (k0.drewN _)).mono ?_
                rintro e w3 ⟨rfl, m3, rfl⟩
                go_wp2_with fail
                refine (hdp _ (k0.drewN _)).mono ?_
                rintro e w4 ⟨rfl, m4, rfl⟩
                go_wp2_with fail
                refine (hdq _ (k0.drewN _)).mono ?_
                rintro e w5 ⟨rfl, m5, rfl⟩
                go_wp2_with fail
                go_ret
                exact ⟨by rw [HT.out]; rfl, k0.drewN _⟩
            · have HT := toHid (HF.out (fun h => e4 h.2.2.2.2.2.1))
              have hdp := Jdp.out
              rw [decide_eq_false e4] at hdp
              clear HR HF Jn Jd Jp Jq Jdp Jdq Jqi e0 e1 e2 e3 e4
              go_enter Tryz.func14, Tryz.ntmps14
              go_wp2_with fail
              refine (hn _ k0).mono ?_
              rintro e w0 ⟨rfl, m0, rfl⟩
              go_wp2_with fail
              refine (hd _ (k0.drewN _)).mono ?_
              rintro e w1 ⟨rfl, m1, rfl⟩
              go_wp2_with fail
              refine (hp _ (k0.drewN _)).mono ?_
              rintro e w2 ⟨rfl, m2, rfl⟩
              go_wp2_with fail
              refine (hq _ (k0.drewN _)).mono ?_
              rintro e w3 ⟨rfl, m3, rfl⟩
              go_wp2_with fail
              refine (hdp _ (k0.drewN _)).mono ?_
              rintro e w4 ⟨rfl, m4, rfl⟩
              go_wp2_with fail
              go_ret
              exact ⟨by rw [HT.out]; rfl, k0.drewN _⟩
          · have HT := toHid (HF.out (fun h => e3 h.2.2.2.2.1))
            have hq := Jq.out
            rw [decide_eq_false e3] at hq
            clear HR HF Jn Jd Jp Jq Jdp Jdq Jqi e0 e1 e2 e3
            go_enter Tryz.func14, Tryz.ntmps14
            go_wp2_with fail
            refine (hn _ k0).mono ?_
            rintro e w0 ⟨rfl, m0, rfl⟩
            go_wp2_with fail
            refine (hd _ (k0.drewN _)).mono ?_
            rintro e w1 ⟨rfl, m1, rfl⟩
            go_wp2_with fail
            refine (hp _ (k0.drewN _)).mono ?_
            rintro e w2 ⟨rfl, m2, rfl⟩
            go_wp2_with fail
            refine (hq _ (k0.drewN _)).mono ?_
            rintro e w3 ⟨rfl, m3, rfl⟩
            go_wp2_with fail
            go_ret
            exact ⟨by rw [HT.out]; rfl, k0.drewN _⟩
        · have HT := toHid (HF.out (fun h => e2 h.2.2.2.1))
          have hp := Jp.out
          rw [decide_eq_false e2] at hp
          clear HR HF Jn Jd Jp Jq Jdp Jdq Jqi e0 e1 e2
          go_enter Tryz.func14, Tryz.ntmps14
          go_wp2_with fail
          refine (hn _ k0).mono ?_
          rintro e w0 ⟨rfl, m0, rfl⟩
          go_wp2_with fail
          refine (hd _ (k0.drewN _)).mono ?_
          rintro e w1 ⟨rfl, m1, rfl⟩
          go_wp2_with fail
          refine (hp _ (k0.drewN _)).mono ?_
          rintro e w2 ⟨rfl, m2, rfl⟩
          go_wp2_with fail
          go_ret
          exact ⟨by rw [HT.out]; rfl, k0.drewN _⟩
      · have HT := toHid (HF.out (fun h => e1 h.2.2.1))
        have hd := Jd.out
        rw [decide_eq_false e1] at hd
        clear HR HF Jn Jd Jp Jq Jdp Jdq Jqi e0 e1
        go_enter Tryz.func14, Tryz.ntmps14
        go_wp2_with fail
        refine (hn _ k0).mono ?_
        rintro e w0 ⟨rfl, m0, rfl⟩
        go_wp2_with fail
        refine (hd _ (k0.drewN _)).mono ?_
        rintro e w1 ⟨rfl, m1, rfl⟩
        go_wp2_with fail
        go_ret
        exact ⟨by rw [HT.out]; rfl, k0.drewN _⟩
    · have HT := toHid (HF.out (fun h => e0 h.2.1))
      have hn := Jn.out
      rw [decide_eq_false e0] at hn
      clear HR HF Jn Jd Jp Jq Jdp Jdq Jqi e0
      go_enter Tryz.func14, Tryz.ntmps14
      go_wp2_with fail
      refine (hn _ k0).mono ?_
      rintro e w0 ⟨rfl, m0, rfl⟩
      go_wp2_with fail
      go_ret
      exact ⟨by rw [HT.out]; rfl, k0.drewN _⟩
  · have HT := toHid (HF.out (fun h => he h.1))
    have ge : ¬ (ae : Int) = (be : Int) := by omega
    have qe : ((ae : Int) == (be : Int)) = false := by simp; omega
    clear HR HF Jn Jd Jp Jq Jdp Jdq Jqi
    go_enter Tryz.func14, Tryz.ntmps14
    go_wp2_with fail
    go_ret
    exact ⟨by rw [HT.out]; rfl, k0⟩

end Go.Proofs.YtiljkgoafknefaaGreat

