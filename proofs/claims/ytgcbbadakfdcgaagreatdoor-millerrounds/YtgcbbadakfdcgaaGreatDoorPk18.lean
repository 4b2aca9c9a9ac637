/- Put together of: Prm3 Str1 Lim3 WInv. -/
import Derived.Test.YtgcbbadakfdcgaaGreatDoorPk17

/- The plain side of layer 17 (package sconceref16): Strong. -/
namespace Go.Proofs.YtgcbbadakfdcgaaGreatDoor
open Go.RowKit

/-- M has just s noughts at its low end, as bits. -/
def IsTz (M s : Nat) : Prop := M / 2 ^ s % 2 = 1 ∧ ∀ j, j < s → M / 2 ^ j % 2 = 0

theorem IsTz.uniq {M s t : Nat} (h : IsTz M s) (g : IsTz M t) : s = t := by
  rcases Nat.lt_trichotomy s t with h1 | h1 | h1
  · have := g.2 s h1
    have := h.1
    omega
  · exact h1
  · have := h.2 t h1
    have := g.1
    omega

theorem tz_ex : ∀ (n M : Nat), 0 < M → M < 2 ^ n → ∃ s, IsTz M s ∧ s < n
  | 0, M, h, g => by simp at g; omega
  | n + 1, M, h, g => by
    by_cases h1 : M % 2 = 1
    · exact ⟨0, ⟨by simpa using h1, fun j hj => by omega⟩, by omega⟩
    · have hd : 0 < M / 2 := by omega
      obtain ⟨s, ⟨hs, hs2⟩, hn⟩ := tz_ex n (M / 2) hd (by rw [Nat.pow_succ] at g; omega)
      refine ⟨s + 1, ⟨?_, fun j hj => ?_⟩, by omega⟩
      · rw [Nat.pow_succ, Nat.mul_comm, ← Nat.div_div_eq_div_mul]
        exact hs
      · cases j with
        | zero => simp; omega
        | succ j =>
          rw [Nat.pow_succ, Nat.mul_comm, ← Nat.div_div_eq_div_mul]
          exact hs2 j (by omega)

/-- Whether N passes the strong test with the base A. -/
def strongP (N A : Nat) : Prop := ∃ s, IsTz (N - 1) s ∧ (A ^ ((N - 1) / 2 ^ s) % N = 1 ∨ ∃ i, i < s ∧ (A ^ ((N - 1) / 2 ^ s)) ^ 2 ^ i % N = N - 1)

/-- What Strong answers beside it. -/
def strE (N A : Nat) : Nat := if oddE N ≠ 0 then oddE N else if A < 2 ∨ N - 1 ≤ A then 1 else 0

theorem oddE_ok {X : Nat} (h : oddE X = 0) : 3 < X ∧ X % 2 = 1 ∧ ∃ n, n ≤ 130 ∧ X < 18446744073709551616 ^ n := by
  unfold oddE at h
  split at h
  · omega
  · rename_i h1
    split at h
    · omega
    · exact ⟨by omega, by omega, wordsN X, by omega, (wordsN_le X _).1 (Nat.le_refl _)⟩

theorem sq_pow (X B i : Nat) : (B ^ 2 ^ i % X) * (B ^ 2 ^ i % X) % X = B ^ 2 ^ (i + 1) % X := by
  rw [← Nat.mul_mod, ← Nat.pow_add]
  congr 2
  rw [Nat.pow_succ]
  omega

set_option maxRecDepth 20000 in
set_option maxHeartbeats 2000000 in
/-- Strong. -/
theorem r16Strong (ao bo : Option Addr) (L M cap dap : Nat) (xs ys : List Nat) (E : Nat) (R : Bool) (hE : E = strE (val 18446744073709551616 xs) (val 18446744073709551616 ys)) (hR : R = true ↔ E = 0 ∧ strongP (val 18446744073709551616 xs) (val 18446744073709551616 ys)) (w : World)
    (hu : Row .u64 w (.slice ao L cap) xs) (hv : Row .u64 w (.slice bo M dap) ys) (hdx : Digs 18446744073709551616 xs) (hdy : Digs 18446744073709551616 ys) (hLb : L ≤ 1000000) (hMb : M ≤ 1000000) :
    Calls Tryz.prog 26 #[.slice ao L cap, .slice bo M dap] w fun e w' => e = .returned (.tuple #[.bool R, .int .i64 (E : Int)]) ∧ Kept Nought w w' := by
  obtain ⟨_, _, _, e1, hL, _, _, _, _⟩ := hu.open
  cases e1
  obtain ⟨_, _, _, e1, hM, _, _, _, _⟩ := hv.open
  cases e1
  have hO := r16odd ao L cap xs _ rfl w hu hdx hLb
  have JX : Hid (∀ W, Kept Nought w W → Calls Tryz.prog 21 #[.slice ao L cap] W fun r w' => ∃ v', r = .returned v' ∧ IsBig w' v' (val 18446744073709551616 xs) ∧ (∀ b, v'.ownBlock = some b → W.heap.size ≤ b) ∧ Kept Nought W w') := fun W k => rOf _ xs W (hu.grew k) hdx (by rw [hL.out]; omega)
  have JY : Hid (∀ W, Kept Nought w W → Calls Tryz.prog 21 #[.slice bo M dap] W fun r w' => ∃ v', r = .returned v' ∧ IsBig w' v' (val 18446744073709551616 ys) ∧ (∀ b, v'.ownBlock = some b → W.heap.size ≤ b) ∧ Kept Nought W w') := fun W k => rOf _ ys W (hv.grew k) hdy (by rw [hM.out]; omega)
  have HE := toHid hE
  have HR := toHid hR
  clear hu hv hdx hdy hLb hMb hL hM hE hR
  generalize val 18446744073709551616 xs = X at *
  generalize val 18446744073709551616 ys = A at *
  have HF : Hid (E ≠ 0 → R = false) := fun h => by
    cases h2 : R with
    | false => rfl
    | true => exact absurd (HR.out.1 h2).1 h
  obtain ⟨O, hOe⟩ : ∃ O, O = oddE X := ⟨_, rfl⟩
  rw [← hOe] at hO
  have HO := toHid hOe
  clear hOe
  go_enter Tryz.func26, Tryz.ntmps26
  go_wp2_with fail
  refine hO.mono ?_
  rintro e w1 ⟨rfl, k1⟩
  clear hO
  by_cases hO0 : O = 0
  · subst hO0
    obtain ⟨hX3, hX2, nw, hnw, hXb⟩ := oddE_ok HO.out.symm
    have hdl : dlen X ≤ 260 := by
      have : dlen X ≤ 2 * nw := (dlen_le _ _).2 (by rw [Nat.pow_mul]; exact hXb)
      omega
    have hE2 : Hid (E = if A < 2 ∨ X - 1 ≤ A then 1 else 0) := by
      unfold Hid
      rw [HE.out, strE, ← HO.out]
      simp
    obtain ⟨s, hs, hsb⟩ := tz_ex (64 * nw) (X - 1) (by omega) (by rw [Nat.pow_mul]; exact Nat.lt_of_le_of_lt (Nat.sub_le _ _) hXb)
    have HSZ := toHid hs
    have hsm : s ≤ 10000 := by omega
    clear hXb hsb hnw hs
    have h1 := JX.out _ k1
    go_wp2_with fail
    refine h1.mono ?_
    rintro e w2 ⟨v2, rfl, hb2, _, k2⟩
    have K2 := k1.trans k2
    have h2 := JY.out _ K2
    clear h1 k1 k2
    go_wp2_with fail
    refine h2.mono ?_
    rintro e w3 ⟨v3, rfl, hb3, _, k3⟩
    have K3 := K2.trans k3
    have bX := hb2.grew k3
    have h3 := rSmall 1 (by omega) w3
    clear h2 hb2 k3 K2
    go_wp2_with fail
    refine h3.mono ?_
    rintro e w4 ⟨v4, rfl, hb4, _, k4⟩
    have K4 := K3.trans k4
    have bX4 := bX.grew k4
    have bA4 := hb3.grew k4
    have h4 := rSub v2 v4 X 1 w4 bX4 hb4 (by omega)
    clear h3 bX hb3 hb4 k4 K3
    go_wp2_with fail
    refine h4.mono ?_
    rintro e w5 ⟨v5, rfl, hb5, _, k5⟩
    have K5 := K4.trans k5
    have bX5 := bX4.grew k5
    have bA5 := bA4.grew k5
    have h5 := rSmall 2 (by omega) w5
    clear h4 bX4 bA4 k5 K4
    go_wp2_with fail
    refine h5.mono ?_
    rintro e w6 ⟨v6, rfl, hb6, _, k6⟩
    have K6 := K5.trans k6
    have bX6 := bX5.grew k6
    have bA6 := bA5.grew k6
    have bL6 := hb5.grew k6
    have h6 := rCmp v3 v6 A 2 w6 bA6 hb6
    clear h5 bX5 bA5 hb5 hb6 k6 K5
    by_cases hA2 : A < 2
    · have HT : Hid (E = 1) := by unfold Hid; rw [hE2.out, if_pos (.inl hA2)]
      have HRf : Hid (R = false) := HF.out (by rw [HT.out]; omega)
      rw [cmpN_lt hA2] at h6
      go_wp2_with fail
      refine h6.mono ?_
      rintro e w7 ⟨rfl, m7, rfl⟩
      go_wp2_with fail
      go_ret2
      exact ⟨by rw [HT.out, HRf.out]; rfl, K6.drewN m7⟩
    have hc6 := cmpN_nn (show 2 ≤ A by omega)
    generalize cmpN A 2 = c6 at *
    go_wp2_with fail
    refine h6.mono ?_
    rintro e w7' ⟨rfl, m7, rfl⟩
    have kd := (Kept.refl Nought w6).drewN m7
    obtain ⟨w7, hw7⟩ : ∃ w7, w7 = w6.drewN m7 := ⟨_, rfl⟩
    rw [← hw7] at kd ⊢
    have K7 := K6.trans kd
    have bX7 := bX6.grew kd
    have bA7 := bA6.grew kd
    have bL7 := bL6.grew kd
    have h7 := rCmp v3 v5 A (X - 1) w7 bA7 bL7
    clear h6 bX6 bA6 bL6 kd K6 hw7
    by_cases hAX : X - 1 ≤ A
    · have HT : Hid (E = 1) := by unfold Hid; rw [hE2.out, if_pos (.inr hAX)]
      have HRf : Hid (R = false) := HF.out (by rw [HT.out]; omega)
      have hc7 := cmpN_nn hAX
      have hc7' : 0 ≤ cmpN A (X - 1) := by omega
      generalize cmpN A (X - 1) = c7 at *
      go_wp2_with fail
      refine h7.mono ?_
      rintro e w8 ⟨rfl, m8, rfl⟩
      go_wp2_with fail
      go_ret2
      exact ⟨by rw [HT.out, HRf.out]; rfl, K7.drewN m8⟩
    rw [cmpN_lt (show A < X - 1 by omega)] at h7
    have HE0 : Hid (E = 0) := by unfold Hid; rw [hE2.out, if_neg (by omega)]
    go_wp2_with fail
    refine h7.mono ?_
    rintro e w8' ⟨rfl, m8, rfl⟩
    have kd := (Kept.refl Nought w7).drewN m8
    obtain ⟨w8, hw8⟩ : ∃ w8, w8 = w7.drewN m8 := ⟨_, rfl⟩
    rw [← hw8] at kd ⊢
    have K8 := K7.trans kd
    have HX8 := toHid (bX7.grew kd)
    have HA8 := toHid (bA7.grew kd)
    have HL8 := toHid (bL7.grew kd)
    have HK8 := toHid K8
    clear h7 bX7 bA7 bL7 kd K7 hw8 K8
    go_wp2_with fail
    go_loopw [10] (fun sv wr => wr = w8 ∧ ∃ t : Nat, t ≤ s ∧ sv = .int .i64 (t : Int)) (fun sv _ => s - (intOf sv).toNat)
    case atStart => exact ⟨rfl, 0, Nat.zero_le _, rfl⟩
    case round =>
      obtain ⟨rfl, t, ht, rfl⟩ := hrel
      have hB := rBit v5 (X - 1) (t : Int) wr HL8.out (by omega)
      rw [bitN_nat] at hB
      by_cases hts : t < s
      · rw [HSZ.out.2 t hts] at hB
        go_wp2_with fail
        refine hB.mono ?_
        rintro e w9 ⟨rfl, rfl⟩
        go_wp2_with fail
        go_roundw
        case rel => exact ⟨trivial, t + 1, by omega, by go_num⟩
        case measure => simp [intOf]; omega
      · obtain rfl : t = s := by omega
        rw [HSZ.out.1] at hB
        go_wp2_with fail
        refine hB.mono ?_
        rintro e w9 ⟨rfl, rfl⟩
        have h9 := rShr v5 (X - 1) t w9 HL8.out (by omega)
        clear hB
        go_wp2_with fail
        refine h9.mono ?_
        rintro e w10 ⟨v10, rfl, hb10, _, k10⟩
        have hA10 := HA8.out.grew k10
        have hX10 := HX8.out.grew k10
        have hL10 := HL8.out.grew k10
        have K10 := HK8.out.trans k10
        obtain ⟨D, hD⟩ : ∃ D, D = (X - 1) / 2 ^ t := ⟨_, rfl⟩
        rw [← hD] at hb10
        have HDD := toHid hD
        have h10 := rExpMod v3 v10 v2 A D X w10 hA10 hb10 hX10 (by omega) (by have := dlen_mono (show A ≤ X by omega); omega) (by omega)
        clear h9 k10 hb10 hA10 hD
        go_wp2_with fail
        refine h10.mono ?_
        rintro e w11 ⟨v11, rfl, hb11, _, k11⟩
        have HX11 := toHid (hX10.grew k11)
        have HL11 := toHid (hL10.grew k11)
        have HK11 := toHid (K10.trans k11)
        have h11 := rSmall 1 (by omega) w11
        clear h10 k11 hX10 hL10 K10
        go_wp2_with fail
        refine h11.mono ?_
        rintro e w12 ⟨v12, rfl, hb12, _, k12⟩
        have hb11' := hb11.grew k12
        have h12 := rCmp v11 v12 _ 1 w12 hb11' hb12
        have K12 := HK11.out.trans k12
        clear h11 hb11 hb12
        by_cases h1 : A ^ D % X = 1
        · have HT : Hid (R = true) := HR.out.2 ⟨HE0.out, t, HSZ.out, .inl (by rw [← HDD.out]; exact h1)⟩
          rw [cmpN_eq h1] at h12
          go_wp2_with fail
          refine h12.mono ?_
          rintro e w13 ⟨rfl, m13, rfl⟩
          go_wp2_with fail
          go_ret2
          exact ⟨by rw [HE0.out, HT.out]; rfl, K12.drewN m13⟩
        · have hc12 := cmpNne h1
          have HN1 := toHid h1
          generalize cmpN (A ^ D % X) 1 = c12 at *
          go_wp2_with fail
          refine h12.mono ?_
          rintro e w13' ⟨rfl, m13, rfl⟩
          have kd := k12.trans ((Kept.refl Nought w12).drewN m13)
          obtain ⟨w13, hw13⟩ : ∃ w13, w13 = w12.drewN m13 := ⟨_, rfl⟩
          have hb13 := hb11'.grew ((Kept.refl Nought w12).drewN m13)
          rw [← hw13] at kd hb13 ⊢
          have HX13 := toHid (HX11.out.grew kd)
          have HL13 := toHid (HL11.out.grew kd)
          have HK13 := toHid (HK11.out.trans kd)
          have HB13 := toHid hb13
          clear h12 kd hw13 hb11' K12 k12 hb13 HX11 HL11 HK11
          go_wp2_with fail
          rw [show (c12 == 0) = false by simpa using hc12]
          go_loopw [11, 12] (fun xv iv wr => ∃ i : Nat, i ≤ t ∧ iv = .int .i64 (i : Int) ∧ Hid (IsBig wr xv ((A ^ D) ^ 2 ^ i % X)) ∧ Hid (∀ j, j < i → (A ^ D) ^ 2 ^ j % X ≠ X - 1) ∧ Hid (Kept Nought w13 wr)) (fun _ iv _ => t - (intOf iv).toNat)
          case atStart => exact ⟨0, Nat.zero_le _, rfl, by unfold Hid; rw [Nat.pow_zero, Nat.pow_one]; exact HB13.out, fun j hj => by omega, Kept.refl _ _⟩
          case round =>
            obtain ⟨i, hi, rfl, hxi, hall, hki⟩ := hrel
            by_cases hit : i < t
            · have g1 : (i : Int) < (t : Int) := by omega
              have h14 := rCmp u11 v5 _ (X - 1) wr hxi.out (HL13.out.grew hki.out)
              by_cases heq : (A ^ D) ^ 2 ^ i % X = X - 1
              · have HT : Hid (R = true) := HR.out.2 ⟨HE0.out, t, HSZ.out, .inr ⟨i, hit, by rw [← HDD.out]; exact heq⟩⟩
                rw [cmpN_eq heq] at h14
                go_wp2_with fail
                refine h14.mono ?_
                rintro e w15 ⟨rfl, m15, rfl⟩
                go_wp2_with fail
                go_ret2
                exact ⟨by rw [HE0.out, HT.out]; rfl, (HK13.out.trans hki.out).drewN m15⟩
              · have hc14 := cmpNne heq
                have HA : Hid (∀ j, j < i + 1 → (A ^ D) ^ 2 ^ j % X ≠ X - 1) := fun j hj => by
                  by_cases e : j = i
                  · subst e; exact heq
                  · exact hall.out j (by omega)
                have HSQ := toHid (sq_pow X (A ^ D) i)
                have hlt : (A ^ D) ^ 2 ^ i % X < X := Nat.mod_lt _ (by omega)
                generalize (A ^ D) ^ 2 ^ i % X = Y at *
                have hdm : dlen (Y * Y) ≤ 10000000 := by
                  have h1 : dlen (Y * Y) ≤ dlen (X * X) := dlen_mono (Nat.mul_le_mul (by omega) (by omega))
                  have h2 : X * X < 4294967296 ^ (dlen X + dlen X) := by
                    rw [Nat.pow_add]
                    exact Nat.mul_lt_mul'' ((dlen_le _ _).1 (Nat.le_refl _)) ((dlen_le _ _).1 (Nat.le_refl _))
                  have h3 := (dlen_le _ _).2 h2
                  omega
                have hdy : dlen Y ≤ 260 := by have := dlen_mono (show Y ≤ X by omega); omega
                generalize cmpN Y (X - 1) = c14 at *
                go_wp2_with fail
                refine h14.mono ?_
                rintro e w15' ⟨rfl, m15, rfl⟩
                have kd := (Kept.refl Nought wr).drewN m15
                obtain ⟨w15, hw15⟩ : ∃ w15, w15 = wr.drewN m15 := ⟨_, rfl⟩
                rw [← hw15] at kd ⊢
                have h15 := rMulMod u11 u11 v2 Y Y X w15 (hxi.out.grew kd) (hxi.out.grew kd) (HX13.out.grew (hki.out.trans kd)) (by omega) (by omega) (by omega) hdm
                clear h14 hw15
                go_wp2_with fail
                refine h15.mono ?_
                rintro e w16 ⟨v16, rfl, hb16, _, k16⟩
                have HB16 := toHid hb16
                have HK16 := toHid (hki.out.trans (kd.trans k16))
                clear h15 hb16 kd k16
                go_wp2_with fail
                go_roundw
                case rel => exact ⟨i + 1, by omega, by go_num, by unfold Hid; rw [← HSQ.out]; exact HB16.out, HA, HK16⟩
                case measure => simp [intOf]; omega
            · have g1 : ¬ (i : Int) < (t : Int) := by omega
              obtain rfl : i = t := by omega
              have HT : Hid (R = false) := by
                unfold Hid
                cases h2 : R with
                | false => rfl
                | true =>
                  obtain ⟨_, s2, hs2, hor⟩ := HR.out.1 h2
                  obtain rfl := hs2.uniq HSZ.out
                  rw [← HDD.out] at hor
                  rcases hor with h | ⟨j, hj, h⟩
                  · exact absurd h HN1.out
                  · exact absurd h (hall.out j hj)
              go_wp2_with fail
              go_ret2
              exact ⟨by rw [HE0.out, HT.out]; rfl, HK13.out.trans hki.out⟩
  · have HT : Hid (E = O) := by
      unfold Hid
      rw [HE.out, strE, ← HO.out, if_pos hO0]
    have HRf : Hid (R = false) := HF.out (by rw [HT.out]; exact hO0)
    have g0 : ¬ (O : Int) = 0 := by omega
    go_wp2_with fail
    go_ret2
    exact ⟨by rw [HT.out, HRf.out]; rfl, k1⟩

end Go.Proofs.YtgcbbadakfdcgaaGreatDoor


/- The strong test of layer 17, as it is reckoned. -/
namespace Go.Proofs.YtgcbbadakfdcgaaGreatDoor
open Go.RowKit

/-- How many noughts a number has at its low end, as bits. -/
def tzN : Nat → Nat → Nat
  | 0, _ => 0
  | f + 1, M => if M % 2 = 1 then 0 else tzN f (M / 2) + 1

theorem tzN_is : ∀ (f M : Nat), 0 < M → M < 2 ^ f → IsTz M (tzN f M)
  | 0, M, h, g => by simp at g; omega
  | f + 1, M, h, g => by
    unfold tzN
    by_cases h1 : M % 2 = 1
    · rw [if_pos h1]
      exact ⟨by simpa using h1, fun j hj => by omega⟩
    · rw [if_neg h1]
      obtain ⟨hs, hs2⟩ := tzN_is f (M / 2) (by omega) (by rw [Nat.pow_succ] at g; omega)
      refine ⟨?_, fun j hj => ?_⟩
      · rw [Nat.pow_succ, Nat.mul_comm, ← Nat.div_div_eq_div_mul]
        exact hs
      · cases j with
        | zero => simp; omega
        | succ j =>
          rw [Nat.pow_succ, Nat.mul_comm, ← Nat.div_div_eq_div_mul]
          exact hs2 j (by omega)

/-- The strong test, as it is reckoned. -/
def strongB (N A : Nat) : Bool := decide (0 < N - 1) && (decide (A ^ ((N - 1) / 2 ^ tzN (N - 1) (N - 1)) % N = 1) || (List.range (tzN (N - 1) (N - 1))).any fun i => decide ((A ^ ((N - 1) / 2 ^ tzN (N - 1) (N - 1))) ^ 2 ^ i % N = N - 1))

theorem strongB_iff (N A : Nat) : strongB N A = true ↔ strongP N A := by
  unfold strongB strongP
  rw [Bool.and_eq_true, decide_eq_true_iff, Bool.or_eq_true, decide_eq_true_iff, List.any_eq_true]
  constructor
  · rintro ⟨h0, h⟩
    refine ⟨_, tzN_is (N - 1) (N - 1) h0 Nat.lt_two_pow_self, ?_⟩
    rcases h with h | ⟨i, hi, h⟩
    · exact .inl h
    · exact .inr ⟨i, List.mem_range.1 hi, of_decide_eq_true h⟩
  · rintro ⟨s, hs, h⟩
    have h0 : 0 < N - 1 := by
      rcases Nat.eq_zero_or_pos (N - 1) with e | e
      · have := hs.1
        rw [e] at this
        simp at this
      · exact e
    obtain rfl := hs.uniq (tzN_is (N - 1) (N - 1) h0 Nat.lt_two_pow_self)
    refine ⟨h0, ?_⟩
    rcases h with h | ⟨i, hi, h⟩
    · exact .inl h
    · exact .inr ⟨i, List.mem_range.2 hi, decide_eq_true h⟩

end Go.Proofs.YtgcbbadakfdcgaaGreatDoor


/- Melted of: LimF LimG. -/

/- Package limbs: Select: what it answers and writes down, for any numbers. -/
namespace Go.Proofs.YtgcbbadakfdcgaaGreatDoor
open Go.RowKit

end Go.Proofs.YtgcbbadakfdcgaaGreatDoor

/- Package limbs: Left: what it answers and writes down, for any number. -/
namespace Go.Proofs.YtgcbbadakfdcgaaGreatDoor
open Go.RowKit

theorem shl_or (x c : Nat) (hc : c ≤ 1) : bits .or .u64 (((2 * x) % 18446744073709551616 : Nat) : Int) (c : Int) = (((2 * x) % 18446744073709551616 + c : Nat) : Int) := by
  rw [u64_or_nat _ _ (by omega) (by omega)]
  congr 1
  have h0 : c = 0 ∨ c = 1 := by omega
  rcases h0 with rfl | rfl
  · rw [Nat.or_zero, Nat.add_zero]
  · have e : (2 * x) % 18446744073709551616 = 2 ^ 1 * (x % 9223372036854775808) := by omega
    rw [e, ← Nat.two_pow_add_eq_or_of_lt (by omega : 1 < 2 ^ 1)]

theorem left_step {X k c z c' t : Nat} {os : List Nat} (hl : os.length = k) (h : val 18446744073709551616 os + 18446744073709551616 ^ k * c = 2 * (X % 18446744073709551616 ^ k) + t) (hz : z + 18446744073709551616 * c' = 2 * dig 18446744073709551616 X k + c) :
    val 18446744073709551616 (os ++ [z]) + 18446744073709551616 ^ (k + 1) * c' = 2 * (X % 18446744073709551616 ^ (k + 1)) + t := by
  rw [val_snoc, hl, mod_succ, Nat.pow_succ, Nat.mul_assoc]
  have e : 18446744073709551616 ^ k * (z + 18446744073709551616 * c') = 18446744073709551616 ^ k * (2 * dig 18446744073709551616 X k + c) := by rw [hz]
  rw [Nat.mul_add, Nat.mul_add, Nat.mul_left_comm (18446744073709551616 ^ k) 2] at e
  omega

theorem left_end {n X c t : Nat} {os : List Nat} (hl : os.length = n) (hd : Digs 18446744073709551616 os) (hX : X < 18446744073709551616 ^ n) (h : val 18446744073709551616 os + 18446744073709551616 ^ n * c = 2 * (X % 18446744073709551616 ^ n) + t) :
    os = digs 18446744073709551616 (2 * X + t) n ∧ c = (2 * X + t) / 18446744073709551616 ^ n := by
  have hv := val_lt (by omega) hd
  rw [hl] at hv
  rw [Nat.mod_eq_of_lt hX] at h
  have hp : 0 < 18446744073709551616 ^ n := Nat.pow_pos (by omega)
  rw [← h]
  refine ⟨digs_val (by omega) hd hl ?_, ?_⟩
  · rw [Nat.add_mul_mod_self_left, Nat.mod_eq_of_lt hv]
  · rw [Nat.add_mul_div_left _ _ hp, Nat.div_eq_of_lt hv, Nat.zero_add]

theorem digs_val_self {xs : List Nat} (hd : Digs 18446744073709551616 xs) : digs 18446744073709551616 (val 18446744073709551616 xs) xs.length = xs :=
  (digs_val (by omega) hd rfl (Nat.mod_eq_of_lt (val_lt (by omega) hd)).symm).symm

set_option maxRecDepth 20000 in
set_option maxHeartbeats 2000000 in
/-- Left. -/
theorem lLeft (o : Tr) (u : Value) (xs : List Nat) (bit : Nat) (hbit : bit < 18446744073709551616) (w : World) (ht : TrRoom w o 1) (hu : RowT w o u xs) (hdx : Digs 18446744073709551616 xs) (hL : xs.length ≤ 100000000) :
    Calls Tryz.prog 130 #[trPtr o, u, .int .u64 (bit : Nat)] w fun e w' => ∃ v', e = .returned (.tuple #[v', .int .u64 ((2 * val 18446744073709551616 xs + bit % 2) / 18446744073709551616 ^ xs.length : Nat)]) ∧
      OwnN .u64 43 w' w.heap.size v' xs.length (digs 18446744073709551616 (2 * val 18446744073709551616 xs + bit % 2) xs.length) ∧ ∃ o', Did w o [(1, (xs.length : Nat), 0)] w' o' := by
  obtain ⟨i0, hi0, hz0, hz1, hz2⟩ := info_parts Tryz.info43
  have hand := and_one_u64 (bit : Int) (by omega) (by omega)
  obtain ⟨bt, hbt⟩ : ∃ bt, bt = bit % 2 := ⟨_, rfl⟩
  rw [show (bit : Int) % 2 = (bt : Int) by omega] at hand
  rw [← hbt]
  have hb1 : bt ≤ 1 := by omega
  clear hbt
  have hself := toHid (digs_val_self hdx)
  have hX : Hid (val 18446744073709551616 xs < 18446744073709551616 ^ xs.length) := val_lt_le hdx (Nat.le_refl _)
  obtain ⟨ao, n, cap, rfl, hLx, _, _, _, _⟩ := hu.1.open
  have hnb : n ≤ 100000000 := by rw [← hLx.out]; exact hL
  rw [hLx.out] at hX hself ⊢
  have HU : Hid (RowT w o (.slice ao n cap) xs) := hu
  have HT : Hid (TrRoom w o 1) := ht
  have hS := tSpanDid o n w ht.1
  obtain ⟨tp, htp⟩ : ∃ tp, tp = trPtr o := ⟨_, rfl⟩
  rw [← htp] at hS ⊢
  clear hu ht hLx hdx htp hL
  generalize val 18446744073709551616 xs = X at *
  obtain ⟨C, hC⟩ : ∃ C, C = (2 * X + bt) / 18446744073709551616 ^ n := ⟨_, rfl⟩
  rw [← hC]
  have HC := toHid hC
  clear hC
  go_enter Tryz.func130, Tryz.ntmps130
  go_wp2_with fail
  refine hS.mono ?_
  rintro e w4 ⟨rfl, o2, d2⟩
  have d4 := toHid d2
  have hr1 := HU.out.did d2
  obtain ⟨a1, n1, c1, e1, hN1, _, _, _, hn1⟩ := hr1.1.open
  simp only [Value.slice.injEq] at e1
  obtain ⟨rfl, rfl, rfl⟩ := e1
  have hw4 : Hid (w.heap.size ≤ w4.heap.size) := d2.size
  rw [← hself.out] at hn1
  clear hS d2 hr1 hN1
  go_wp2_with (at_make; refine wpList_make_full _ rfl _ _ 24 rfl w4.heap.size 43 i0 _ 1 Tryz.underlying24 hi0 hz0 hz1 _ _ _ _ n rfl rfl rfl rfl (by rw [hz2]; omega) (by unfold maxLen; omega) (Nat.le_refl _) ?_; intro w5 ho5 hg5)
  rw [zeros_map] at ho5
  have k5 := grown_kept hg5
  clear hg5
  go_loopw [10, 22] (fun c i wr => ∃ (k c' : Nat) (os : List Nat), k ≤ n ∧ c' ≤ 1 ∧ i = .int .i64 (k : Int) ∧ c = .int .u64 (c' : Int) ∧ Hid (os.length = k) ∧ Digs 18446744073709551616 os ∧ OwnN .u64 43 wr w4.heap.size (.slice (some ⟨w4.heap.size, 0, none⟩) n n) n (os ++ List.replicate (n - k) 0) ∧ Kept Nought w4 wr ∧
      Hid (val 18446744073709551616 os + 18446744073709551616 ^ k * c' = 2 * (X % 18446744073709551616 ^ k) + bt)) (fun _ i _ => n - (intOf i).toNat)
  case atStart => exact ⟨0, bt, [], Nat.zero_le _, hb1, rfl, rfl, rfl, Digs.nil _, by rw [List.nil_append, Nat.sub_zero]; exact ho5, k5, by unfold Hid; simp [val, Nat.mod_one]⟩
  case round =>
    obtain ⟨k, c, os, hk, hc, rfl, rfl, HL, hod, ho, hkp, HV2⟩ := hrel
    by_cases hkn : k < n
    · have hk0 : (0 : Int) ≤ (k : Int) := Int.natCast_nonneg _
      have hk1 : (k : Int) < (n : Int) := by omega
      obtain ⟨b1, off1, rfl, hc1⟩ := digs_at ((hn1 k hkn).grew hkp) hkn
      have hc0 := fill_cell ho HL.out hkn
      have hf := World.ownsRow.frozenAt ho k
      have hst := fun u => (World.ownsRow.stored ho k u).1
      have hx : dig 18446744073709551616 X k < 18446744073709551616 := Nat.mod_lt _ (by omega)
      have HS : Hid (∀ z c', z + 18446744073709551616 * c' = 2 * dig 18446744073709551616 X k + c → val 18446744073709551616 (os ++ [z]) + 18446744073709551616 ^ (k + 1) * c' = 2 * (X % 18446744073709551616 ^ (k + 1)) + bt) := fun z c' h => left_step HL.out HV2.out h
      have HST : Hid (∀ u : Nat, OwnN .u64 43 (wr.setCell ⟨w4.heap.size, k, none⟩ (.int .u64 (u : Int))) w4.heap.size (.slice (some ⟨w4.heap.size, 0, none⟩) n n) n ((os ++ [u]) ++ List.replicate (n - (k + 1)) 0)) := fun u => by
        have := hst (.int .u64 (u : Int))
        unfold OwnN
        rw [← set_snoc os n k u HL.out hkn, List.map_set]
        exact this
      clear hn1 HV2 hst ho5 k5
      generalize dig 18446744073709551616 X k = x at *
      obtain ⟨z, hz⟩ : ∃ z : Nat, z = (2 * x) % 18446744073709551616 + c := ⟨_, rfl⟩
      have HOR : Hid (bits .or .u64 (IntKind.u64.wrap ((x : Int) * 2)) (c : Int) = (z : Int)) := by
        unfold Hid
        rw [IntKind.wrap_u64, show ((x : Int) * 2) % 18446744073709551616 = (((2 * x) % 18446744073709551616 : Nat) : Int) by omega, shl_or x c hc, hz]
      have HZ := toHid hz
      clear hz
      go_wp2_with fail
      go_region
      all_goals
        go_wp2_with fail
        rw [HOR.out]
        have hz := HZ.out
        go_roundw
        case rel => exact ⟨k + 1, x / 9223372036854775808, os ++ [z], by omega, by omega, by go_num, rfl, by unfold Hid; rw [List.length_append, HL.out]; rfl, hod.append (Digs.one (by omega)), HST.out _, (hkp.setCell _ (fun h => by simp at h) _).drew, HS.out _ _ (by omega)⟩
        case measure => simp [intOf]; omega
    · have hk1 : ¬ (k : Int) < (n : Int) := by omega
      have e : k = n := by omega
      subst e
      rw [Nat.sub_self, List.replicate_zero, List.append_nil] at ho
      obtain ⟨e1, e2⟩ := left_end HL.out hod hX.out HV2.out
      have E1 := toHid e1
      have E2 := toHid (HC.out.trans e2.symm)
      clear e1 e2 hn1 HV2 ho5 k5
      go_wp2_with fail
      go_ret2
      rw [← E1.out, E2.out]
      exact ⟨_, rfl, own_base ho (fun b hb => Nat.le_trans hw4.out (ho.lt b hb).1), o2, d4.out.grew hkp⟩

end Go.Proofs.YtgcbbadakfdcgaaGreatDoor


/- What word.Inverse answers, for any word. -/
namespace Go.Proofs.YtgcbbadakfdcgaaGreatDoor
open Go.RowKit

theorem and_mskI (x a : Int) (x0 : 0 ≤ x) (x1 : x < 18446744073709551616) : bits .and .u64 x (msk a) = if a % 2 = 1 then x else 0 := by
  obtain ⟨X, rfl⟩ := Int.eq_ofNat_of_zero_le x0
  unfold msk
  have : a % 2 = 0 ∨ a % 2 = 1 := by omega
  rcases this with h | h
  · rw [h, if_neg (by decide)]
    have e := u64_and_nat X 0 (by omega) (by omega)
    rw [Nat.and_zero] at e
    exact e
  · rw [h, if_pos rfl]
    have e := u64_and_nat X 18446744073709551615 (by omega) (by omega)
    rw [show (18446744073709551615 : Nat) = 2 ^ 64 - 1 from rfl, Nat.and_two_pow_sub_one_of_lt_two_pow (by omega)] at e
    exact e

set_option maxHeartbeats 1000000 in
/-- word.Inverse. -/
theorem wInverse (a : Int) (a0 : 0 ≤ a) (a1 : a < 18446744073709551616) (w : World) :
    Calls Tryz.prog 86 #[.int .u64 a] w fun e w' => (∃ x, e = .returned (.int .u64 x) ∧ isInv a x) ∧ w' = w := by
  go_enter Tryz.func86, Tryz.ntmps86
  go_wp2_with (fail)
  go_loop [3, 5] (fun x i => ∃ (X : Int) (k : Nat), k ≤ 5 ∧ x = .int .u64 X ∧ i = .int .i64 (k : Int) ∧ 0 ≤ X ∧ X < 18446744073709551616 ∧ Hid (a % 2 = 1 → (2 : Int) ^ (min 64 (3 * 2 ^ k)) ∣ 1 - a * X)) (fun _ i => (5 - intOf i).toNat)
  case atStart => exact ⟨a, 0, by omega, rfl, rfl, a0, a1, inv_start a⟩
  case round =>
    obtain ⟨X, k, hk, rfl, rfl, X0, X1, HX⟩ := hrel
    by_cases hp : k < 5
    · go_wp2_with (fail)
      go_round
      case rel =>
        refine ⟨_, k + 1, by omega, rfl, by go_num, ?_, ?_, ?_⟩
        · rw [IntKind.wrap_u64]; omega
        · rw [IntKind.wrap_u64]; omega
        · intro h
          have h1 := HX.out h
          simp only [IntKind.wrap_u64]
          exact inv_step a X _ _ h1 (wrap_step a X) _ (by rw [Nat.pow_succ]; omega) (by omega)
      case measure => simp [intOf]; omega
    · obtain rfl : k = 5 := by omega
      obtain ⟨Y, hY, hi⟩ : ∃ Y, bits .and .u64 X (msk a) = Y ∧ isInv a Y := by
        refine ⟨_, and_mskI X a X0 X1, ?_⟩
        have : a % 2 = 0 ∨ a % 2 = 1 := by omega
        rcases this with h | h
        · rw [if_neg (by omega)]
          exact ⟨by omega, by omega, by omega, fun _ => rfl⟩
        · rw [if_pos h]
          exact ⟨X0, X1, HX.out, by omega⟩
      have HI : Hid (isInv a Y) := hi
      clear hi
      go_wp2_with (go_at_call 89; refine (wMask a a0 a1 _).mono ?_; rintro e w' ⟨rfl, rfl⟩)
      go_ret
      exact ⟨⟨Y, rfl, HI.out⟩, rfl⟩

end Go.Proofs.YtgcbbadakfdcgaaGreatDoor

