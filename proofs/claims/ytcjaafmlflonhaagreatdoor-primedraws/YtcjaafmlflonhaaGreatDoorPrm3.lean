/- The plain side of layer 17 (package sconceref16): Strong. -/
import Derived.Test.YtcjaafmlflonhaaGreatDoorPrm2
namespace Go.Proofs.YtcjaafmlflonhaaGreatDoor
open Go.RowKit

/-- M has just s noughts at its low end, as bits. -/
def IsTz (M s : Nat) : Prop := M / 2 ^ s % 2 = 1 ∧ ∀ j, j < s → M / 2 ^ j % 2 = 0

theorem IsTz.uniq {M s t : Nat} (h : IsTz M s) (g : IsTz M t) : s = t := by
  rcases Nat.lt_trichotomy s t with h1 | h1 | h1
  · have := g.2 s h1
    have := h.1
    omega
  · exact h1
  · have := h.2 t h1
    have := g.1
    omega

theorem tz_ex : ∀ (n M : Nat), 0 < M → M < 2 ^ n → ∃ s, IsTz M s ∧ s < n
  | 0, M, h, g => by simp at g; omega
  | n + 1, M, h, g => by
    by_cases h1 : M % 2 = 1
    · exact ⟨0, ⟨by simpa using h1, fun j hj => by omega⟩, by omega⟩
    · have hd : 0 < M / 2 := by omega
      obtain ⟨s, ⟨hs, hs2⟩, hn⟩ := tz_ex n (M / 2) hd (by rw [Nat.pow_succ] at g; omega)
      refine ⟨s + 1, ⟨?_, fun j hj => ?_⟩, by omega⟩
      · rw [Nat.pow_succ, Nat.mul_comm, ← Nat.div_div_eq_div_mul]
        exact hs
      · cases j with
        | zero => simp; omega
        | succ j =>
          rw [Nat.pow_succ, Nat.mul_comm, ← Nat.div_div_eq_div_mul]
          exact hs2 j (by omega)

/-- Whether N passes the strong test with the base A. -/
def strongP (N A : Nat) : Prop := ∃ s, IsTz (N - 1) s ∧ (A ^ ((N - 1) / 2 ^ s) % N = 1 ∨ ∃ i, i < s ∧ (A ^ ((N - 1) / 2 ^ s)) ^ 2 ^ i % N = N - 1)

/-- What Strong answers beside it. -/
def strE (N A : Nat) : Nat := if oddE N ≠ 0 then oddE N else if A < 2 ∨ N - 1 ≤ A then 1 else 0

theorem oddE_ok {X : Nat} (h : oddE X = 0) : 3 < X ∧ X % 2 = 1 ∧ ∃ n, n ≤ 130 ∧ X < 18446744073709551616 ^ n := by
  unfold oddE at h
  split at h
  · omega
  · rename_i h1
    split at h
    · omega
    · exact ⟨by omega, by omega, wordsN X, by omega, (wordsN_le X _).1 (Nat.le_refl _)⟩

theorem sq_pow (X B i : Nat) : (B ^ 2 ^ i % X) * (B ^ 2 ^ i % X) % X = B ^ 2 ^ (i + 1) % X := by
  rw [← Nat.mul_mod, ← Nat.pow_add]
  congr 2
  rw [Nat.pow_succ]
  omega

set_option maxRecDepth 20000 in
set_option maxHeartbeats 2000000 in
/-- Strong. -/
theorem r16Strong (ao bo : Option Addr) (L M cap dap : Nat) (xs ys : List Nat) (E : Nat) (R : Bool) (hE : E = strE (val 18446744073709551616 xs) (val 18446744073709551616 ys)) (hR : R = true ↔ E = 0 ∧ strongP (val 18446744073709551616 xs) (val 18446744073709551616 ys)) (w : World)
    (hu : Row .u64 w (.slice ao L cap) xs) (hv : Row .u64 w (.slice bo M dap) ys) (hdx : Digs 18446744073709551616 xs) (hdy : Digs 18446744073709551616 ys) (hLb : L ≤ 1000000) (hMb : M ≤ 1000000) :
    Calls Tryz.prog 55 #[.slice ao L cap, .slice bo M dap] w fun e w' => e = .returned (.tuple #[.bool R, .int .i64 (E : Int)]) ∧ Kept Nought w w' := by
  obtain ⟨_, _, _, e1, hL, _, _, _, _⟩ := hu.open
  cases e1
  obtain ⟨_, _, _, e1, hM, _, _, _, _⟩ := hv.open
  cases e1
  have hO := r16odd ao L cap xs _ rfl w hu hdx hLb
  have JX : Hid (∀ W, Kept Nought w W → Calls Tryz.prog 11 #[.slice ao L cap] W fun r w' => ∃ v', r = .returned v' ∧ IsBig w' v' (val 18446744073709551616 xs) ∧ (∀ b, v'.ownBlock = some b → W.heap.size ≤ b) ∧ Kept Nought W w') := fun W k => rOf _ xs W (hu.grew k) hdx (by rw [hL.out]; omega)
  have JY : Hid (∀ W, Kept Nought w W → Calls Tryz.prog 11 #[.slice bo M dap] W fun r w' => ∃ v', r = .returned v' ∧ IsBig w' v' (val 18446744073709551616 ys) ∧ (∀ b, v'.ownBlock = some b → W.heap.size ≤ b) ∧ Kept Nought W w') := fun W k => rOf _ ys W (hv.grew k) hdy (by rw [hM.out]; omega)
  have HE := toHid hE
  have HR := toHid hR
  clear hu hv hdx hdy hLb hMb hL hM hE hR
  generalize val 18446744073709551616 xs = X at *
  generalize val 18446744073709551616 ys = A at *
  have HF : Hid (E ≠ 0 → R = false) := fun h => by
    cases h2 : R with
    | false => rfl
    | true => exact absurd (HR.out.1 h2).1 h
  obtain ⟨O, hOe⟩ : ∃ O, O = oddE X := ⟨_, rfl⟩
  rw [← hOe] at hO
  have HO := toHid hOe
  clear hOe
  go_enter Tryz.func55, Tryz.ntmps55
  go_wp2_with fail
  refine hO.mono ?_
  rintro e w1 ⟨rfl, k1⟩
  clear hO
  by_cases hO0 : O = 0
  · subst hO0
    obtain ⟨hX3, hX2, nw, hnw, hXb⟩ := oddE_ok HO.out.symm
    have hdl : dlen X ≤ 260 := by
      have : dlen X ≤ 2 * nw := (dlen_le _ _).2 (by rw [Nat.pow_mul]; exact hXb)
      omega
    have hE2 : Hid (E = if A < 2 ∨ X - 1 ≤ A then 1 else 0) := by
      unfold Hid
      rw [HE.out, strE, ← HO.out]
      simp
    obtain ⟨s, hs, hsb⟩ := tz_ex (64 * nw) (X - 1) (by omega) (by rw [Nat.pow_mul]; exact Nat.lt_of_le_of_lt (Nat.sub_le _ _) hXb)
    have HSZ := toHid hs
    have hsm : s ≤ 10000 := by omega
    clear hXb hsb hnw hs
    have h1 := JX.out _ k1
    go_wp2_with fail
    refine h1.mono ?_
    rintro e w2 ⟨v2, rfl, hb2, _, k2⟩
    have K2 := k1.trans k2
    have h2 := JY.out _ K2
    clear h1 k1 k2
    go_wp2_with fail
    refine h2.mono ?_
    rintro e w3 ⟨v3, rfl, hb3, _, k3⟩
    have K3 := K2.trans k3
    have bX := hb2.grew k3
    have h3 := rSmall 1 (by omega) w3
    clear h2 hb2 k3 K2
    go_wp2_with fail
    refine h3.mono ?_
    rintro e w4 ⟨v4, rfl, hb4, _, k4⟩
    have K4 := K3.trans k4
    have bX4 := bX.grew k4
    have bA4 := hb3.grew k4
    have h4 := rSub v2 v4 X 1 w4 bX4 hb4 (by omega)
    clear h3 bX hb3 hb4 k4 K3
    go_wp2_with fail
    refine h4.mono ?_
    rintro e w5 ⟨v5, rfl, hb5, _, k5⟩
    have K5 := K4.trans k5
    have bX5 := bX4.grew k5
    have bA5 := bA4.grew k5
    have h5 := rSmall 2 (by omega) w5
    clear h4 bX4 bA4 k5 K4
    go_wp2_with fail
    refine h5.mono ?_
    rintro e w6 ⟨v6, rfl, hb6, _, k6⟩
    have K6 := K5.trans k6
    have bX6 := bX5.grew k6
    have bA6 := bA5.grew k6
    have bL6 := hb5.grew k6
    have h6 := rCmp v3 v6 A 2 w6 bA6 hb6
    clear h5 bX5 bA5 hb5 hb6 k6 K5
    by_cases hA2 : A < 2
    · have HT : Hid (E = 1) := by unfold Hid; rw [hE2.out, if_pos (.inl hA2)]
      have HRf : Hid (R = false) := HF.out (by rw [HT.out]; omega)
      rw [cmpN_lt hA2] at h6
      go_wp2_with fail
      refine h6.mono ?_
      rintro e w7 ⟨rfl, m7, rfl⟩
      go_wp2_with fail
      go_ret2
      exact ⟨by rw [HT.out, HRf.out]; rfl, K6.drewN m7⟩
    have hc6 := cmpN_nn (show 2 ≤ A by omega)
    generalize cmpN A 2 = c6 at *
    go_wp2_with fail
    refine h6.mono ?_
    rintro e w7' ⟨rfl, m7, rfl⟩
    have kd := (Kept.refl Nought w6).drewN m7
    obtain ⟨w7, hw7⟩ : ∃ w7, w7 = w6.drewN m7 := ⟨_, rfl⟩
    rw [← hw7] at kd ⊢
    have K7 := K6.trans kd
    have bX7 := bX6.grew kd
    have bA7 := bA6.grew kd
    have bL7 := bL6.grew kd
    have h7 := rCmp v3 v5 A (X - 1) w7 bA7 bL7
    clear h6 bX6 bA6 bL6 kd K6 hw7
    by_cases hAX : X - 1 ≤ A
    · have HT : Hid (E = 1) := by unfold Hid; rw [hE2.out, if_pos (.inr hAX)]
      have HRf : Hid (R = false) := HF.out (by rw [HT.out]; omega)
      have hc7 := cmpN_nn hAX
      have hc7' : 0 ≤ cmpN A (X - 1) := by omega
      generalize cmpN A (X - 1) = c7 at *
      go_wp2_with fail
      refine h7.mono ?_
      rintro e w8 ⟨rfl, m8, rfl⟩
      go_wp2_with fail
      go_ret2
      exact ⟨by rw [HT.out, HRf.out]; rfl, K7.drewN m8⟩
    rw [cmpN_lt (show A < X - 1 by omega)] at h7
    have HE0 : Hid (E = 0) := by unfold Hid; rw [hE2.out, if_neg (by omega)]
    go_wp2_with fail
    refine h7.mono ?_
    rintro e w8' ⟨rfl, m8, rfl⟩
    have kd := (Kept.refl Nought w7).drewN m8
    obtain ⟨w8, hw8⟩ : ∃ w8, w8 = w7.drewN m8 := ⟨_, rfl⟩
    rw [← hw8] at kd ⊢
    have K8 := K7.trans kd
    have HX8 := toHid (bX7.grew kd)
    have HA8 := toHid (bA7.grew kd)
    have HL8 := toHid (bL7.grew kd)
    have HK8 := toHid K8
    clear h7 bX7 bA7 bL7 kd K7 hw8 K8
    go_wp2_with fail
    go_loopw [10] (fun sv wr => wr = w8 ∧ ∃ t : Nat, t ≤ s ∧ sv = .int .i64 (t : Int)) (fun sv _ => s - (intOf sv).toNat)
    case atStart => exact ⟨rfl, 0, Nat.zero_le _, rfl⟩
    case round =>
      obtain ⟨rfl, t, ht, rfl⟩ := hrel
      have hB := rBit v5 (X - 1) (t : Int) wr HL8.out (by omega)
      rw [bitN_nat] at hB
      by_cases hts : t < s
      · rw [HSZ.out.2 t hts] at hB
        go_wp2_with fail
        refine hB.mono ?_
        rintro e w9 ⟨rfl, rfl⟩
        go_wp2_with fail
        go_roundw
        case rel => exact ⟨trivial, t + 1, by omega, by go_num⟩
        case measure => simp [intOf]; omega
      · obtain rfl : t = s := by omega
        rw [HSZ.out.1] at hB
        go_wp2_with fail
        refine hB.mono ?_
        rintro e w9 ⟨rfl, rfl⟩
        have h9 := rShr v5 (X - 1) t w9 HL8.out (by omega)
        clear hB
        go_wp2_with fail
        refine h9.mono ?_
        rintro e w10 ⟨v10, rfl, hb10, _, k10⟩
        have hA10 := HA8.out.grew k10
        have hX10 := HX8.out.grew k10
        have hL10 := HL8.out.grew k10
        have K10 := HK8.out.trans k10
        obtain ⟨D, hD⟩ : ∃ D, D = (X - 1) / 2 ^ t := ⟨_, rfl⟩
        rw [← hD] at hb10
        have HDD := toHid hD
        have h10 := rExpMod v3 v10 v2 A D X w10 hA10 hb10 hX10 (by omega) (by have := dlen_mono (show A ≤ X by omega); omega) (by omega)
        clear h9 k10 hb10 hA10 hD
        go_wp2_with fail
        refine h10.mono ?_
        rintro e w11 ⟨v11, rfl, hb11, _, k11⟩
        have HX11 := toHid (hX10.grew k11)
        have HL11 := toHid (hL10.grew k11)
        have HK11 := toHid (K10.trans k11)
        have h11 := rSmall 1 (by omega) w11
        clear h10 k11 hX10 hL10 K10
        go_wp2_with fail
        refine h11.mono ?_
        rintro e w12 ⟨v12, rfl, hb12, _, k12⟩
        have hb11' := hb11.grew k12
        have h12 := rCmp v11 v12 _ 1 w12 hb11' hb12
        have K12 := HK11.out.trans k12
        clear h11 hb11 hb12
        by_cases h1 : A ^ D % X = 1
        · have HT : Hid (R = true) := HR.out.2 ⟨HE0.out, t, HSZ.out, .inl (by rw [← HDD.out]; exact h1)⟩
          rw [cmpN_eq h1] at h12
          go_wp2_with fail
          refine h12.mono ?_
          rintro e w13 ⟨rfl, m13, rfl⟩
          go_wp2_with fail
          go_ret2
          exact ⟨by rw [HE0.out, HT.out]; rfl, K12.drewN m13⟩
        · have hc12 := cmpNne h1
          have HN1 := toHid h1
          generalize cmpN (A ^ D % X) 1 = c12 at *
          go_wp2_with fail
          refine h12.mono ?_
          rintro e w13' ⟨rfl, m13, rfl⟩
          have kd := k12.trans ((Kept.refl Nought w12).drewN m13)
          obtain ⟨w13, hw13⟩ : ∃ w13, w13 = w12.drewN m13 := ⟨_, rfl⟩
          have hb13 := hb11'.grew ((Kept.refl Nought w12).drewN m13)
          rw [← hw13] at kd hb13 ⊢
          have HX13 := toHid (HX11.out.grew kd)
          have HL13 := toHid (HL11.out.grew kd)
          have HK13 := toHid (HK11.out.trans kd)
          have HB13 := toHid hb13
          clear h12 kd hw13 hb11' K12 k12 hb13 HX11 HL11 HK11
          go_wp2_with fail
          rw [show (c12 == 0) = false by simpa using hc12]
          go_loopw [11, 12] (fun xv iv wr => ∃ i : Nat, i ≤ t ∧ iv = .int .i64 (i : Int) ∧ Hid (IsBig wr xv ((A ^ D) ^ 2 ^ i % X)) ∧ Hid (∀ j, j < i → (A ^ D) ^ 2 ^ j % X ≠ X - 1) ∧ Hid (Kept Nought w13 wr)) (fun _ iv _ => t - (intOf iv).toNat)
          case atStart => exact ⟨0, Nat.zero_le _, rfl, by unfold Hid; rw [Nat.pow_zero, Nat.pow_one]; exact HB13.out, fun j hj => by omega, Kept.refl _ _⟩
          case round =>
            obtain ⟨i, hi, rfl, hxi, hall, hki⟩ := hrel
            by_cases hit : i < t
            · have g1 : (i : Int) < (t : Int) := by omega
              have h14 := rCmp u11 v5 _ (X - 1) wr hxi.out (HL13.out.grew hki.out)
              by_cases heq : (A ^ D) ^ 2 ^ i % X = X - 1
              · have HT : Hid (R = true) := HR.out.2 ⟨HE0.out, t, HSZ.out, .inr ⟨i, hit, by rw [← HDD.out]; exact heq⟩⟩
                rw [cmpN_eq heq] at h14
                go_wp2_with fail
                refine h14.mono ?_
                rintro e w15 ⟨rfl, m15, rfl⟩
                go_wp2_with fail
                go_ret2
                exact ⟨by rw [HE0.out, HT.out]; rfl, (HK13.out.trans hki.out).drewN m15⟩
              · have hc14 := cmpNne heq
                have HA : Hid (∀ j, j < i + 1 → (A ^ D) ^ 2 ^ j % X ≠ X - 1) := fun j hj => by
                  by_cases e : j = i
                  · subst e; exact heq
                  · exact hall.out j (by omega)
                have HSQ := toHid (sq_pow X (A ^ D) i)
                have hlt : (A ^ D) ^ 2 ^ i % X < X := Nat.mod_lt _ (by omega)
                generalize (A ^ D) ^ 2 ^ i % X = Y at *
                have hdm : dlen (Y * Y) ≤ 10000000 := by
                  have h1 : dlen (Y * Y) ≤ dlen (X * X) := dlen_mono (Nat.mul_le_mul (by omega) (by omega))
                  have h2 : X * X < 4294967296 ^ (dlen X + dlen X) := by
                    rw [Nat.pow_add]
                    exact Nat.mul_lt_mul'' ((dlen_le _ _).1 (Nat.le_refl _)) ((dlen_le _ _).1 (Nat.le_refl _))
                  have h3 := (dlen_le _ _).2 h2
                  omega
                have hdy : dlen Y ≤ 260 := by have := dlen_mono (show Y ≤ X by omega); omega
                generalize cmpN Y (X - 1) = c14 at *
                go_wp2_with fail
                refine h14.mono ?_
                rintro e w15' ⟨rfl, m15, rfl⟩
                have kd := (Kept.refl Nought wr).drewN m15
                obtain ⟨w15, hw15⟩ : ∃ w15, w15 = wr.drewN m15 := ⟨_, rfl⟩
                rw [← hw15] at kd ⊢
                have h15 := rMulMod u11 u11 v2 Y Y X w15 (hxi.out.grew kd) (hxi.out.grew kd) (HX13.out.grew (hki.out.trans kd)) (by omega) (by omega) (by omega) hdm
                clear h14 hw15
                go_wp2_with fail
                refine h15.mono ?_
                rintro e w16 ⟨v16, rfl, hb16, _, k16⟩
                have HB16 := toHid hb16
                have HK16 := toHid (hki.out.trans (kd.trans k16))
                clear h15 hb16 kd k16
                go_wp2_with fail
                go_roundw
                case rel => exact ⟨i + 1, by omega, by go_num, by unfold Hid; rw [← HSQ.out]; exact HB16.out, HA, HK16⟩
                case measure => simp [intOf]; omega
            · have g1 : ¬ (i : Int) < (t : Int) := by omega
              obtain rfl : i = t := by omega
              have HT : Hid (R = false) := by
                unfold Hid
                cases h2 : R with
                | false => rfl
                | true =>
                  obtain ⟨_, s2, hs2, hor⟩ := HR.out.1 h2
                  obtain rfl := hs2.uniq HSZ.out
                  rw [← HDD.out] at hor
                  rcases hor with h | ⟨j, hj, h⟩
                  · exact absurd h HN1.out
                  · exact absurd h (hall.out j hj)
              go_wp2_with fail
              go_ret2
              exact ⟨by rw [HE0.out, HT.out]; rfl, HK13.out.trans hki.out⟩
  · have HT : Hid (E = O) := by
      unfold Hid
      rw [HE.out, strE, ← HO.out, if_pos hO0]
    have HRf : Hid (R = false) := HF.out (by rw [HT.out]; exact hO0)
    have g0 : ¬ (O : Int) = 0 := by omega
    go_wp2_with fail
    go_ret2
    exact ⟨by rw [HT.out, HRf.out]; rfl, k1⟩

end Go.Proofs.YtcjaafmlflonhaaGreatDoor
