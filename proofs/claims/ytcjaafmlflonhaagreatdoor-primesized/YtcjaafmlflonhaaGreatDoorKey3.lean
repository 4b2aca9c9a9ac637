/- The plain side of layer 18 (package sconceref18): Good, Candidate. -/
import Derived.Test.YtcjaafmlflonhaaGreatDoorKey2
import Derived.Test.YtcjaafmlflonhaaGreatDoorBev1
namespace Go.Proofs.YtcjaafmlflonhaaGreatDoor
open Go.RowKit

/-- Whether X may be a prime for the exponent e. -/
def goodN (X e : Nat) : Prop := X ≠ 0 ∧ e ≠ 0 ∧ passN X ∧ Nat.gcd (X - 1) e = 1

set_option maxRecDepth 20000 in
set_option maxHeartbeats 2000000 in
/-- Good. -/
theorem r18Good (ao : Option Addr) (L cap : Nat) (xs : List Nat) (e : Nat) (he : e < 18446744073709551616) (R : Bool) (hR : R = true ↔ goodN (val 18446744073709551616 xs) e) (w : World) (hu : Row .u64 w (.slice ao L cap) xs) (hdx : Digs 18446744073709551616 xs) (hLb : L ≤ 1000000) :
    Calls Tryz.prog 25 #[.slice ao L cap, .int .u64 (e : Nat)] w fun r w' => r = .returned (.bool R) ∧ Kept Nought w w' := by
  obtain ⟨_, _, _, e1, hL, -, -, -, -⟩ := hu.open
  cases e1
  have hO := rOf _ xs w hu hdx (by rw [hL.out]; omega)
  have JP : Hid (∀ W (Q : Bool), (Q = true ↔ passN (val 18446744073709551616 xs)) → Kept Nought w W → Calls Tryz.prog 49 #[.slice ao L cap] W fun e w' => e = .returned (.bool Q) ∧ Kept Nought W w') := fun W Q hQ k => r16Passes ao L cap xs Q hQ W (hu.grew k) hdx hLb
  have hdX : dlen (val 18446744073709551616 xs) ≤ 2 * L := (dlen_le _ _).2 (by rw [Nat.pow_mul, ← hL.out]; exact val_lt (by omega) hdx)
  have HR := toHid hR
  have HF : Hid (¬ goodN (val 18446744073709551616 xs) e → R = false) := fun h => by
    cases h2 : R with
    | false => rfl
    | true => exact absurd (HR.out.1 h2) h
  clear hu hdx hL hR
  generalize val 18446744073709551616 xs = X at *
  go_enter Tryz.func25, Tryz.ntmps25
  go_wp2_with fail
  refine hO.mono ?_
  rintro r w1 ⟨v1, rfl, b1, _, K1⟩
  obtain ⟨bo, bn, bc, rfl, hbn, -⟩ := b1.length
  clear hO
  by_cases a1 : X = 0
  · have HT := toHid (HF.out (fun h => h.1 a1))
    have hbn0 : bn = 0 := by rw [hbn.out, a1]; rfl
    subst hbn0
    go_wp2_with fail
    go_ret
    exact ⟨by rw [HT.out]; rfl, K1⟩
  have hbn1 : 0 < bn := by rw [hbn.out]; exact dlen_pos (by omega)
  have q1 : ((bn : Int) == 0) = false := by simp; omega
  clear hbn
  by_cases a2 : e = 0
  · have HT := toHid (HF.out (fun h => h.2.1 a2))
    subst a2
    go_wp2_with fail
    go_ret
    exact ⟨by rw [HT.out]; rfl, K1⟩
  have q2 : ((e : Int) == 0) = false := by simp; omega
  by_cases a3 : passN X
  · have h2 := JP.out w1 true (by simp [a3]) K1
    go_wp2_with fail
    refine h2.mono ?_
    rintro r w2 ⟨rfl, k2⟩
    have K2 := K1.trans k2
    have b1 := b1.grew k2
    clear h2
    have h3 := r18one w2
    go_wp2_with fail
    refine h3.mono ?_
    rintro e w3 ⟨v3, rfl, b3, _, k3⟩
    have K3 := K2.trans k3
    have b1 := b1.grew k3
    clear h3
    have h4 := rSub _ v3 X 1 w3 b1 b3 (by omega)
    go_wp2_with fail
    refine h4.mono ?_
    rintro e w4 ⟨v4, rfl, b4, _, k4⟩
    have K4 := K3.trans k4
    have b1 := b1.grew k4
    have b3 := b3.grew k4
    clear h4
    have h5 := rSmall e he w4
    go_wp2_with fail
    refine h5.mono ?_
    rintro e w5 ⟨v5, rfl, b5, _, k5⟩
    have K5 := K4.trans k5
    have b1 := b1.grew k5
    have b3 := b3.grew k5
    have b4 := b4.grew k5
    clear h5
    have hdX1 : dlen (X - 1) ≤ 10000000 := by have := dlen_mono (show X - 1 ≤ X by omega); omega
    have hde : dlen e ≤ 2 := (dlen_le _ _).2 (by omega)
    have h6 := rGcd v4 v5 (X - 1) e w5 b4 b5 hdX1 (by omega)
    go_wp2_with fail
    refine h6.mono ?_
    rintro e w6 ⟨v6, rfl, b6, _, k6⟩
    have K6 := K5.trans k6
    have b1 := b1.grew k6
    have b3 := b3.grew k6
    have b4 := b4.grew k6
    have b5 := b5.grew k6
    clear h6
    have h7 := r18one w6
    go_wp2_with fail
    refine h7.mono ?_
    rintro e w7 ⟨v7, rfl, b7, _, k7⟩
    have K7 := K6.trans k7
    have b1 := b1.grew k7
    have b3 := b3.grew k7
    have b4 := b4.grew k7
    have b5 := b5.grew k7
    have b6 := b6.grew k7
    clear h7
    have h8 := rCmp v6 v7 _ 1 w7 b6 b7
    by_cases a4 : Nat.gcd (X - 1) e = 1
    · have HT : Hid (R = true) := HR.out.2 ⟨a1, a2, a3, a4⟩
      rw [cmpN_eq a4] at h8
      go_wp2_with fail
      refine h8.mono ?_
      rintro r w8 ⟨rfl, m8, rfl⟩
      go_wp2_with fail
      go_ret
      exact ⟨by rw [HT.out]; rfl, K7.drewN m8⟩
    · have HT := toHid (HF.out (fun h => a4 h.2.2.2))
      have hc := cmpNne a4
      have qc : (cmpN (Nat.gcd (X - 1) e) 1 == 0) = false := by simpa using hc
      generalize cmpN (Nat.gcd (X - 1) e) 1 = c8 at *
      go_wp2_with fail
      refine h8.mono ?_
      rintro r w8 ⟨rfl, m8, rfl⟩
      go_wp2_with fail
      go_ret
      exact ⟨by rw [HT.out]; first | rfl | (show Ending.returned (Value.bool (c8 == 0)) = _; rw [qc]), K7.drewN m8⟩
  · have HT := toHid (HF.out (fun h => a3 h.2.2.1))
    have h2 := JP.out w1 false (by simp [a3]) K1
    go_wp2_with fail
    refine h2.mono ?_
    rintro r w2 ⟨rfl, k2⟩
    go_wp2_with fail
    go_ret
    exact ⟨by rw [HT.out]; rfl, K1.trans k2⟩

/-- What Candidate answers of bytes that are as many as should be. -/
def candN (bs : List Nat) (n : Nat) : Nat := (bev bs % 2 ^ (n - 2) + (if bev bs % 2 ^ (n - 2) % 2 = 0 then 1 else 0)) + 3 * 2 ^ (n - 2)

def candE (bs : List Nat) (k : Int) : Nat := if k < 16 ∨ 4096 < k ∨ (bs.length : Int) ≠ (k + 7) / 8 then 1 else 0

set_option maxRecDepth 20000 in
set_option maxHeartbeats 2000000 in
/-- Candidate. -/
theorem r18Cand (v : Value) (bs : List Nat) (k : Int) (h0 : -9223372036854775808 ≤ k) (h1 : k ≤ 9223372036854775807) (E : Nat) (RL : List Nat) (hE : E = candE bs k) (hRL : RL = if E = 0 then digs 18446744073709551616 (candN bs k.toNat) ((k.toNat + 63) / 64) else []) (w : World) (hu : Row .u8 w v bs) (hd : Digs 256 bs) (hL : bs.length ≤ 100000000) :
    Calls Tryz.prog 24 #[v, .int .i64 k] w fun e w' => ∃ v', e = .returned (.tuple #[v', .int .i64 (E : Nat)]) ∧ Row .u64 w' v' RL ∧ (∀ b, v'.ownBlock = some b → w.heap.size ≤ b) ∧ Kept Nought w w' := by
  have hF := rFromBytes v bs w hu hd hL
  obtain ⟨ao, n, cap, rfl, hn, -, -, -, -⟩ := hu.open
  have hE1 : Hid (k < 16 ∨ 4096 < k ∨ (n : Int) ≠ (k + 7) / 8 → E = 1 ∧ RL = []) := fun h => by
    have e1 : E = 1 := by rw [hE, candE, hn.out, if_pos h]
    exact ⟨e1, by rw [hRL, if_neg (by omega)]⟩
  by_cases a1 : k < 16
  · have HB := toHid (hE1.out (.inl a1))
    clear hE1 hE hRL hF hu
    go_enter Tryz.func24, Tryz.ntmps24
    go_wp2_with fail
    go_ret2
    exact ⟨_, by rw [HB.out.1]; rfl, by rw [HB.out.2]; exact Row.nil _ _, (fun b hb => by cases hb), Kept.refl _ _⟩
  have q1 : decide (k < 16) = false := decide_eq_false a1
  by_cases a2 : 4096 < k
  · have HB := toHid (hE1.out (.inr (.inl a2)))
    clear hE1 hE hRL hF hu
    go_enter Tryz.func24, Tryz.ntmps24
    go_wp2_with fail
    go_ret2
    exact ⟨_, by rw [HB.out.1]; rfl, by rw [HB.out.2]; exact Row.nil _ _, (fun b hb => by cases hb), Kept.refl _ _⟩
  have q2 : decide ((4096 : Int) < k) = false := decide_eq_false a2
  obtain ⟨j, rfl⟩ : ∃ j : Nat, k = (j : Int) := ⟨k.toNat, by omega⟩
  rw [Int.toNat_natCast] at hRL
  obtain ⟨z, hz⟩ : ∃ z, z = (j + 7) / 8 := ⟨_, rfl⟩
  have hsz : ((j : Int) + 7).tdiv 8 = (z : Int) := by rw [Int.tdiv_eq_ediv_of_nonneg (by omega)]; omega
  have hszd : ((j : Int) + 7) / 8 = (z : Int) := by omega
  rw [hszd] at hE1
  by_cases a3 : n = z
  · have HE : Hid (E = 0) := by
      unfold Hid
      rw [hE, candE, hn.out, hszd, if_neg (by omega)]
    have HR : Hid (RL = digs 18446744073709551616 (candN bs j) ((j + 63) / 64)) := by unfold Hid; rw [hRL, if_pos HE.out]
    subst a3
    obtain ⟨y, hy⟩ : ∃ y, y = (j + 63) / 64 := ⟨_, rfl⟩
    have hsy : ((j : Int) + 63).tdiv 64 = (y : Int) := by rw [Int.tdiv_eq_ediv_of_nonneg (by omega)]; omega
    have hsyd : ((j : Int) + 63) / 64 = (y : Int) := by omega
    rw [← hy] at HR
    obtain ⟨i, hi⟩ : ∃ i, i = j - 2 := ⟨_, rfl⟩
    have gi : (j : Int) - 2 = (i : Int) := by omega
    have hdb : dlen (bev bs) ≤ 1000000 := by
      have h1 := bev_ltB hd
      rw [hn.out] at h1
      have h2 : dlen (bev bs) ≤ n := (dlen_le _ _).2 (Nat.lt_of_lt_of_le h1 (Nat.pow_le_pow_left (by omega) n))
      omega
    have HC : Hid (candN bs j = (bev bs % 2 ^ i + (if bev bs % 2 ^ i % 2 = 0 then 1 else 0)) + 3 * 2 ^ i) := by unfold Hid candN; rw [hi]
    have hi2 : i ≤ 4096 := by omega
    have hy2 : y ≤ 1000 := by omega
    clear hE1 hE hRL hu hz hy hi hd
    have hd2 : ∀ V, V ≤ 2 ^ i * 4 → dlen V ≤ 5000 := fun V hV => by
      have h1 : 2 ^ i ≤ 4294967296 ^ i := Nat.pow_le_pow_left (by omega) i
      have h2 : 0 < 4294967296 ^ i := Nat.pow_pos (by omega)
      have : V < 4294967296 ^ (i + 1) := by
        rw [Nat.pow_succ]
        omega
      have := (dlen_le _ _).2 this
      omega
    have hp0 : 0 < 2 ^ i := Nat.pow_pos (by omega)
    have HD2 := toHid hd2
    clear hd2
    go_enter Tryz.func24, Tryz.ntmps24
    go_wp2_with fail
    refine hF.mono ?_
    rintro r w1 ⟨v1, rfl, b1, _, K1⟩
    clear hF
    have h2 := r18one w1
    go_wp2_with fail
    refine h2.mono ?_
    rintro e w2 ⟨v2, rfl, b2, _, k2⟩
    have K2 := K1.trans k2
    have b1 := b1.grew k2
    clear h2
    have h3 := rShl v2 1 i w2 b2 (by have := (dlen_le 1 1).2 (by omega); omega) (by omega)
    go_wp2_with fail
    refine h3.mono ?_
    rintro e w3 ⟨v3, rfl, b3, _, k3⟩
    have K3 := K2.trans k3
    have b1 := b1.grew k3
    have b2 := b2.grew k3
    clear h3
    have h4 := rMod v1 v3 (bev bs) (2 ^ i * 1) w3 b1 b3 (by omega) (by omega)
    go_wp2_with fail
    refine h4.mono ?_
    rintro e w4 ⟨v4, rfl, b4, _, k4⟩
    have K4 := K3.trans k4
    have b1 := b1.grew k4
    have b2 := b2.grew k4
    have b3 := b3.grew k4
    clear h4
    have hV4 : bev bs % (2 ^ i * 1) = bev bs % 2 ^ i := by rw [Nat.mul_one]
    rw [hV4] at b4
    obtain ⟨Y, hY⟩ : ∃ Y, Y = bev bs % 2 ^ i := ⟨_, rfl⟩
    have hYlt : Y < 2 ^ i := by rw [hY]; exact Nat.mod_lt _ hp0
    rw [← hY] at b4 HC
    have h5 := rBit v4 Y 0 w4 b4 (by omega)
    rw [show bitN Y 0 = Y % 2 by unfold bitN; simp] at h5
    clear hV4 hY b1 b2 b3
    have HPOW : Hid (2 ^ i * 3 = 3 * 2 ^ i) := Nat.mul_comm _ _
    have HYb := toHid hYlt
    obtain ⟨PP, hPP⟩ : ∃ PP, PP = 2 ^ i := ⟨_, rfl⟩
    rw [← hPP] at HYb HPOW HD2 HC hp0
    have HPE : Hid (2 ^ i * 3 = PP * 3) := by unfold Hid; rw [hPP]
    clear hYlt hPP
    by_cases a5 : Y % 2 = 0
    · rw [a5] at h5
      have HC2 : Hid (candN bs j = Y + 1 + PP * 3) := by unfold Hid; rw [HC.out, if_pos a5, HPOW.out]
      clear HC HPOW a5
      go_wp2_with fail
      refine h5.mono ?_
      rintro r w5 ⟨rfl, rfl⟩
      clear h5
      have K5 := K4
      have h6 := r18one w5
      go_wp2_with fail
      refine h6.mono ?_
      rintro e w6 ⟨v6, rfl, b6, _, k6⟩
      have K6 := K5.trans k6
      have b4 := b4.grew k6
      clear h6
      have h7 := rAdd v4 v6 Y 1 w6 b4 b6 (by have := HD2.out Y (by have := HYb.out; omega); omega) (by have := (dlen_le 1 1).2 (by omega); omega)
      go_wp2_with fail
      refine h7.mono ?_
      rintro e w7 ⟨v7, rfl, b7, _, k7⟩
      have K7 := K6.trans k7
      have b4 := b4.grew k7
      have b6 := b6.grew k7
      clear h7
      have hdx7 : dlen (Y + 1) ≤ 5000 := HD2.out _ (by have := HYb.out; omega)
      have h8 := rSmall 3 (by omega) w7
      go_wp2_with fail
      refine h8.mono ?_
      rintro e w8 ⟨v8, rfl, b8, _, k8⟩
      have K8 := K7.trans k8
      have b4 := b4.grew k8
      have b6 := b6.grew k8
      have b7 := b7.grew k8
      clear h8
      have h9 := rShl v8 3 i w8 b8 (by have := (dlen_le 3 1).2 (by omega); omega) (by omega)
      go_wp2_with fail
      refine h9.mono ?_
      rintro e w9 ⟨v9, rfl, b9, _, k9⟩
      have K9 := K8.trans k9
      have b4 := b4.grew k9
      have b6 := b6.grew k9
      have b7 := b7.grew k9
      have b8 := b8.grew k9
      clear h9
      rw [HPE.out] at b9
      have h10 := rAdd v7 v9 (Y + 1) (PP * 3) w9 b7 b9 (by omega) (by have := HD2.out (PP * 3) (by omega); omega)
      go_wp2_with fail
      refine h10.mono ?_
      rintro e w10 ⟨v10, rfl, b10, _, k10⟩
      have K10 := K9.trans k10
      have b4 := b4.grew k10
      have b6 := b6.grew k10
      have b7 := b7.grew k10
      have b8 := b8.grew k10
      have b9 := b9.grew k10
      clear h10
      have h11 := rNat v10 _ y w10 b10 (by omega)
      go_wp2_with fail
      refine h11.mono ?_
      rintro r w11 ⟨v11, rfl, r11, o11, k11⟩
      have K11 := K10.trans k11
      clear h11
      go_wp2_with fail
      go_ret2
      exact ⟨_, by rw [HE.out]; rfl, by rw [HR.out, HC2.out]; exact r11, (fun b hb => by have hb' : v11.ownBlock = some b := hb; rw [o11] at hb'; cases hb'; exact K10.size), K11⟩
    · rw [show Y % 2 = 1 by omega] at h5
      have HC2 : Hid (candN bs j = Y + PP * 3) := by unfold Hid; rw [HC.out, if_neg a5, Nat.add_zero, HPOW.out]
      clear HC HPOW a5
      go_wp2_with fail
      refine h5.mono ?_
      rintro r w5 ⟨rfl, rfl⟩
      clear h5
      have K5 := K4
      have h6 := rSmall 3 (by omega) w5
      go_wp2_with fail
      refine h6.mono ?_
      rintro e w6 ⟨v6, rfl, b6, _, k6⟩
      have K6 := K5.trans k6
      have b4 := b4.grew k6
      clear h6
      have h7 := rShl v6 3 i w6 b6 (by have := (dlen_le 3 1).2 (by omega); omega) (by omega)
      go_wp2_with fail
      refine h7.mono ?_
      rintro e w7 ⟨v7, rfl, b7, _, k7⟩
      have K7 := K6.trans k7
      have b4 := b4.grew k7
      have b6 := b6.grew k7
      clear h7
      rw [HPE.out] at b7
      have h8 := rAdd v4 v7 Y (PP * 3) w7 b4 b7 (by have := HD2.out Y (by have := HYb.out; omega); omega) (by have := HD2.out (PP * 3) (by omega); omega)
      go_wp2_with fail
      refine h8.mono ?_
      rintro e w8 ⟨v8, rfl, b8, _, k8⟩
      have K8 := K7.trans k8
      have b4 := b4.grew k8
      have b6 := b6.grew k8
      have b7 := b7.grew k8
      clear h8
      have h9 := rNat v8 _ y w8 b8 (by omega)
      go_wp2_with fail
      refine h9.mono ?_
      rintro r w9 ⟨v9, rfl, r9, o9, k9⟩
      have K9 := K8.trans k9
      clear h9
      go_wp2_with fail
      go_ret2
      exact ⟨_, by rw [HE.out]; rfl, by rw [HR.out, HC2.out]; exact r9, (fun b hb => by have hb' : v9.ownBlock = some b := hb; rw [o9] at hb'; cases hb'; exact K8.size), K9⟩
  · have a3' : ¬ (n : Int) = (z : Int) := by omega
    have HB := toHid (hE1.out (.inr (.inr a3')))
    clear hE1 hE hRL hF hu hz
    go_enter Tryz.func24, Tryz.ntmps24
    go_wp2_with fail
    go_ret2
    exact ⟨_, by rw [HB.out.1]; rfl, by rw [HB.out.2]; exact Row.nil _ _, (fun b hb => by cases hb), Kept.refl _ _⟩

end Go.Proofs.YtcjaafmlflonhaaGreatDoor
