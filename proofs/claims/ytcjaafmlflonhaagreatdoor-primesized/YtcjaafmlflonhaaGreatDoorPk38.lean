/- Put together of: Key3 Siv1 Seq4. -/
import Derived.Test.YtcjaafmlflonhaaGreatDoorPk17
import Derived.Test.YtcjaafmlflonhaaGreatDoorPk28
import Derived.Test.YtcjaafmlflonhaaGreatDoorPk32
import Derived.Test.YtcjaafmlflonhaaGreatDoorPk37

/- The plain side of layer 18 (package sconceref18): Good, Candidate. -/
namespace Go.Proofs.YtcjaafmlflonhaaGreatDoor
open Go.RowKit

/-- Whether X may be a prime for the exponent e. -/
def goodN (X e : Nat) : Prop := X ≠ 0 ∧ e ≠ 0 ∧ passN X ∧ Nat.gcd (X - 1) e = 1

set_option maxRecDepth 20000 in
set_option maxHeartbeats 2000000 in
/-- Good. -/
theorem r18Good (ao : Option Addr) (L cap : Nat) (xs : List Nat) (e : Nat) (he : e < 18446744073709551616) (R : Bool) (hR : R = true ↔ goodN (val 18446744073709551616 xs) e) (w : World) (hu : Row .u64 w (.slice ao L cap) xs) (hdx : Digs 18446744073709551616 xs) (hLb : L ≤ 1000000) :
    Calls Tryz.prog 25 #[.slice ao L cap, .int .u64 (e : Nat)] w fun r w' => r = .returned (.bool R) ∧ Kept Nought w w' := by
  obtain ⟨_, _, _, e1, hL, -, -, -, -⟩ := hu.open
  cases e1
  have hO := rOf _ xs w hu hdx (by rw [hL.out]; omega)
  have JP : Hid (∀ W (Q : Bool), (Q = true ↔ passN (val 18446744073709551616 xs)) → Kept Nought w W → Calls Tryz.prog 49 #[.slice ao L cap] W fun e w' => e = .returned (.bool Q) ∧ Kept Nought W w') := fun W Q hQ k => r16Passes ao L cap xs Q hQ W (hu.grew k) hdx hLb
  have hdX : dlen (val 18446744073709551616 xs) ≤ 2 * L := (dlen_le _ _).2 (by rw [Nat.pow_mul, ← hL.out]; exact val_lt (by omega) hdx)
  have HR := toHid hR
  have HF : Hid (¬ goodN (val 18446744073709551616 xs) e → R = false) := fun h => by
    cases h2 : R with
    | false => rfl
    | true => exact absurd (HR.out.1 h2) h
  clear hu hdx hL hR
  generalize val 18446744073709551616 xs = X at *
  go_enter Tryz.func25, Tryz.ntmps25
  go_wp2_with fail
  refine hO.mono ?_
  rintro r w1 ⟨v1, rfl, b1, _, K1⟩
  obtain ⟨bo, bn, bc, rfl, hbn, -⟩ := b1.length
  clear hO
  by_cases a1 : X = 0
  · have HT := toHid (HF.out (fun h => h.1 a1))
    have hbn0 : bn = 0 := by rw [hbn.out, a1]; rfl
    subst hbn0
    go_wp2_with fail
    go_ret
    exact ⟨by rw [HT.out]; rfl, K1⟩
  have hbn1 : 0 < bn := by rw [hbn.out]; exact dlen_pos (by omega)
  have q1 : ((bn : Int) == 0) = false := by simp; omega
  clear hbn
  by_cases a2 : e = 0
  · have HT := toHid (HF.out (fun h => h.2.1 a2))
    subst a2
    go_wp2_with fail
    go_ret
    exact ⟨by rw [HT.out]; rfl, K1⟩
  have q2 : ((e : Int) == 0) = false := by simp; omega
  by_cases a3 : passN X
  · have h2 := JP.out w1 true (by simp [a3]) K1
    go_wp2_with fail
    refine h2.mono ?_
    rintro r w2 ⟨rfl, k2⟩
    have K2 := K1.trans k2
    have b1 := b1.grew k2
    clear h2
    have h3 := r18one w2
    go_wp2_with fail
    refine h3.mono ?_
    rintro e w3 ⟨v3, rfl, b3, _, k3⟩
    have K3 := K2.trans k3
    have b1 := b1.grew k3
    clear h3
    have h4 := rSub _ v3 X 1 w3 b1 b3 (by omega)
    go_wp2_with fail
    refine h4.mono ?_
    rintro e w4 ⟨v4, rfl, b4, _, k4⟩
    have K4 := K3.trans k4
    have b1 := b1.grew k4
    have b3 := b3.grew k4
    clear h4
    have h5 := rSmall e he w4
    go_wp2_with fail
    refine h5.mono ?_
    rintro e w5 ⟨v5, rfl, b5, _, k5⟩
    have K5 := K4.trans k5
    have b1 := b1.grew k5
    have b3 := b3.grew k5
    have b4 := b4.grew k5
    clear h5
    have hdX1 : dlen (X - 1) ≤ 10000000 := by have := dlen_mono (show X - 1 ≤ X by omega); omega
    have hde : dlen e ≤ 2 := (dlen_le _ _).2 (by omega)
    have h6 := rGcd v4 v5 (X - 1) e w5 b4 b5 hdX1 (by omega)
    go_wp2_with fail
    refine h6.mono ?_
    rintro e w6 ⟨v6, rfl, b6, _, k6⟩
    have K6 := K5.trans k6
    have b1 := b1.grew k6
    have b3 := b3.grew k6
    have b4 := b4.grew k6
    have b5 := b5.grew k6
    clear h6
    have h7 := r18one w6
    go_wp2_with fail
    refine h7.mono ?_
    rintro e w7 ⟨v7, rfl, b7, _, k7⟩
    have K7 := K6.trans k7
    have b1 := b1.grew k7
    have b3 := b3.grew k7
    have b4 := b4.grew k7
    have b5 := b5.grew k7
    have b6 := b6.grew k7
    clear h7
    have h8 := rCmp v6 v7 _ 1 w7 b6 b7
    by_cases a4 : Nat.gcd (X - 1) e = 1
    · have HT : Hid (R = true) := HR.out.2 ⟨a1, a2, a3, a4⟩
      rw [cmpN_eq a4] at h8
      go_wp2_with fail
      refine h8.mono ?_
      rintro r w8 ⟨rfl, m8, rfl⟩
      go_wp2_with fail
      go_ret
      exact ⟨by rw [HT.out]; rfl, K7.drewN m8⟩
    · have HT := toHid (HF.out (fun h => a4 h.2.2.2))
      have hc := cmpNne a4
      have qc : (cmpN (Nat.gcd (X - 1) e) 1 == 0) = false := by simpa using hc
      generalize cmpN (Nat.gcd (X - 1) e) 1 = c8 at *
      go_wp2_with fail
      refine h8.mono ?_
      rintro r w8 ⟨rfl, m8, rfl⟩
      go_wp2_with fail
      go_ret
      exact ⟨by rw [HT.out]; first | rfl | (show Ending.returned (Value.bool (c8 == 0)) = _; rw [qc]), K7.drewN m8⟩
  · have HT := toHid (HF.out (fun h => a3 h.2.2.1))
    have h2 := JP.out w1 false (by simp [a3]) K1
    go_wp2_with fail
    refine h2.mono ?_
    rintro r w2 ⟨rfl, k2⟩
    go_wp2_with fail
    go_ret
    exact ⟨by rw [HT.out]; rfl, K1.trans k2⟩

/-- What Candidate answers of bytes that are as many as should be. -/
def candN (bs : List Nat) (n : Nat) : Nat := (bev bs % 2 ^ (n - 2) + (if bev bs % 2 ^ (n - 2) % 2 = 0 then 1 else 0)) + 3 * 2 ^ (n - 2)

def candE (bs : List Nat) (k : Int) : Nat := if k < 16 ∨ 4096 < k ∨ (bs.length : Int) ≠ (k + 7) / 8 then 1 else 0

set_option maxRecDepth 20000 in
set_option maxHeartbeats 2000000 in
/-- Candidate. -/
theorem r18Cand (v : Value) (bs : List Nat) (k : Int) (h0 : -9223372036854775808 ≤ k) (h1 : k ≤ 9223372036854775807) (E : Nat) (RL : List Nat) (hE : E = candE bs k) (hRL : RL = if E = 0 then digs 18446744073709551616 (candN bs k.toNat) ((k.toNat + 63) / 64) else []) (w : World) (hu : Row .u8 w v bs) (hd : Digs 256 bs) (hL : bs.length ≤ 100000000) :
    Calls Tryz.prog 24 #[v, .int .i64 k] w fun e w' => ∃ v', e = .returned (.tuple #[v', .int .i64 (E : Nat)]) ∧ Row .u64 w' v' RL ∧ (∀ b, v'.ownBlock = some b → w.heap.size ≤ b) ∧ Kept Nought w w' := by
  have hF := rFromBytes v bs w hu hd hL
  obtain ⟨ao, n, cap, rfl, hn, -, -, -, -⟩ := hu.open
  have hE1 : Hid (k < 16 ∨ 4096 < k ∨ (n : Int) ≠ (k + 7) / 8 → E = 1 ∧ RL = []) := fun h => by
    have e1 : E = 1 := by rw [hE, candE, hn.out, if_pos h]
    exact ⟨e1, by rw [hRL, if_neg (by omega)]⟩
  by_cases a1 : k < 16
  · have HB := toHid (hE1.out (.inl a1))
    clear hE1 hE hRL hF hu
    go_enter Tryz.func24, Tryz.ntmps24
    go_wp2_with fail
    go_ret2
    exact ⟨_, by rw [HB.out.1]; rfl, by rw [HB.out.2]; exact Row.nil _ _, (fun b hb => by cases hb), Kept.refl _ _⟩
  have q1 : decide (k < 16) = false := decide_eq_false a1
  by_cases a2 : 4096 < k
  · have HB := toHid (hE1.out (.inr (.inl a2)))
    clear hE1 hE hRL hF hu
    go_enter Tryz.func24, Tryz.ntmps24
    go_wp2_with fail
    go_ret2
    exact ⟨_, by rw [HB.out.1]; rfl, by rw [HB.out.2]; exact Row.nil _ _, (fun b hb => by cases hb), Kept.refl _ _⟩
  have q2 : decide ((4096 : Int) < k) = false := decide_eq_false a2
  obtain ⟨j, rfl⟩ : ∃ j : Nat, k = (j : Int) := ⟨k.toNat, by omega⟩
  rw [Int.toNat_natCast] at hRL
  obtain ⟨z, hz⟩ : ∃ z, z = (j + 7) / 8 := ⟨_, rfl⟩
  have hsz : ((j : Int) + 7).tdiv 8 = (z : Int) := by rw [Int.tdiv_eq_ediv_of_nonneg (by omega)]; omega
  have hszd : ((j : Int) + 7) / 8 = (z : Int) := by omega
  rw [hszd] at hE1
  by_cases a3 : n = z
  · have HE : Hid (E = 0) := by
      unfold Hid
      rw [hE, candE, hn.out, hszd, if_neg (by omega)]
    have HR : Hid (RL = digs 18446744073709551616 (candN bs j) ((j + 63) / 64)) := by unfold Hid; rw [hRL, if_pos HE.out]
    subst a3
    obtain ⟨y, hy⟩ : ∃ y, y = (j + 63) / 64 := ⟨_, rfl⟩
    have hsy : ((j : Int) + 63).tdiv 64 = (y : Int) := by rw [Int.tdiv_eq_ediv_of_nonneg (by omega)]; omega
    have hsyd : ((j : Int) + 63) / 64 = (y : Int) := by omega
    rw [← hy] at HR
    obtain ⟨i, hi⟩ : ∃ i, i = j - 2 := ⟨_, rfl⟩
    have gi : (j : Int) - 2 = (i : Int) := by omega
    have hdb : dlen (bev bs) ≤ 1000000 := by
      have h1 := bev_ltB hd
      rw [hn.out] at h1
      have h2 : dlen (bev bs) ≤ n := (dlen_le _ _).2 (Nat.lt_of_lt_of_le h1 (Nat.pow_le_pow_left (by omega) n))
      omega
    have HC : Hid (candN bs j = (bev bs % 2 ^ i + (if bev bs % 2 ^ i % 2 = 0 then 1 else 0)) + 3 * 2 ^ i) := by unfold Hid candN; rw [hi]
    have hi2 : i ≤ 4096 := by omega
    have hy2 : y ≤ 1000 := by omega
    clear hE1 hE hRL hu hz hy hi hd
    have hd2 : ∀ V, V ≤ 2 ^ i * 4 → dlen V ≤ 5000 := fun V hV => by
      have h1 : 2 ^ i ≤ 4294967296 ^ i := Nat.pow_le_pow_left (by omega) i
      have h2 : 0 < 4294967296 ^ i := Nat.pow_pos (by omega)
      have : V < 4294967296 ^ (i + 1) := by
        rw [Nat.pow_succ]
        omega
      have := (dlen_le _ _).2 this
      omega
    have hp0 : 0 < 2 ^ i := Nat.pow_pos (by omega)
    have HD2 := toHid hd2
    clear hd2
    go_enter Tryz.func24, Tryz.ntmps24
    go_wp2_with fail
    refine hF.mono ?_
    rintro r w1 ⟨v1, rfl, b1, _, K1⟩
    clear hF
    have h2 := r18one w1
    go_wp2_with fail
    refine h2.mono ?_
    rintro e w2 ⟨v2, rfl, b2, _, k2⟩
    have K2 := K1.trans k2
    have b1 := b1.grew k2
    clear h2
    have h3 := rShl v2 1 i w2 b2 (by have := (dlen_le 1 1).2 (by omega); omega) (by omega)
    go_wp2_with fail
    refine h3.mono ?_
    rintro e w3 ⟨v3, rfl, b3, _, k3⟩
    have K3 := K2.trans k3
    have b1 := b1.grew k3
    have b2 := b2.grew k3
    clear h3
    have h4 := rMod v1 v3 (bev bs) (2 ^ i * 1) w3 b1 b3 (by omega) (by omega)
    go_wp2_with fail
    refine h4.mono ?_
    rintro e w4 ⟨v4, rfl, b4, _, k4⟩
    have K4 := K3.trans k4
    have b1 := b1.grew k4
    have b2 := b2.grew k4
    have b3 := b3.grew k4
    clear h4
    have hV4 : bev bs % (2 ^ i * 1) = bev bs % 2 ^ i := by rw [Nat.mul_one]
    rw [hV4] at b4
    obtain ⟨Y, hY⟩ : ∃ Y, Y = bev bs % 2 ^ i := ⟨_, rfl⟩
    have hYlt : Y < 2 ^ i := by rw [hY]; exact Nat.mod_lt _ hp0
    rw [← hY] at b4 HC
    have h5 := rBit v4 Y 0 w4 b4 (by omega)
    rw [show bitN Y 0 = Y % 2 by unfold bitN; simp] at h5
    clear hV4 hY b1 b2 b3
    have HPOW : Hid (2 ^ i * 3 = 3 * 2 ^ i) := Nat.mul_comm _ _
    have HYb := toHid hYlt
    obtain ⟨PP, hPP⟩ : ∃ PP, PP = 2 ^ i := ⟨_, rfl⟩
    rw [← hPP] at HYb HPOW HD2 HC hp0
    have HPE : Hid (2 ^ i * 3 = PP * 3) := by unfold Hid; rw [hPP]
    clear hYlt hPP
    by_cases a5 : Y % 2 = 0
    · rw [a5] at h5
      have HC2 : Hid (candN bs j = Y + 1 + PP * 3) := by unfold Hid; rw [HC.out, if_pos a5, HPOW.out]
      clear HC HPOW a5
      go_wp2_with fail
      refine h5.mono ?_
      rintro r w5 ⟨rfl, rfl⟩
      clear h5
      have K5 := K4
      have h6 := r18one w5
      go_wp2_with fail
      refine h6.mono ?_
      rintro e w6 ⟨v6, rfl, b6, _, k6⟩
      have K6 := K5.trans k6
      have b4 := b4.grew k6
      clear h6
      have h7 := rAdd v4 v6 Y 1 w6 b4 b6 (by have := HD2.out Y (by have := HYb.out; omega); omega) (by have := (dlen_le 1 1).2 (by omega); omega)
      go_wp2_with fail
      refine h7.mono ?_
      rintro e w7 ⟨v7, rfl, b7, _, k7⟩
      have K7 := K6.trans k7
      have b4 := b4.grew k7
      have b6 := b6.grew k7
      clear h7
      have hdx7 : dlen (Y + 1) ≤ 5000 := HD2.out _ (by have := HYb.out; omega)
      have h8 := rSmall 3 (by omega) w7
      go_wp2_with fail
      refine h8.mono ?_
      rintro e w8 ⟨v8, rfl, b8, _, k8⟩
      have K8 := K7.trans k8
      have b4 := b4.grew k8
      have b6 := b6.grew k8
      have b7 := b7.grew k8
      clear h8
      have h9 := rShl v8 3 i w8 b8 (by have := (dlen_le 3 1).2 (by omega); omega) (by omega)
      go_wp2_with fail
      refine h9.mono ?_
      rintro e w9 ⟨v9, rfl, b9, _, k9⟩
      have K9 := K8.trans k9
      have b4 := b4.grew k9
      have b6 := b6.grew k9
      have b7 := b7.grew k9
      have b8 := b8.grew k9
      clear h9
      rw [HPE.out] at b9
      have h10 := rAdd v7 v9 (Y + 1) (PP * 3) w9 b7 b9 (by omega) (by have := HD2.out (PP * 3) (by omega); omega)
      go_wp2_with fail
      refine h10.mono ?_
      rintro e w10 ⟨v10, rfl, b10, _, k10⟩
      have K10 := K9.trans k10
      have b4 := b4.grew k10
      have b6 := b6.grew k10
      have b7 := b7.grew k10
      have b8 := b8.grew k10
      have b9 := b9.grew k10
      clear h10
      have h11 := rNat v10 _ y w10 b10 (by omega)
      go_wp2_with fail
      refine h11.mono ?_
      rintro r w11 ⟨v11, rfl, r11, o11, k11⟩
      have K11 := K10.trans k11
      clear h11
      go_wp2_with fail
      go_ret2
      exact ⟨_, by rw [HE.out]; rfl, by rw [HR.out, HC2.out]; exact r11, (fun b hb => by have hb' : v11.ownBlock = some b := hb; rw [o11] at hb'; cases hb'; exact K10.size), K11⟩
    · rw [show Y % 2 = 1 by omega] at h5
      have HC2 : Hid (candN bs j = Y + PP * 3) := by unfold Hid; rw [HC.out, if_neg a5, Nat.add_zero, HPOW.out]
      clear HC HPOW a5
      go_wp2_with fail
      refine h5.mono ?_
      rintro r w5 ⟨rfl, rfl⟩
      clear h5
      have K5 := K4
      have h6 := rSmall 3 (by omega) w5
      go_wp2_with fail
      refine h6.mono ?_
      rintro e w6 ⟨v6, rfl, b6, _, k6⟩
      have K6 := K5.trans k6
      have b4 := b4.grew k6
      clear h6
      have h7 := rShl v6 3 i w6 b6 (by have := (dlen_le 3 1).2 (by omega); omega) (by omega)
      go_wp2_with fail
      refine h7.mono ?_
      rintro e w7 ⟨v7, rfl, b7, _, k7⟩
      have K7 := K6.trans k7
      have b4 := b4.grew k7
      have b6 := b6.grew k7
      clear h7
      rw [HPE.out] at b7
      have h8 := rAdd v4 v7 Y (PP * 3) w7 b4 b7 (by have := HD2.out Y (by have := HYb.out; omega); omega) (by have := HD2.out (PP * 3) (by omega); omega)
      go_wp2_with fail
      refine h8.mono ?_
      rintro e w8 ⟨v8, rfl, b8, _, k8⟩
      have K8 := K7.trans k8
      have b4 := b4.grew k8
      have b6 := b6.grew k8
      have b7 := b7.grew k8
      clear h8
      have h9 := rNat v8 _ y w8 b8 (by omega)
      go_wp2_with fail
      refine h9.mono ?_
      rintro r w9 ⟨v9, rfl, r9, o9, k9⟩
      have K9 := K8.trans k9
      clear h9
      go_wp2_with fail
      go_ret2
      exact ⟨_, by rw [HE.out]; rfl, by rw [HR.out, HC2.out]; exact r9, (fun b hb => by have hb' : v9.ownBlock = some b := hb; rw [o9] at hb'; cases hb'; exact K8.size), K9⟩
  · have a3' : ¬ (n : Int) = (z : Int) := by omega
    have HB := toHid (hE1.out (.inr (.inr a3')))
    clear hE1 hE hRL hF hu hz
    go_enter Tryz.func24, Tryz.ntmps24
    go_wp2_with fail
    go_ret2
    exact ⟨_, by rw [HB.out.1]; rfl, by rw [HB.out.2]; exact Row.nil _ _, (fun b hb => by cases hb), Kept.refl _ _⟩

end Go.Proofs.YtcjaafmlflonhaaGreatDoor


/- Numbers of a sieve: which places are struck out; no program in it. -/
namespace Go.Proofs.YtcjaafmlflonhaaGreatDoor
open Go.RowKit

/-- Place j is struck out once the primes below p had their multiples struck out. -/
def Struck (m p j : Nat) : Prop := j ≤ m ∧ ∃ q, PrimeN q ∧ q < p ∧ q * q ≤ j ∧ j % q = 0

/-- The places, as they lie in the array. -/
def StkL (m p : Nat) (zs : List Nat) : Prop := zs.length = 10001 ∧ ∀ j, zs.getD j 0 = 1 ↔ Struck m p j

/-- The places while the multiples of p up to t are struck out. -/
def StkM (m p t : Nat) (zs : List Nat) : Prop := zs.length = 10001 ∧ ∀ j, zs.getD j 0 = 1 ↔ (Struck m p j ∨ (j ≤ m ∧ p * p ≤ j ∧ j < t ∧ j % p = 0))

theorem stk_zero (m : Nat) : StkL m 2 (List.replicate 10001 0) := by
  refine ⟨List.length_replicate, fun j => ⟨fun h => ?_, fun h => ?_⟩⟩
  · rw [List.getD_eq_getElem?_getD, List.getElem?_replicate] at h
    split at h
    · cases h
    · cases h
  · obtain ⟨_, q, hq, h2, _⟩ := h
    exact absurd hq.1 (by omega)

/-- The least divisor above 1. -/
theorem least_div {n : Nat} (hn : 2 ≤ n) : ∃ d, 2 ≤ d ∧ d ≤ n ∧ n % d = 0 ∧ ∀ e, 2 ≤ e → e < d → n % e ≠ 0 := by
  have key : ∀ k, (∀ e, 2 ≤ e → e < n + 1 - k → n % e ≠ 0) ∨ ∃ d, 2 ≤ d ∧ d ≤ n ∧ n % d = 0 ∧ ∀ e, 2 ≤ e → e < d → n % e ≠ 0 := by
    intro k
    have : ∀ b, (∀ e, 2 ≤ e → e < b → n % e ≠ 0) ∨ ∃ d, 2 ≤ d ∧ d < b ∧ n % d = 0 ∧ ∀ e, 2 ≤ e → e < d → n % e ≠ 0 := by
      intro b
      induction b with
      | zero => exact .inl (fun e _ h => by omega)
      | succ b ih =>
        rcases ih with h | ⟨d, h1, h2, h3, h4⟩
        · by_cases hb : 2 ≤ b ∧ n % b = 0
          · exact .inr ⟨b, hb.1, by omega, hb.2, h⟩
          · refine .inl (fun e h1 h2 => ?_)
            by_cases eb : e = b
            · subst eb
              exact fun h3 => hb ⟨h1, h3⟩
            · exact h e h1 (by omega)
        · exact .inr ⟨d, h1, by omega, h3, h4⟩
    rcases this (n + 1) with h | ⟨d, h1, h2, h3, h4⟩
    · exact absurd (Nat.mod_self n) (h n hn (by omega))
    · exact .inr ⟨d, h1, by omega, h3, h4⟩
  rcases key 0 with h | h
  · exact absurd (Nat.mod_self n) (h n hn (by omega))
  · exact h

theorem least_prime {n d : Nat} (hd : 2 ≤ d) (h : n % d = 0) (hl : ∀ e, 2 ≤ e → e < d → n % e ≠ 0) : PrimeN d := by
  refine ⟨hd, fun e h1 h2 h3 => hl e h1 h2 ?_⟩
  exact Nat.mod_eq_zero_of_dvd (Nat.dvd_trans (Nat.dvd_of_mod_eq_zero h3) (Nat.dvd_of_mod_eq_zero h))

/-- What isn't struck out when its turn comes is a prime. -/
theorem stk_prime {m p : Nat} (h2 : 2 ≤ p) (hm : p ≤ m) : ¬ Struck m p p ↔ PrimeN p := by
  constructor
  · intro h
    obtain ⟨d, h3, h4, h5, h6⟩ := least_div h2
    by_cases hdp : d = p
    · subst hdp
      exact least_prime h3 h5 h6
    · exfalso
      refine h ⟨hm, d, least_prime h3 h5 h6, by omega, ?_, h5⟩
      obtain ⟨c, hc⟩ := Nat.dvd_of_mod_eq_zero h5
      have hc2 : d ≤ c := by
        rcases Nat.lt_or_ge c d with h7 | h7
        · exfalso
          have hc1 : 2 ≤ c := by
            rcases Nat.lt_or_ge c 2 with h8 | h8
            · have h01 : c = 0 ∨ c = 1 := by omega
              rcases h01 with rfl | rfl
              · omega
              · omega
            · exact h8
          refine h6 c hc1 h7 ?_
          rw [hc, Nat.mul_comm]
          exact Nat.mul_mod_right c d
        · exact h7
      rw [hc]
      exact Nat.mul_le_mul_left d hc2
  · rintro hp ⟨_, q, hq, h3, _, h5⟩
    exact hp.2 q hq.1 h3 h5

theorem StkL.skip {m p : Nat} {zs : List Nat} (h : StkL m p zs) (hp : ¬ PrimeN p) : StkL m (p + 1) zs := by
  refine ⟨h.1, fun j => (h.2 j).trans ⟨?_, ?_⟩⟩
  · rintro ⟨h1, q, h2, h3, h4, h5⟩
    exact ⟨h1, q, h2, by omega, h4, h5⟩
  · rintro ⟨h1, q, h2, h3, h4, h5⟩
    refine ⟨h1, q, h2, ?_, h4, h5⟩
    have : q ≠ p := fun e => hp (e ▸ h2)
    omega

theorem StkL.into {m p : Nat} {zs : List Nat} (h : StkL m p zs) : StkM m p (p * p) zs :=
  ⟨h.1, fun j => (h.2 j).trans ⟨.inl, fun e => by
    rcases e with e | ⟨_, h2, h3, _⟩
    · exact e
    · omega⟩⟩

theorem StkM.set {m p t : Nat} {zs : List Nat} (h : StkM m p t zs) (hm : m ≤ 10000) (ht : t ≤ m) (hp : p * p ≤ t) (hd : t % p = 0) (h0 : 0 < p) : StkM m p (t + p) (zs.set t 1) := by
  refine ⟨by rw [List.length_set]; exact h.1, fun j => ?_⟩
  by_cases hj : j = t
  · subst hj
    rw [List.getD_eq_getElem?_getD, List.getElem?_set_self (by rw [h.1]; omega)]
    exact ⟨fun _ => .inr ⟨ht, hp, by omega, hd⟩, fun _ => rfl⟩
  · have e1 : (zs.set t 1).getD j 0 = zs.getD j 0 := by
      rw [List.getD_eq_getElem?_getD, List.getD_eq_getElem?_getD, List.getElem?_set_ne (fun e => hj e.symm)]
    rw [e1, h.2 j]
    constructor
    · rintro (e | ⟨h1, h2, h3, h4⟩)
      · exact .inl e
      · exact .inr ⟨h1, h2, by omega, h4⟩
    · rintro (e | ⟨h1, h2, h3, h4⟩)
      · exact .inl e
      · refine .inr ⟨h1, h2, ?_, h4⟩
        rcases Nat.lt_or_ge j t with h5 | h5
        · exact h5
        · exfalso
          obtain ⟨r, rfl⟩ : ∃ r, j = t + r := ⟨j - t, by omega⟩
          rw [Nat.add_mod, hd, Nat.zero_add, Nat.mod_mod, Nat.mod_eq_of_lt (by omega)] at h4
          omega

theorem StkM.out {m p t : Nat} {zs : List Nat} (h : StkM m p t zs) (ht : m < t) (hp : PrimeN p) : StkL m (p + 1) zs := by
  refine ⟨h.1, fun j => (h.2 j).trans ⟨?_, ?_⟩⟩
  · rintro (⟨h1, q, h2, h3, h4, h5⟩ | ⟨h1, h2, _, h4⟩)
    · exact ⟨h1, q, h2, by omega, h4, h5⟩
    · exact ⟨h1, p, hp, by omega, h2, h4⟩
  · rintro ⟨h1, q, h2, h3, h4, h5⟩
    by_cases e : q = p
    · subst e
      exact .inr ⟨h1, h4, by omega, h5⟩
    · exact .inl ⟨h1, q, h2, by omega, h4, h5⟩

theorem primesTo_step {p : Nat} (h : 1 ≤ p) (hp : PrimeN p) : primesTo (p - 1) ++ [p] = primesTo p := by
  obtain ⟨q, rfl⟩ : ∃ q, p = q + 1 := ⟨p - 1, by omega⟩
  rw [Nat.add_sub_cancel, primesTo_succ, if_pos hp]

theorem primesTo_skip {p : Nat} (h : 1 ≤ p) (hp : ¬ PrimeN p) : primesTo (p - 1) = primesTo p := by
  obtain ⟨q, rfl⟩ : ∃ q, p = q + 1 := ⟨p - 1, by omega⟩
  rw [Nat.add_sub_cancel, primesTo_succ, if_neg hp, List.append_nil]

/-- Noughts, as many as they should be. -/
def zerB : List Value → Nat → Bool
  | [], n => n == 0
  | v :: l, n => match v with
    | .int .u8 0 => (match n with | 0 => false | m + 1 => zerB l m)
    | _ => false

theorem zerB_spec : ∀ (l : List Value) (n : Nat), zerB l n = true → l = List.replicate n (.int .u8 0)
  | [], n, h => by
    have : n = 0 := by simpa [zerB] using h
    subst this; rfl
  | v :: l, n, h => by
    unfold zerB at h
    split at h
    · cases n with
      | zero => cases h
      | succ m => rw [List.replicate_succ, ← zerB_spec l m h]
    · cases h

theorem Tryz.zeros16 : (match (Tryz.prog.info? 157).bind (fun i => i.zero) with | some (.agg cs) => zerB cs.toList 10001 | _ => false) = true := by kernel_rfl

/-- What a new array of places holds. -/
theorem zero16 : ∃ cs : Array Value, cs = ((List.replicate 10001 0).map fun z : Nat => Value.int .u8 (z : Int)).toArray ∧ ∀ w, Sem.run Tryz.prog (zeroValue 157) w = .ok (.agg cs) w := by
  have h := Tryz.zeros16
  cases hi : Tryz.prog.info? 157 with
  | none => rw [hi] at h; cases h
  | some i =>
    rw [hi] at h
    simp only [Option.bind_some] at h
    split at h
    · rename_i cs hz
      refine ⟨cs, ?_, fun w => ?_⟩
      · have e := zerB_spec _ _ h
        rw [List.map_replicate]
        show cs = (List.replicate 10001 (Value.int .u8 0)).toArray
        rw [← e]
      · simp only [zeroValue, typeInfo]
        simp [go_sem, hi, hz]
    · cases h

end Go.Proofs.YtcjaafmlflonhaaGreatDoor


/- A range over a function whose iterator writes new memory of its own alone (the blocks of T): what the caller keeps through it may speak of new memory too, but for those blocks. -/
namespace Go.Proofs.YtcjaafmlflonhaaGreatDoor
open Go.RowKit Go.Shelf

/-- What stands while the blocks of T alone are written, and memory is made. -/
def LowU {β : Type} (T : Nat → Prop) (J : β → World → Prop) : Prop := ∀ s A C, J s A → Kept T A C → J s C

theorem Books.but {d : Nat} {r : Loop} {A C : World} {Sb : Nat → Prop} (h : Books d r A) (k : Kept Sb A C) (h0 : ¬ Sb d) (h1 : ¬ Sb (d + 1)) : Books d r C := by
  have hl := h.lt
  exact ⟨(k.block _ hl h1).trans h.1, (k.block _ (by omega) h0).trans h.2⟩

/-- An iterator that writes the blocks of T, and makes memory; what it hands out is told by X in the world of that call, how it ends by S. -/
def SeqU {α : Type} (n : Nat) (P : Program) (g : Nat) (lb : Array Value) (encs : α → Array Value) (X : List α → α → World → Prop) (Sb T : Nat → Prop) (S : List α → World → Prop) (w : World) : Prop :=
  ∀ (l : Nat) (J Jx : List α → World → Prop) (W : World), Kept Nought w W → l = w.heap.size + 1 → W.heap.size = w.heap.size + 2 →
    LowU T J →
    (∀ pre x A, J pre A → X pre x A → YieldAt Fence.wide (n - 1) P l (encs x) A fun e C =>
      (e = .returned (.bool true) ∧ J (pre ++ [x]) C ∧ Kept (fun b => Sb b ∨ b = l ∨ b + 1 = l) A C) ∨ (e = .returned (.bool false) ∧ Jx (pre ++ [x]) C)) →
    J [] W →
    CallsIn Fence.wide n P g (#[.func (.yield l) #[] #[]] ++ lb) W fun e C => (∃ v, e = .returned v) ∧ ((∃ s, S s C ∧ J s C) ∨ ∃ s, Jx s C)

/-- A range over such a function. -/
theorem wpIn_range_new {α : Type} {P : Program} {n : Nat} {g : Operand} {ps : Array Tmp} {assign body : Code} {Q : Exit → Act → World → Prop} {a : Act} {w : World} (h1 : 1 ≤ n) {gf : Nat} {lb : Array Value}
    (hg : a.eval g = .func (.func gf) #[] lb) (eg : ∀ args w, (callFunc gf args).run P w = .ok (.enter gf args) w)
    {encs : α → Array Value} {X : List α → α → World → Prop} {Sb T : Nat → Prop} {S : List α → World → Prop} (hseq : SeqU (n - 1) P gf lb encs X Sb T S w) (hps : ∀ x, (encs x).size = ps.size) (hSb : ¬ Sb w.heap.size ∧ ¬ Sb (w.heap.size + 1)) (hT : ¬ T w.heap.size ∧ ¬ T (w.heap.size + 1))
    (hX : ∀ pre x A l o o', X pre x A → A.heap[l]? = some o → o.isCells = false → X pre x (A.putObj l o'))
    (I : List α → World → Prop) (Ix : Code → List α → World → Prop) (hI : LowU T I) (hIt : Turns w.heap.size I) (hIx : ∀ c, Turns w.heap.size (Ix c)) (hS : Turns w.heap.size S) (h0 : I [] w) (a₁ : α → Act)
    (hassign : ∀ (l : Nat) (x : α) (W : World) (K : Act → World → Prop), K (a₁ x) W → assign.wpIn (Fence.wide.inRound l) (n - 1 - 1) P (Exit.then K (fun _ _ _ => False)) { tmps := (ps.zip (encs x)).foldl (fun t (p, v) => t.setIfInBounds p v) a.tmps, defers := [] } W)
    (hbody : ∀ (l : Nat) (pre : List α) (x : α) (W : World), I pre W → X pre x W → body.wpIn (Fence.wide.inRound l) (n - 1 - 1) P (leftC Sb I Ix (pre ++ [x]) W) (a₁ x) W)
    (hdone : ∀ (D : Nat) (s : List α) (W : World), w.heap.size ≤ D → S s W → I s W → W.heap[D]? = some (.deferred (some [])) → Q .normal { a with defers := { target := .collected D, args := #[] } :: a.defers } W)
    (hstop : ∀ (D : Nat) (c : Code) (s : List α) (W : World), w.heap.size ≤ D → Ix c s W → W.heap[D]? = some (.deferred (some [])) → c.wpIn Fence.wide n P Q { a with defers := { target := .collected D, args := #[] } :: a.defers } W) :
    (Code.rangeFunc g ps assign body).wpIn Fence.wide n P Q a w := by
  refine wpIn_rangeFunc fun fn hfn => ?_
  obtain ⟨rec, hrec⟩ : ∃ rec : LoopState → Option Code → Loop, rec = fun st pe => { state := st, pending := pe, fn, tmps := a.tmps, params := ps, assign, body, defers := w.heap.size } := ⟨_, rfl⟩
  obtain ⟨W1, hW1⟩ : ∃ W1, W1 = (w.alloc (.deferred (some []))).alloc (.loop (rec .ready none)) := ⟨_, rfl⟩
  have hs1 : W1.heap.size = w.heap.size + 2 := by rw [hW1]; simp
  have hk1 : Kept Nought w W1 := by rw [hW1]; exact ((Kept.refl _ w).alloc _).alloc _
  have hb1 : Books w.heap.size (rec .ready none) W1 := by
    rw [hW1]
    refine ⟨?_, (Below.heap_alloc _ _ _ (by simp)).trans (World.alloc_heap_new w _)⟩
    have := World.alloc_heap_new (w.alloc (.deferred (some []))) (.loop (rec .ready none))
    rwa [World.size_alloc] at this
  refine ⟨w.heap.size + 1, [{ target := .collected w.heap.size, args := #[] }], W1, { target := .fn (.func gf) lb, args := #[.func (.yield (w.heap.size + 1)) #[] #[]] }, W1, gf, #[.func (.yield (w.heap.size + 1)) #[] #[]] ++ lb, W1, ?_, ?_, fun _ _ => trivial, ?_, fun _ => h1, ?_⟩
  · rw [hW1, hrec]
    exact run_enterLoop_outer _ _ _ _ _
  · simp only [resolve, hg]
    simp [go_sem]
  · simp [invoke, go_sem, eg]
  · have turn : ∀ (jump : Option Code) (A : World), Books w.heap.size (rec .busy none) A → ∃ C, (Instr.endRound (w.heap.size + 1) jump).run P A = .ok (.bool jump.isNone) C ∧ Books w.heap.size (rec (if jump.isNone then .ready else .done) jump) C ∧ Below w.heap.size A C ∧ Kept (fun b => b = w.heap.size + 1) A C ∧ ∃ o', C = A.putObj (w.heap.size + 1) o' := fun jump A hb => by
      refine ⟨_, run_endRound (P := P) jump hb.1, ?_, low_put _ (by omega), kept_put _ _ _, _, rfl⟩
      have := hb.put { rec .busy none with state := if jump.isNone then .ready else .done, pending := jump }
      rw [hrec] at this ⊢
      exact this
    have hLow : ∀ {β : Type} {J : β → World → Prop} {r : Loop}, LowU T J → LowU T (fun s A => J s A ∧ Books w.heap.size r A) := fun hJ s A C h k =>
      ⟨hJ s A C h.1 k, h.2.but k hT.1 hT.2⟩
    refine (hseq (w.heap.size + 1) (fun s A => I s A ∧ Books w.heap.size (rec .ready none) A) (fun s A => ∃ c, Ix c s A ∧ Books w.heap.size (rec .done (some c)) A) W1 hk1 rfl hs1 (hLow hI) ?_ ⟨hI _ _ _ h0 hk1.any, hb1⟩).mono ?_
    · rintro pre x A ⟨hi, hb⟩ hx
      have hy := run_yield (P := P) (args := encs x) hb.1 (by rw [hrec]; exact hps x)
      rw [hrec] at hy
      refine ⟨fn, _, assign, body, hy, roundIn_of_wpIn hfn (hassign _ x A _ ⟨_, run_beginRound hb.1 (by rw [hrec]), ?_⟩)⟩
      have hb2 := hb.put { rec .ready none with state := .busy }
      have hx2 := hX pre x A _ _ (.loop { rec .ready none with state := .busy }) hx hb.1 rfl
      have hi2 := hIt _ _ _ _ (.loop { rec .ready none with state := .busy }) hi (by omega) hb.1 rfl
      have hk2 := kept_put A (w.heap.size + 1) (.loop { rec .ready none with state := .busy })
      have hb3 : ∀ C, Kept Sb (A.putObj (w.heap.size + 1) (.loop { rec .ready none with state := .busy })) C → Books w.heap.size (rec .busy none) C := fun C k => by
        have := hb2.but k hSb.1 hSb.2
        rw [hrec] at this ⊢
        exact this
      refine wpIn_mono (hbody _ pre x _ hi2 hx2) ?_
      generalize A.putObj (w.heap.size + 1) (.loop { rec .ready none with state := .busy }) = A2 at *
      have out : ∀ (c : Code) (C : World), Kept Sb A2 C → Ix c (pre ++ [x]) C → ∃ v C', (Instr.endRound (w.heap.size + 1) (some c)).run P C = .ok v C' ∧ ((Ending.returned v = .returned (.bool true) ∧ (I (pre ++ [x]) C' ∧ Books w.heap.size (rec .ready none) C') ∧ Kept (fun b => Sb b ∨ b = w.heap.size + 1 ∨ b + 1 = w.heap.size + 1) A C') ∨ (Ending.returned v = .returned (.bool false) ∧ ∃ c, Ix c (pre ++ [x]) C' ∧ Books w.heap.size (rec .done (some c)) C')) := fun c C k hc => by
        obtain ⟨C', hr, hb4, _, _, o', rfl⟩ := turn (some c) C (hb3 C k)
        exact ⟨_, _, hr, .inr ⟨rfl, c, hIx c _ _ _ _ o' hc (by omega) (hb3 C k).1 rfl, hb4⟩⟩
      rintro e a3 C hp
      cases e with
      | normal =>
        obtain ⟨k, hi3⟩ := hp
        obtain ⟨C', hr, hb4, hl4, hk4, o', rfl⟩ := turn none C (hb3 C k)
        exact ⟨_, _, hr, .inl ⟨rfl, ⟨hIt _ _ _ _ o' hi3 (by omega) (hb3 C k).1 rfl, hb4⟩, ((hk2.mono (fun _ _ e => .inr (.inl e))).next k (fun _ _ e => .inl e)).next hk4 (fun _ _ e => .inr (.inl e))⟩⟩
      | ret => exact out _ C hp.1 hp.2
      | exit i => exact out _ C hp.1 hp.2
      | goto t => exact out _ C hp.1 hp.2
      | panic c => exact hp.elim
      | outgrown => exact hp.elim
    · rintro e C ⟨⟨v, rfl⟩, (⟨s, hSs, hi, hb⟩ | ⟨s, c, hi, hb⟩)⟩
      · refine ⟨_, _, run_endLoop (P := P) hb.1 (by rw [hrec]; simp), ?_⟩
        rw [hrec] at hb ⊢
        exact hdone _ s _ (Nat.le_refl _) (hS _ _ _ _ _ hSs (by omega) hb.1 rfl) (hIt _ _ _ _ _ hi (by omega) hb.1 rfl) ((World.putObj_heap_other (by omega)).trans hb.2)
      · refine ⟨_, _, run_endLoop (P := P) hb.1 (by rw [hrec]; simp), ?_⟩
        rw [hrec] at hb ⊢
        exact hstop _ c s _ (Nat.le_refl _) (hIx c _ _ _ _ _ hi (by omega) hb.1 rfl) ((World.putObj_heap_other (by omega)).trans hb.2)

end Go.Proofs.YtcjaafmlflonhaaGreatDoor

