/- Put together of: Key3 Pri0 Base4 Lays NatB. -/
import Derived.Test.YtcjaafmlflonhaaDoorPk5
import Derived.Test.YtcjaafmlflonhaaDoorRows
import Derived.Shelf.Strconv.Itoa0
import Derived.Lib.ItoaNum
import Derived.Laws.CopyOwn
import Derived.Shelf.Strings.BuilderK
import Derived.Shelf.Strings.Repeat
import Derived.Shelf.Small.Wraps
import Derived.RangeFuncWrites
import Derived.RangeFuncNested
import Derived.RangeFuncBound
import Derived.RangeFuncCalls
import Derived.RangeFuncLeaves
import Derived.RangeFuncBox
import Derived.Shelf.Abstract
import Derived.Shelf.RegionOpen
import Derived.OwnWalkIn
import Derived.TacticsInMore
import Derived.LoopNIn
import Derived.LoopIn
import Derived.Deep.RegionHeld3

/- The plain side of layer 18 (package sconceref18): Good, Candidate. -/
namespace Go.Proofs.YtcjaafmlflonhaaDoor
open Go.RowKit

/-- Whether X may be a prime for the exponent e. -/
def goodN (X e : Nat) : Prop := X ≠ 0 ∧ e ≠ 0 ∧ passN X ∧ Nat.gcd (X - 1) e = 1

set_option maxRecDepth 20000 in
set_option maxHeartbeats 2000000 in
/-- Good. -/
theorem r18Good (ao : Option Addr) (L cap : Nat) (xs : List Nat) (e : Nat) (he : e < 18446744073709551616) (R : Bool) (hR : R = true ↔ goodN (val 18446744073709551616 xs) e) (w : World) (hu : Row .u64 w (.slice ao L cap) xs) (hdx : Digs 18446744073709551616 xs) (hLb : L ≤ 1000000) :
    Calls Tryd.prog 10 #[.slice ao L cap, .int .u64 (e : Nat)] w fun r w' => r = .returned (.bool R) ∧ Kept Nought w w' := by
  obtain ⟨_, _, _, e1, hL, -, -, -, -⟩ := hu.open
  cases e1
  have hO := rOf _ xs w hu hdx (by rw [hL.out]; omega)
  have JP : Hid (∀ W (Q : Bool), (Q = true ↔ passN (val 18446744073709551616 xs)) → Kept Nought w W → Calls Tryd.prog 28 #[.slice ao L cap] W fun e w' => e = .returned (.bool Q) ∧ Kept Nought W w') := fun W Q hQ k => r16Passes ao L cap xs Q hQ W (hu.grew k) hdx hLb
  have hdX : dlen (val 18446744073709551616 xs) ≤ 2 * L := (dlen_le _ _).2 (by rw [Nat.pow_mul, ← hL.out]; exact val_lt (by omega) hdx)
  have HR := toHid hR
  have HF : Hid (¬ goodN (val 18446744073709551616 xs) e → R = false) := fun h => by
    cases h2 : R with
    | false => rfl
    | true => exact absurd (HR.out.1 h2) h
  clear hu hdx hL hR
  generalize val 18446744073709551616 xs = X at *
  go_enter Tryd.func10, Tryd.ntmps10
  go_wp2_with fail
  refine hO.mono ?_
  rintro r w1 ⟨v1, rfl, b1, _, K1⟩
  obtain ⟨bo, bn, bc, rfl, hbn, -⟩ := b1.length
  clear hO
  by_cases a1 : X = 0
  · have HT := toHid (HF.out (fun h => h.1 a1))
    have hbn0 : bn = 0 := by rw [hbn.out, a1]; rfl
    subst hbn0
    go_wp2_with fail
    go_ret
    exact ⟨by rw [HT.out]; rfl, K1⟩
  have hbn1 : 0 < bn := by rw [hbn.out]; exact dlen_pos (by omega)
  have q1 : ((bn : Int) == 0) = false := by simp; omega
  clear hbn
  by_cases a2 : e = 0
  · have HT := toHid (HF.out (fun h => h.2.1 a2))
    subst a2
    go_wp2_with fail
    go_ret
    exact ⟨by rw [HT.out]; rfl, K1⟩
  have q2 : ((e : Int) == 0) = false := by simp; omega
  by_cases a3 : passN X
  · have h2 := JP.out w1 true (by simp [a3]) K1
    go_wp2_with fail
    refine h2.mono ?_
    rintro r w2 ⟨rfl, k2⟩
    have K2 := K1.trans k2
    have b1 := b1.grew k2
    clear h2
    have h3 := r18one w2
    go_wp2_with fail
    refine h3.mono ?_
    rintro e w3 ⟨v3, rfl, b3, _, k3⟩
    have K3 := K2.trans k3
    have b1 := b1.grew k3
    clear h3
    have h4 := rSub _ v3 X 1 w3 b1 b3 (by omega)
    go_wp2_with fail
    refine h4.mono ?_
    rintro e w4 ⟨v4, rfl, b4, _, k4⟩
    have K4 := K3.trans k4
    have b1 := b1.grew k4
    have b3 := b3.grew k4
    clear h4
    have h5 := rSmall e he w4
    go_wp2_with fail
    refine h5.mono ?_
    rintro e w5 ⟨v5, rfl, b5, _, k5⟩
    have K5 := K4.trans k5
    have b1 := b1.grew k5
    have b3 := b3.grew k5
    have b4 := b4.grew k5
    clear h5
    have hdX1 : dlen (X - 1) ≤ 10000000 := by have := dlen_mono (show X - 1 ≤ X by omega); omega
    have hde : dlen e ≤ 2 := (dlen_le _ _).2 (by omega)
    have h6 := rGcd v4 v5 (X - 1) e w5 b4 b5 hdX1 (by omega)
    go_wp2_with fail
    refine h6.mono ?_
    rintro e w6 ⟨v6, rfl, b6, _, k6⟩
    have K6 := K5.trans k6
    have b1 := b1.grew k6
    have b3 := b3.grew k6
    have b4 := b4.grew k6
    have b5 := b5.grew k6
    clear h6
    have h7 := r18one w6
    go_wp2_with fail
    refine h7.mono ?_
    rintro e w7 ⟨v7, rfl, b7, _, k7⟩
    have K7 := K6.trans k7
    have b1 := b1.grew k7
    have b3 := b3.grew k7
    have b4 := b4.grew k7
    have b5 := b5.grew k7
    have b6 := b6.grew k7
    clear h7
    have h8 := rCmp v6 v7 _ 1 w7 b6 b7
    by_cases a4 : Nat.gcd (X - 1) e = 1
    · have HT : Hid (R = true) := HR.out.2 ⟨a1, a2, a3, a4⟩
      rw [cmpN_eq a4] at h8
      go_wp2_with fail
      refine h8.mono ?_
      rintro r w8 ⟨rfl, m8, rfl⟩
      go_wp2_with fail
      go_ret
      exact ⟨by rw [HT.out]; rfl, K7.drewN m8⟩
    · have HT := toHid (HF.out (fun h => a4 h.2.2.2))
      have hc := cmpNne a4
      have qc : (cmpN (Nat.gcd (X - 1) e) 1 == 0) = false := by simpa using hc
      generalize cmpN (Nat.gcd (X - 1) e) 1 = c8 at *
      go_wp2_with fail
      refine h8.mono ?_
      rintro r w8 ⟨rfl, m8, rfl⟩
      go_wp2_with fail
      go_ret
      exact ⟨by rw [HT.out]; first | rfl | (show Ending.returned (Value.bool (c8 == 0)) = _; rw [qc]), K7.drewN m8⟩
  · have HT := toHid (HF.out (fun h => a3 h.2.2.1))
    have h2 := JP.out w1 false (by simp [a3]) K1
    go_wp2_with fail
    refine h2.mono ?_
    rintro r w2 ⟨rfl, k2⟩
    go_wp2_with fail
    go_ret
    exact ⟨by rw [HT.out]; rfl, K1.trans k2⟩

/-- What Candidate answers of bytes that are as many as should be. -/
def candN (bs : List Nat) (n : Nat) : Nat := (bev bs % 2 ^ (n - 2) + (if bev bs % 2 ^ (n - 2) % 2 = 0 then 1 else 0)) + 3 * 2 ^ (n - 2)

def candE (bs : List Nat) (k : Int) : Nat := if k < 16 ∨ 4096 < k ∨ (bs.length : Int) ≠ (k + 7) / 8 then 1 else 0

set_option maxRecDepth 20000 in
set_option maxHeartbeats 2000000 in
/-- Candidate. -/
theorem r18Cand (v : Value) (bs : List Nat) (k : Int) (h0 : -9223372036854775808 ≤ k) (h1 : k ≤ 9223372036854775807) (E : Nat) (RL : List Nat) (hE : E = candE bs k) (hRL : RL = if E = 0 then digs 18446744073709551616 (candN bs k.toNat) ((k.toNat + 63) / 64) else []) (w : World) (hu : Row .u8 w v bs) (hd : Digs 256 bs) (hL : bs.length ≤ 100000000) :
    Calls Tryd.prog 7 #[v, .int .i64 k] w fun e w' => ∃ v', e = .returned (.tuple #[v', .int .i64 (E : Nat)]) ∧ Row .u64 w' v' RL ∧ (∀ b, v'.ownBlock = some b → w.heap.size ≤ b) ∧ Kept Nought w w' := by
  have hF := rFromBytes v bs w hu hd hL
  obtain ⟨ao, n, cap, rfl, hn, -, -, -, -⟩ := hu.open
  have hE1 : Hid (k < 16 ∨ 4096 < k ∨ (n : Int) ≠ (k + 7) / 8 → E = 1 ∧ RL = []) := fun h => by
    have e1 : E = 1 := by rw [hE, candE, hn.out, if_pos h]
    exact ⟨e1, by rw [hRL, if_neg (by omega)]⟩
  by_cases a1 : k < 16
  · have HB := toHid (hE1.out (.inl a1))
    clear hE1 hE hRL hF hu
    go_enter Tryd.func7, Tryd.ntmps7
    go_wp2_with fail
    go_ret2
    exact ⟨_, by rw [HB.out.1]; rfl, by rw [HB.out.2]; exact Row.nil _ _, (fun b hb => by cases hb), Kept.refl _ _⟩
  have q1 : decide (k < 16) = false := decide_eq_false a1
  by_cases a2 : 4096 < k
  · have HB := toHid (hE1.out (.inr (.inl a2)))
    clear hE1 hE hRL hF hu
    go_enter Tryd.func7, Tryd.ntmps7
    go_wp2_with fail
    go_ret2
    exact ⟨_, by rw [HB.out.1]; rfl, by rw [HB.out.2]; exact Row.nil _ _, (fun b hb => by cases hb), Kept.refl _ _⟩
  have q2 : decide ((4096 : Int) < k) = false := decide_eq_false a2
  obtain ⟨j, rfl⟩ : ∃ j : Nat, k = (j : Int) := ⟨k.toNat, by omega⟩
  rw [Int.toNat_natCast] at hRL
  obtain ⟨z, hz⟩ : ∃ z, z = (j + 7) / 8 := ⟨_, rfl⟩
  have hsz : ((j : Int) + 7).tdiv 8 = (z : Int) := by rw [Int.tdiv_eq_ediv_of_nonneg (by omega)]; omega
  have hszd : ((j : Int) + 7) / 8 = (z : Int) := by omega
  rw [hszd] at hE1
  by_cases a3 : n = z
  · have HE : Hid (E = 0) := by
      unfold Hid
      rw [hE, candE, hn.out, hszd, if_neg (by omega)]
    have HR : Hid (RL = digs 18446744073709551616 (candN bs j) ((j + 63) / 64)) := by unfold Hid; rw [hRL, if_pos HE.out]
    subst a3
    obtain ⟨y, hy⟩ : ∃ y, y = (j + 63) / 64 := ⟨_, rfl⟩
    have hsy : ((j : Int) + 63).tdiv 64 = (y : Int) := by rw [Int.tdiv_eq_ediv_of_nonneg (by omega)]; omega
    have hsyd : ((j : Int) + 63) / 64 = (y : Int) := by omega
    rw [← hy] at HR
    obtain ⟨i, hi⟩ : ∃ i, i = j - 2 := ⟨_, rfl⟩
    have gi : (j : Int) - 2 = (i : Int) := by omega
    have hdb : dlen (bev bs) ≤ 1000000 := by
      have h1 := bev_ltB hd
      rw [hn.out] at h1
      have h2 : dlen (bev bs) ≤ n := (dlen_le _ _).2 (Nat.lt_of_lt_of_le h1 (Nat.pow_le_pow_left (by omega) n))
      omega
    have HC : Hid (candN bs j = (bev bs % 2 ^ i + (if bev bs % 2 ^ i % 2 = 0 then 1 else 0)) + 3 * 2 ^ i) := by unfold Hid candN; rw [hi]
    have hi2 : i ≤ 4096 := by omega
    have hy2 : y ≤ 1000 := by omega
    clear hE1 hE hRL hu hz hy hi hd
    have hd2 : ∀ V, V ≤ 2 ^ i * 4 → dlen V ≤ 5000 := fun V hV => by
      have h1 : 2 ^ i ≤ 4294967296 ^ i := Nat.pow_le_pow_left (by omega) i
      have h2 : 0 < 4294967296 ^ i := Nat.pow_pos (by omega)
      have : V < 4294967296 ^ (i + 1) := by
        rw [Nat.pow_succ]
        omega
      have := (dlen_le _ _).2 this
      omega
    have hp0 : 0 < 2 ^ i := Nat.pow_pos (by omega)
    have HD2 := toHid hd2
    clear hd2
    go_enter Tryd.func7, Tryd.ntmps7
    go_wp2_with fail
    refine hF.mono ?_
    rintro r w1 ⟨v1, rfl, b1, _, K1⟩
    clear hF
    have h2 := r18one w1
    go_wp2_with fail
    refine h2.mono ?_
    rintro e w2 ⟨v2, rfl, b2, _, k2⟩
    have K2 := K1.trans k2
    have b1 := b1.grew k2
    clear h2
    have h3 := rShl v2 1 i w2 b2 (by have := (dlen_le 1 1).2 (by omega); omega) (by omega)
    go_wp2_with fail
    refine h3.mono ?_
    rintro e w3 ⟨v3, rfl, b3, _, k3⟩
    have K3 := K2.trans k3
    have b1 := b1.grew k3
    have b2 := b2.grew k3
    clear h3
    have h4 := rMod v1 v3 (bev bs) (2 ^ i * 1) w3 b1 b3 (by omega) (by omega)
    go_wp2_with fail
    refine h4.mono ?_
    rintro e w4 ⟨v4, rfl, b4, _, k4⟩
    have K4 := K3.trans k4
    have b1 := b1.grew k4
    have b2 := b2.grew k4
    have b3 := b3.grew k4
    clear h4
    have hV4 : bev bs % (2 ^ i * 1) = bev bs % 2 ^ i := by rw [Nat.mul_one]
    rw [hV4] at b4
    obtain ⟨Y, hY⟩ : ∃ Y, Y = bev bs % 2 ^ i := ⟨_, rfl⟩
    have hYlt : Y < 2 ^ i := by rw [hY]; exact Nat.mod_lt _ hp0
    rw [← hY] at b4 HC
    have h5 := rBit v4 Y 0 w4 b4 (by omega)
    rw [show bitN Y 0 = Y % 2 by unfold bitN; simp] at h5
    clear hV4 hY b1 b2 b3
    have HPOW : Hid (2 ^ i * 3 = 3 * 2 ^ i) := Nat.mul_comm _ _
    have HYb := toHid hYlt
    obtain ⟨PP, hPP⟩ : ∃ PP, PP = 2 ^ i := ⟨_, rfl⟩
    rw [← hPP] at HYb HPOW HD2 HC hp0
    have HPE : Hid (2 ^ i * 3 = PP * 3) := by unfold Hid; rw [hPP]
    clear hYlt hPP
    by_cases a5 : Y % 2 = 0
    · rw [a5] at h5
      have HC2 : Hid (candN bs j = Y + 1 + PP * 3) := by unfold Hid; rw [HC.out, if_pos a5, HPOW.out]
      clear HC HPOW a5
      go_wp2_with fail
      refine h5.mono ?_
      rintro r w5 ⟨rfl, rfl⟩
      clear h5
      have K5 := K4
      have h6 := r18one w5
      go_wp2_with fail
      refine h6.mono ?_
      rintro e w6 ⟨v6, rfl, b6, _, k6⟩
      have K6 := K5.trans k6
      have b4 := b4.grew k6
      clear h6
      have h7 := rAdd v4 v6 Y 1 w6 b4 b6 (by have := HD2.out Y (by have := HYb.out; omega); omega) (by have := (dlen_le 1 1).2 (by omega); omega)
      go_wp2_with fail
      refine h7.mono ?_
      rintro e w7 ⟨v7, rfl, b7, _, k7⟩
      have K7 := K6.trans k7
      have b4 := b4.grew k7
      have b6 := b6.grew k7
      clear h7
      have hdx7 : dlen (Y + 1) ≤ 5000 := HD2.out _ (by have := HYb.out; omega)
      have h8 := rSmall 3 (by omega) w7
      go_wp2_with fail
      refine h8.mono ?_
      rintro e w8 ⟨v8, rfl, b8, _, k8⟩
      have K8 := K7.trans k8
      have b4 := b4.grew k8
      have b6 := b6.grew k8
      have b7 := b7.grew k8
      clear h8
      have h9 := rShl v8 3 i w8 b8 (by have := (dlen_le 3 1).2 (by omega); omega) (by omega)
      go_wp2_with fail
      refine h9.mono ?_
      rintro e w9 ⟨v9, rfl, b9, _, k9⟩
      have K9 := K8.trans k9
      have b4 := b4.grew k9
      have b6 := b6.grew k9
      have b7 := b7.grew k9
      have b8 := b8.grew k9
      clear h9
      rw [HPE.out] at b9
      have h10 := rAdd v7 v9 (Y + 1) (PP * 3) w9 b7 b9 (by omega) (by have := HD2.out (PP * 3) (by omega); omega)
      go_wp2_with fail
      refine h10.mono ?_
      rintro e w10 ⟨v10, rfl, b10, _, k10⟩
      have K10 := K9.trans k10
      have b4 := b4.grew k10
      have b6 := b6.grew k10
      have b7 := b7.grew k10
      have b8 := b8.grew k10
      have b9 := b9.grew k10
      clear h10
      have h11 := rNat v10 _ y w10 b10 (by omega)
      go_wp2_with fail
      refine h11.mono ?_
      rintro r w11 ⟨v11, rfl, r11, o11, k11⟩
      have K11 := K10.trans k11
      clear h11
      go_wp2_with fail
      go_ret2
      exact ⟨_, by rw [HE.out]; rfl, by rw [HR.out, HC2.out]; exact r11, (fun b hb => by have hb' : v11.ownBlock = some b := hb; rw [o11] at hb'; cases hb'; exact K10.size), K11⟩
    · rw [show Y % 2 = 1 by omega] at h5
      have HC2 : Hid (candN bs j = Y + PP * 3) := by unfold Hid; rw [HC.out, if_neg a5, Nat.add_zero, HPOW.out]
      clear HC HPOW a5
      go_wp2_with fail
      refine h5.mono ?_
      rintro r w5 ⟨rfl, rfl⟩
      clear h5
      have K5 := K4
      have h6 := rSmall 3 (by omega) w5
      go_wp2_with fail
      refine h6.mono ?_
      rintro e w6 ⟨v6, rfl, b6, _, k6⟩
      have K6 := K5.trans k6
      have b4 := b4.grew k6
      clear h6
      have h7 := rShl v6 3 i w6 b6 (by have := (dlen_le 3 1).2 (by omega); omega) (by omega)
      go_wp2_with fail
      refine h7.mono ?_
      rintro e w7 ⟨v7, rfl, b7, _, k7⟩
      have K7 := K6.trans k7
      have b4 := b4.grew k7
      have b6 := b6.grew k7
      clear h7
      rw [HPE.out] at b7
      have h8 := rAdd v4 v7 Y (PP * 3) w7 b4 b7 (by have := HD2.out Y (by have := HYb.out; omega); omega) (by have := HD2.out (PP * 3) (by omega); omega)
      go_wp2_with fail
      refine h8.mono ?_
      rintro e w8 ⟨v8, rfl, b8, _, k8⟩
      have K8 := K7.trans k8
      have b4 := b4.grew k8
      have b6 := b6.grew k8
      have b7 := b7.grew k8
      clear h8
      have h9 := rNat v8 _ y w8 b8 (by omega)
      go_wp2_with fail
      refine h9.mono ?_
      rintro r w9 ⟨v9, rfl, r9, o9, k9⟩
      have K9 := K8.trans k9
      clear h9
      go_wp2_with fail
      go_ret2
      exact ⟨_, by rw [HE.out]; rfl, by rw [HR.out, HC2.out]; exact r9, (fun b hb => by have hb' : v9.ownBlock = some b := hb; rw [o9] at hb'; cases hb'; exact K8.size), K9⟩
  · have a3' : ¬ (n : Int) = (z : Int) := by omega
    have HB := toHid (hE1.out (.inr (.inr a3')))
    clear hE1 hE hRL hF hu hz
    go_enter Tryd.func7, Tryd.ntmps7
    go_wp2_with fail
    go_ret2
    exact ⟨_, by rw [HB.out.1]; rfl, by rw [HB.out.2]; exact Row.nil _ _, (fun b hb => by cases hb), Kept.refl _ _⟩

end Go.Proofs.YtcjaafmlflonhaaDoor


/- A candidate's number: bits of words that are put together. -/
namespace Go.Proofs.YtcjaafmlflonhaaDoor
open Go.RowKit

theorem digs_ext {B V n : Nat} {l : List Nat} (hl : l.length = n) (h : ∀ i, i < n → l.getD i 0 = dig B V i) : l = digs B V n := by
  refine List.ext_getElem? fun i => ?_
  by_cases hi : i < n
  · have h1 := h i hi
    have h2 := digs_getD B V n i hi
    rw [List.getD_eq_getElem?_getD, List.getElem?_eq_getElem (by omega)] at h1
    rw [List.getD_eq_getElem?_getD, List.getElem?_eq_getElem (by rw [digs_length]; omega)] at h2
    rw [List.getElem?_eq_getElem (by omega), List.getElem?_eq_getElem (by rw [digs_length]; omega)]
    simp only [Option.getD_some] at h1 h2
    rw [h1, h2]
  · rw [List.getElem?_eq_none (by omega), List.getElem?_eq_none (by rw [digs_length]; omega)]

theorem digs_bit (Y j i : Nat) : (dig 18446744073709551616 Y j).testBit i = (decide (i < 64) && Y.testBit (64 * j + i)) := by
  unfold dig
  rw [show (18446744073709551616 : Nat) = 2 ^ 64 from rfl, ← Nat.pow_mul, Nat.testBit_mod_two_pow, Nat.testBit_div_two_pow, Nat.add_comm i]

theorem getD_set {l : List Nat} {j i d : Nat} (hj : j < l.length) : (l.set j d).getD i 0 = if i = j then d else l.getD i 0 := by
  rw [List.getD_eq_getElem?_getD, List.getElem?_set, List.getD_eq_getElem?_getD]
  by_cases h : j = i
  · subst h
    simp [hj]
  · rw [if_neg h, if_neg (fun e => h e.symm)]

/-- A bit is made 1. -/
theorem digs_or (Y p L : Nat) (hp : p / 64 < L) : (digs 18446744073709551616 Y L).set (p / 64) (dig 18446744073709551616 Y (p / 64) ||| 2 ^ (p % 64)) = digs 18446744073709551616 (Y ||| 2 ^ p) L := by
  refine digs_ext (by rw [List.length_set, digs_length]) fun i hi => ?_
  rw [getD_set (by rw [digs_length]; exact hp), digs_getD _ _ _ _ hi]
  have hb : ∀ t, t < 64 → ((2 ^ p).testBit (64 * i + t) = decide (i = p / 64 ∧ t = p % 64)) := fun t ht => by
    rw [Nat.testBit_two_pow]
    exact decide_eq_decide.2 ⟨fun h => by omega, fun h => by omega⟩
  refine Nat.eq_of_testBit_eq fun t => ?_
  rw [digs_bit, Nat.testBit_or]
  by_cases ht : t < 64
  · rw [hb t ht]
    split
    · next h =>
      subst h
      rw [Nat.testBit_or, digs_bit, Nat.testBit_two_pow]
      by_cases h2 : t = p % 64
      · subst h2
        have h4 : p % 64 < 64 := Nat.mod_lt _ (by omega)
        simp [h4]
      · have h3 : ¬ p % 64 = t := fun e => h2 e.symm
        simp [ht, h2, h3]
    · next h =>
      rw [digs_bit]
      simp [ht, h]
  · split
    · next h =>
      subst h
      rw [Nat.testBit_or, digs_bit, Nat.testBit_two_pow]
      simp [ht]
      omega
    · next h =>
      rw [digs_bit]
      simp [ht]

/-- The bits above n of the highest word are made 0. -/
theorem digs_top (X n L : Nat) (h1 : 64 * L < n + 64) (h2 : n ≤ 64 * L) (hL : 1 ≤ L) :
    (digs 18446744073709551616 X L).set (L - 1) (dig 18446744073709551616 X (L - 1) &&& 18446744073709551615 / 2 ^ (64 * L - n)) = digs 18446744073709551616 (X % 2 ^ n) L := by
  have hy : 18446744073709551615 / 2 ^ (64 * L - n) = 2 ^ (64 - (64 * L - n)) - 1 := by
    have hs : 64 * L - n < 64 := by omega
    generalize 64 * L - n = s at hs
    have e : (18446744073709551615 : Nat) = 2 ^ s * (2 ^ (64 - s) - 1) + (2 ^ s - 1) := by
      have e1 : 2 ^ s * 2 ^ (64 - s) = 18446744073709551616 := by
        rw [← Nat.pow_add, show s + (64 - s) = 64 by omega]
      have p1 : 0 < 2 ^ s := Nat.pow_pos (by omega)
      have p2 : 0 < 2 ^ (64 - s) := Nat.pow_pos (by omega)
      rw [Nat.mul_sub, e1, Nat.mul_one]
      have : 2 ^ s ≤ 2 ^ 64 := Nat.pow_le_pow_right (by omega) (by omega)
      have : (2 : Nat) ^ 64 = 18446744073709551616 := rfl
      omega
    have p1 : 0 < 2 ^ s := Nat.pow_pos (by omega)
    rw [e, Nat.mul_add_div p1, Nat.div_eq_of_lt (by omega), Nat.add_zero]
  rw [hy]
  refine digs_ext (by rw [List.length_set, digs_length]) fun i hi => ?_
  rw [getD_set (by rw [digs_length]; omega), digs_getD _ _ _ _ hi]
  refine Nat.eq_of_testBit_eq fun t => ?_
  rw [digs_bit, Nat.testBit_mod_two_pow]
  split
  · next h =>
    subst h
    rw [Nat.and_two_pow_sub_one_eq_mod, Nat.testBit_mod_two_pow, digs_bit]
    by_cases ht : t < 64
    · have e : decide (t < 64 - (64 * L - n)) = decide (64 * (L - 1) + t < n) := decide_eq_decide.2 ⟨fun h => by omega, fun h => by omega⟩
      rw [e]
      simp [ht]
    · simp [ht]
  · next h =>
    rw [digs_bit]
    by_cases ht : t < 64
    · have e : 64 * i + t < n := by omega
      simp [ht, e]
    · simp [ht]

theorem or_one (x : Nat) : x ||| 1 = x + (if x % 2 = 0 then 1 else 0) := by
  have e1 : x = 2 ^ 1 * (x / 2) ||| x % 2 := by
    rw [← Nat.two_pow_add_eq_or_of_lt (by omega)]
    omega
  have e2 : (x % 2) ||| 1 = 1 := by
    rcases Nat.mod_two_eq_zero_or_one x with h | h <;> rw [h] <;> rfl
  rw [show x ||| 1 = (2 ^ 1 * (x / 2) ||| x % 2) ||| 1 by rw [← e1], Nat.or_assoc, e2, ← Nat.two_pow_add_eq_or_of_lt (by omega)]
  split <;> omega

/-- A candidate, bit by bit. -/
theorem cand_bits (bs : List Nat) (n : Nat) (hn : 16 ≤ n) : bev bs % 2 ^ n ||| 2 ^ (n - 1) ||| 2 ^ (n - 2) ||| 1 = candN bs n := by
  unfold candN
  generalize bev bs = X
  obtain ⟨m, rfl⟩ : ∃ m, n = m + 2 := ⟨n - 2, by omega⟩
  rw [show m + 2 - 1 = m + 1 by omega, show m + 2 - 2 = m by omega]
  have hr : X % 2 ^ m < 2 ^ m := Nat.mod_lt _ (Nat.pow_pos (by omega))
  have e : X % 2 ^ (m + 2) ||| 2 ^ (m + 1) ||| 2 ^ m = 2 ^ m * 3 + X % 2 ^ m := by
    refine Nat.eq_of_testBit_eq fun j => ?_
    rw [Nat.testBit_two_pow_mul_add _ hr, Nat.testBit_or, Nat.testBit_or, Nat.testBit_mod_two_pow, Nat.testBit_two_pow, Nat.testBit_two_pow, Nat.testBit_mod_two_pow]
    by_cases h1 : j < m
    · have a1 : ¬ m + 1 = j := by omega
      have a2 : ¬ m = j := by omega
      have a3 : j < m + 2 := by omega
      simp [h1, a1, a2, a3]
    · rw [if_neg h1]
      by_cases h2 : j = m
      · subst h2
        simp
      · by_cases h3 : j = m + 1
        · subst h3
          rw [show m + 1 - m = 1 by omega]
          simp
          decide
        · have a1 : ¬ m + 1 = j := fun e => h3 e.symm
          have a2 : ¬ m = j := fun e => h2 e.symm
          have a3 : ¬ j < m + 2 := by omega
          have a4 : Nat.testBit 3 (j - m) = false := Nat.testBit_lt_two_pow (by
            have : 2 ^ 2 ≤ 2 ^ (j - m) := Nat.pow_le_pow_right (by omega) (by omega)
            omega)
          simp [a1, a2, a3, a4]
  rw [e, or_one]
  have h2 : 2 ^ m % 2 = 0 := by
    rw [show m = (m - 1) + 1 by omega, Nat.pow_succ]
    omega
  generalize X % 2 ^ m = r at *
  split
  · next h => rw [if_pos (by omega)]; omega
  · next h => rw [if_neg (by omega)]; omega

end Go.Proofs.YtcjaafmlflonhaaDoor


/- Melted of: Lay0 NatA. -/

/- Where bits.Len64 lies in this translation: the table of numbers, each row checked. -/
namespace Go.Proofs.YtcjaafmlflonhaaDoor
open Go.Shelf

def l129_ren : Go.Shelf.Ren := ⟨fun | 129 => 72 | n => n, fun | 53 => 33 | 3 => 3 | 4 => 4 | 46 => 63 | 5 => 5 | 9 => 9 | n => n, fun n => n⟩

theorem l129 : Lays.n129 Tryd.prog l129_ren := {
  mixed := by kernel_rfl,
  f129 := Tryd.func72.trans (congrArg some (by kernel_rfl)),
  t3 := Tryd.underlying3,
  a3 := Tryd.isAgg3,
  z3 := Tryd.sizeOf3,
  v3 := Tryd.zeroValue3,
  t4 := Tryd.underlying4,
  a4 := Tryd.isAgg4,
  z4 := Tryd.sizeOf4,
  v4 := Tryd.zeroValue4,
  t5 := Tryd.underlying5,
  a5 := Tryd.isAgg5,
  z5 := Tryd.sizeOf5,
  v5 := Tryd.zeroValue5,
  t9 := Tryd.underlying9,
  a9 := Tryd.isAgg9,
  z9 := Tryd.sizeOf9,
  v9 := Tryd.zeroValue9,
  t46 := Tryd.underlying63,
  a46 := Tryd.isAgg63,
  z46 := Tryd.sizeOf63,
  v46 := Tryd.zeroValue63,
  t53 := Tryd.underlying33,
  a53 := Tryd.isAgg33,
  z53 := Tryd.sizeOf33,
  v53 := Tryd.zeroValue33 }

end Go.Proofs.YtcjaafmlflonhaaDoor

/- Package nat: needed, lengthError, Bits, Word, Bit, Resize: what they answer, for any number. -/
namespace Go.Proofs.YtcjaafmlflonhaaDoor
open Go.RowKit

set_option maxHeartbeats 400000 in
theorem nNeeded (v : Value) (zs : List Nat) (w : World) (h : Row .u64 w v zs) :
    Calls Tryd.prog 57 #[v] w fun r w' => ∃ m v', r = .returned v' ∧ m ≤ zs.length ∧ Row .u64 w v' (zs.take m) ∧ (∀ i, m ≤ i → zs.getD i 0 = 0) ∧ (m = 0 ∨ zs.getD (m - 1) 0 ≠ 0) ∧ v'.ownBlock = v.ownBlock ∧ (∃ ao n cap, v = .slice ao n cap ∧ v' = .slice ao m cap) ∧ w' = w := by
  have hcut := fun ao n cap (e : v = .slice ao n cap) m (hm : m ≤ zs.length) => (show Row .u64 w (.slice ao n cap) zs from e ▸ h).cut hm
  obtain ⟨ao, n, cap, rfl, hN, h1, h2, h3, h4⟩ := h.open
  have HC : Hid (∀ m, m ≤ n → Row .u64 w (.slice ao m cap) (zs.take m)) := fun m hm => hcut ao n cap rfl m (by have := hN.out; omega)
  have HL : Hid (∀ i, n ≤ i → zs.getD i 0 = 0) := fun i hi => by have := hN.out; rw [List.getD_eq_getElem?_getD, List.getElem?_eq_none (by omega)]; rfl
  clear hcut h h3
  go_enter Tryd.func57, Tryd.ntmps57
  go_wp2_with fail
  go_loop [0] (fun a => ∃ m : Nat, m ≤ n ∧ a = .slice ao m cap ∧ Hid (∀ i, m ≤ i → zs.getD i 0 = 0)) (fun a => lenV a)
  case atStart => exact ⟨n, Nat.le_refl _, rfl, HL⟩
  case round =>
    obtain ⟨m, hm, rfl, hz⟩ := hrel
    cases m with
    | zero =>
      clear h4
      go_wp2
      go_ret
      exact ⟨0, _, rfl, Nat.zero_le _, HC.out 0 (Nat.zero_le _), hz.out, .inl rfl, own_len ao 0 n cap, ⟨ao, n, cap, ⟨rfl, rfl, rfl⟩, rfl⟩, rfl⟩
    | succ j =>
      obtain ⟨b, off, rfl, hc⟩ := h4 j (by omega)
      obtain ⟨z, hzz⟩ : ∃ z, z = zs.getD j 0 := ⟨_, rfl⟩
      rw [← hzz] at hc
      have HZ : Hid (z = zs.getD j 0) := hzz
      clear hzz h4
      by_cases h0 : z = 0
      · have hz0 : ((z : Int) == 0) = true := by simp [h0]
        subst h0
        go_wp2
        go_round
        case rel => exact ⟨j, by omega, rfl, fun i hi => by
          by_cases e : i = j
          · subst e; exact HZ.out.symm
          · exact hz.out i (by omega)⟩
        case measure => simp [lenV]
      · have hne : Hid (zs.getD (j + 1 - 1) 0 ≠ 0) := by
          unfold Hid
          rw [Nat.add_sub_cancel, ← HZ.out]
          exact h0
        have hz0 : ((z : Int) == 0) = false := by simp; omega
        have hz1 : ¬ ((z : Int) = 0) := by omega
        go_wp2
        go_ret
        exact ⟨j + 1, _, rfl, by have := hN.out; omega, HC.out _ hm, hz.out, .inr hne.out, own_len _ _ _ _, ⟨_, _, _, ⟨rfl, rfl, rfl⟩, rfl⟩, rfl⟩

theorem len_words {ds : List Nat} (hd : Digs 18446744073709551616 ds) (ht : Trimmed ds) : ds.length = wordsN (val 18446744073709551616 ds) := by
  have h1 := (len_le_iff (by omega) hd ht (wordsN (val 18446744073709551616 ds))).2 ((wordsN_le _ _).1 (Nat.le_refl _))
  have h2 := (wordsN_le (val 18446744073709551616 ds) ds.length).2 ((len_le_iff (by omega) hd ht _).1 (Nat.le_refl _))
  omega

/-- needed: the same number, its highest word not 0. -/
theorem nNeed (v : Value) (xs : List Nat) (w : World) (h : Row .u64 w v xs) (hd : Digs 18446744073709551616 xs) :
    Calls Tryd.prog 57 #[v] w fun r w' => ∃ v' ys, r = .returned v' ∧ Row .u64 w v' ys ∧ Digs 18446744073709551616 ys ∧ Trimmed ys ∧ val 18446744073709551616 ys = val 18446744073709551616 xs ∧ Hid (ys.length = wordsN (val 18446744073709551616 xs)) ∧ ys.length ≤ xs.length ∧ v'.ownBlock = v.ownBlock ∧ w' = w := by
  refine (nNeeded v xs w h).mono ?_
  rintro e w' ⟨m, v', rfl, hm, hr, hz, ht, ho, _, rfl⟩
  have e1 := take_trim (B := 18446744073709551616) hm hz
  have t1 := trimmed_take hm ht
  refine ⟨v', xs.take m, rfl, hr, hd.take m, t1, e1, ?_, by rw [List.length_take]; omega, ho, rfl⟩
  have := len_words (hd.take m) t1
  rw [e1] at this
  exact this

theorem nLenErr (n : Int) (w : World) : Calls Tryd.prog 32 #[.int .i64 n] w fun r w' => r = .returned (.int .i64 (if 300 < n then 2 else if n < 0 then 1 else 0)) ∧ w' = w := by
  by_cases h1 : 300 < n
  · rw [if_pos h1]
    go_enter Tryd.func32, Tryd.ntmps32
    go_wp2
    go_ret
    exact ⟨rfl, rfl⟩
  · rw [if_neg h1]
    by_cases h2 : n < 0
    · rw [if_pos h2]
      go_enter Tryd.func32, Tryd.ntmps32
      go_wp2
      go_ret
      exact ⟨rfl, rfl⟩
    · rw [if_neg h2]
      go_enter Tryd.func32, Tryd.ntmps32
      go_wp2
      go_ret
      exact ⟨rfl, rfl⟩

theorem bitLen_blen (x : Nat) (h : x < 18446744073709551616) : Lib.bitLen x = blen x := by
  by_cases h0 : x = 0
  · subst h0; rfl
  · obtain ⟨a, b, c⟩ := Lib.bitLenAux_bounds 64 x h h0
    unfold Lib.bitLen
    have h1 := (blen_le x _).2 c
    have h2 : ¬ blen x ≤ Lib.bitLenAux 64 x - 1 := fun k => by have := (blen_le x _).1 k; omega
    omega

theorem blen_top {ys : List Nat} (hd : Digs 18446744073709551616 ys) (ht : Trimmed ys) (hn : 0 < ys.length) : blen (val 18446744073709551616 ys) = 64 * (ys.length - 1) + blen (ys.getD (ys.length - 1) 0) := by
  have e := val_take_drop 18446744073709551616 ys (ys.length - 1) (by omega)
  have hdrop : ys.drop (ys.length - 1) = [ys.getD (ys.length - 1) 0] := by
    rw [List.drop_eq_getElem_cons (by omega), List.drop_eq_nil_of_le (by omega), List.getD_eq_getElem?_getD, List.getElem?_eq_getElem (by omega)]
    rfl
  rw [hdrop] at e
  have hlow : val 18446744073709551616 (ys.take (ys.length - 1)) < 18446744073709551616 ^ (ys.length - 1) := by
    have := val_lt (by omega) (hd.take (ys.length - 1))
    rwa [List.length_take, Nat.min_eq_left (by omega)] at this
  have htop : ys.getD (ys.length - 1) 0 ≠ 0 := by
    rcases ht with h | h
    · omega
    · exact h
  simp only [val, Nat.mul_zero, Nat.add_zero] at e
  generalize ys.getD (ys.length - 1) 0 = y at *
  generalize ys.length - 1 = k at *
  generalize val 18446744073709551616 (ys.take k) = L at *
  generalize val 18446744073709551616 ys = V at *
  have hB : (18446744073709551616 : Nat) ^ k = 2 ^ (64 * k) := by rw [Nat.pow_mul]
  rw [hB] at e hlow
  generalize hM : blen y = M
  have h1 : y < 2 ^ M := (blen_le _ _).1 (by omega)
  have h2 : 2 ^ (M - 1) ≤ y := by
    have : ¬ blen y ≤ M - 1 := by
      have : 0 < blen y := by
        rcases Nat.eq_zero_or_pos (blen y) with z | z
        · have := (blen_le y 0).1 (by omega); omega
        · exact z
      omega
    have := mt (blen_le y (M - 1)).2 this
    omega
  have hM1 : 1 ≤ M := by
    rcases Nat.eq_zero_or_pos M with z | z
    · rw [z] at h1; omega
    · exact z
  have u1 : V < 2 ^ (64 * k + M) := by
    rw [Nat.pow_add]
    have : 2 ^ (64 * k) * (y + 1) ≤ 2 ^ (64 * k) * 2 ^ M := Nat.mul_le_mul_left _ h1
    rw [Nat.mul_add, Nat.mul_one] at this
    omega
  have u2 : 2 ^ (64 * k + (M - 1)) ≤ V := by
    rw [Nat.pow_add]
    have : 2 ^ (64 * k) * 2 ^ (M - 1) ≤ 2 ^ (64 * k) * y := Nat.mul_le_mul_left _ h2
    omega
  have h3 := (blen_le V _).2 u1
  have h4 : ¬ blen V ≤ 64 * k + (M - 1) := fun c => by have := (blen_le V _).1 c; omega
  omega

set_option maxHeartbeats 400000 in
/-- Bits. -/
theorem nBits (v : Value) (xs : List Nat) (w : World) (h : Row .u64 w v xs) (hd : Digs 18446744073709551616 xs) (hl : xs.length ≤ 100000000) :
    Calls Tryd.prog 46 #[v] w fun r w' => r = .returned (.int .i64 (blen (val 18446744073709551616 xs) : Nat)) ∧ w' = w := by
  have hN := nNeed v xs w h hd
  obtain ⟨R, hR⟩ : ∃ R, R = blen (val 18446744073709551616 xs) := ⟨_, rfl⟩
  rw [← hR]
  have HR : Hid (R = blen (val 18446744073709551616 xs)) := hR
  clear hR
  go_enter Tryd.func46, Tryd.ntmps46
  go_wp2_with fail
  refine hN.mono ?_
  rintro e w' ⟨v', ys, rfl, hr, hdy, hty, hv, _, hle, _, rfl⟩
  rw [← hv] at HR
  obtain ⟨ao, n, cap, rfl, hL, h1, h2, h3, h4⟩ := hr.open
  cases n with
  | zero =>
    obtain rfl : ys = [] := List.eq_nil_of_length_eq_zero hL.out
    clear h4 hL
    go_wp2
    go_ret
    exact ⟨by rw [HR.out]; rfl, rfl⟩
  | succ j =>
    have hb := blen_top hdy hty (by have := hL.out; omega)
    have hj : ys.length - 1 = j := by have := hL.out; omega
    rw [hj] at hb
    have hjl : j < 100000000 := by have := hL.out; omega
    obtain ⟨b, off, rfl, hc⟩ := h4 j (by omega)
    have hy : ys.getD j 0 < 18446744073709551616 := hdy.getD (by omega) j
    rw [hb] at HR
    generalize ys.getD j 0 = y at *
    have hB64 : blen y ≤ 64 := (blen_le y 64).2 hy
    have hLen := Any.bits_Len64 l129 (y : Int) w' (by omega) (by omega)
    rw [show ((y : Int).toNat) = y from rfl, bitLen_blen y hy] at hLen
    clear h4 hb hv hr hdy hty hN h hd
    have hw1 : wrap64 ((j : Int) + 1 - 1) = j := by simp [wrap64]; omega
    have hw2 : wrap64 (64 * (j : Int)) = 64 * j := by simp [wrap64]; omega
    have hw3 : wrap64 (64 * (j : Int) + (blen y : Nat)) = 64 * j + (blen y : Nat) := by simp [wrap64]; omega
    generalize blen y = M at *
    go_wp2_with fail
    refine hLen.mono ?_
    rintro e w' ⟨rfl, rfl⟩
    go_wp2
    go_ret
    exact ⟨by rw [HR.out]; simp, rfl⟩

theorem word_digs (x m : Nat) (hx : x < 18446744073709551616) : digs 18446744073709551616 x (m + 1) = x :: List.replicate m 0 := by
  refine (digs_val (by omega) (B := 18446744073709551616) (l := x :: List.replicate m 0) (V := x) (n := m + 1) ?_ (by simp) ?_).symm
  · intro d hd
    rcases List.mem_cons.1 hd with rfl | hd
    · exact hx
    · rw [List.mem_replicate] at hd; omega
  · have hz : val 18446744073709551616 (List.replicate m 0) = 0 := val_zeros _ (fun d hd => (List.mem_replicate.1 hd).2)
    rw [Nat.mod_eq_of_lt (Nat.lt_of_lt_of_le hx (by rw [Nat.pow_succ]; exact Nat.le_mul_of_pos_left _ (Nat.pow_pos (by omega))))]
    simp only [val, hz]
    omega

end Go.Proofs.YtcjaafmlflonhaaDoor


/- Where the library functions that package nat calls lie in this translation: the tables of numbers, each row checked. -/
namespace Go.Proofs.YtcjaafmlflonhaaDoor
open Go.Shelf

def l122_ren : Go.Shelf.Ren := ⟨fun | 122 => 58 | 215 => 79 | n => n, fun | 3 => 3 | 4 => 4 | n => n, fun n => n⟩

theorem l122 : Lays.n122 Tryd.prog l122_ren := {
  mixed := by kernel_rfl,
  f122 := Tryd.func58.trans (congrArg some (by kernel_rfl)),
  f215 := Tryd.func79.trans (congrArg some (by kernel_rfl)),
  t3 := Tryd.underlying3,
  a3 := Tryd.isAgg3,
  z3 := Tryd.sizeOf3,
  v3 := Tryd.zeroValue3,
  t4 := Tryd.underlying4,
  a4 := Tryd.isAgg4,
  z4 := Tryd.sizeOf4,
  v4 := Tryd.zeroValue4 }

end Go.Proofs.YtcjaafmlflonhaaDoor


/- Package nat: Word, Bit, Resize: what they answer, for any number. -/
namespace Go.Proofs.YtcjaafmlflonhaaDoor
open Go.RowKit

set_option maxHeartbeats 400000 in
/-- Word. -/
theorem nWord (x : Nat) (hx : x < 18446744073709551616) (n : Int) (w : World) :
    Calls Tryd.prog 24 #[.int .u64 x, .int .i64 n] w fun r w' => ∃ v', r = .returned v' ∧ Row .u64 w' v' (digs 18446744073709551616 x (clampN n)) ∧ Kept Nought w w' := by
  obtain ⟨i0, hi0, hz0, hz1, hz2⟩ := info_parts Tryd.info33
  obtain ⟨m, hm⟩ : ∃ m, clampN n = m + 1 := ⟨clampN n - 1, by unfold clampN; omega⟩
  have hb : m + 1 ≤ 300 := by rw [← hm]; unfold clampN; omega
  have hc : min (max n 1) 300 = ((m + 1 : Nat) : Int) := by rw [← hm]; unfold clampN; omega
  rw [hm, word_digs x m hx]
  clear hm
  go_enter Tryd.func24, Tryd.ntmps24
  go_wp2_with (at_make; refine wpList_make_full _ rfl _ _ 25 rfl w.heap.size 33 i0 _ 1 Tryd.underlying25 hi0 hz0 hz1 _ _ _ _ (m + 1) rfl rfl (by first | exact hc | rfl) (by first | exact hc | rfl) (by rw [hz2]; omega) (by unfold maxLen; omega) (Nat.le_refl _) ?_; intro w1 ho1 hg1; rw [zeros_map] at ho1; have k1 := grown_kept hg1; have hc1 : w1.cell? ⟨w.heap.size, 0, none⟩ = some (.int .u64 0) := (by rw [World.ownsRow.cellAt ho1 0 (by omega)]; rfl); have hf := World.ownsRow.frozenAt ho1 0; have hst := (World.ownsRow.stored ho1 0 (.int .u64 (x : Nat))).1)
  go_ret
  refine ⟨_, rfl, Row.of_own (base := w.heap.size) (e := 33) ?_, k1.setCell _ (fun h => by simp at h) _⟩
  simpa [List.replicate_succ] using hst

set_option maxRecDepth 20000 in
set_option maxHeartbeats 800000 in
/-- Resize. -/
theorem nResize (v : Value) (xs : List Nat) (n : Int) (w : World) (h : Row .u64 w v xs) (hd : Digs 18446744073709551616 xs) :
    Calls Tryd.prog 71 #[v, .int .i64 n] w fun r w' => ∃ v', r = .returned (.tuple #[v', .int .i64 (resCode (val 18446744073709551616 xs) n)]) ∧ Row .u64 w' v' (resList (val 18446744073709551616 xs) n) ∧ Kept Nought w w' := by
  obtain ⟨i0, hi0, hz0, hz1, hz2⟩ := info_parts Tryd.info33
  have hE := nLenErr n w
  have hN := nNeed v xs w h hd
  by_cases h1 : 300 < n
  · obtain ⟨e1, e2⟩ := res_long (V := val 18446744073709551616 xs) h1
    rw [e1, e2]
    rw [if_pos h1] at hE
    go_enter Tryd.func71, Tryd.ntmps71
    go_wp2_with fail
    refine hE.mono ?_
    rintro e w' ⟨rfl, rfl⟩
    go_wp2
    go_ret2
    exact ⟨_, rfl, Row.nil _ _, Kept.refl _ _⟩
  · rw [if_neg h1] at hE
    by_cases h2 : n < 0
    · obtain ⟨e1, e2⟩ := res_range (V := val 18446744073709551616 xs) h1 (.inl h2)
      rw [e1, e2]
      rw [if_pos h2] at hE
      go_enter Tryd.func71, Tryd.ntmps71
      go_wp2_with fail
      refine hE.mono ?_
      rintro e w' ⟨rfl, rfl⟩
      go_wp2
      go_ret2
      exact ⟨_, rfl, Row.nil _ _, Kept.refl _ _⟩
    · rw [if_neg h2] at hE
      obtain ⟨m, rfl⟩ := Int.eq_ofNat_of_zero_le (show 0 ≤ n by omega)
      obtain ⟨RC, hRC⟩ : ∃ RC, RC = resCode (val 18446744073709551616 xs) (m : Int) := ⟨_, rfl⟩
      obtain ⟨RL, hRL⟩ : ∃ RL, RL = resList (val 18446744073709551616 xs) (m : Int) := ⟨_, rfl⟩
      rw [← hRC, ← hRL]
      have HC : Hid (RC = resCode (val 18446744073709551616 xs) (m : Int)) := hRC
      have HL : Hid (RL = resList (val 18446744073709551616 xs) (m : Int)) := hRL
      clear hRC hRL
      go_enter Tryd.func71, Tryd.ntmps71
      go_wp2_with fail
      refine hE.mono ?_
      rintro e w' ⟨rfl, rfl⟩
      go_wp2_with fail
      refine hN.mono ?_
      rintro e w' ⟨v', ys, rfl, hr, hdy, hty, hv, hlen, _, _, rfl⟩
      obtain ⟨ao, q, cap, rfl, hL, g1, g2, g3, g4⟩ := hr.open
      have hq : q = wordsN (val 18446744073709551616 xs) := by rw [← hL.out]; exact hlen.out
      by_cases h3 : q ≤ m
      · obtain ⟨e1, e2⟩ := res_ok (V := val 18446744073709551616 xs) (n := m) (by omega) (by omega)
        have h3' : ¬ (q : Int) > (m : Int) := by omega
        rw [e1] at HC
        rw [e2, fill_digs hdy hv (by rw [hL.out]; exact h3)] at HL
        obtain ⟨CS, hCS⟩ : ∃ CS, CS = ys.map (fun z : Nat => Value.int .u64 (z : Int)) := ⟨_, rfl⟩
        have hcl : CS.length = q := by rw [hCS, List.length_map]; exact hL.out
        have HCS : Hid (CS = ys.map (fun z : Nat => Value.int .u64 (z : Int))) := hCS
        have hone : ∀ u ∈ CS, u.oneCell' = true := by
          intro u hu
          rw [hCS] at hu
          obtain ⟨z, _, rfl⟩ := List.mem_map.1 hu
          rfl
        have hpos : ∀ W, Kept Nought w' W → 0 < CS.length → ∃ ad, ao = some ad ∧ ∀ j u, CS[j]? = some u → W.cell? (ad.add j) = some u := by
          intro W hk hp
          obtain ⟨b, off, rfl, _⟩ := g4 0 (by omega)
          refine ⟨_, rfl, fun j u hu => ?_⟩
          have hj : j < q := by
            have := (List.getElem?_eq_some_iff.1 hu).1
            omega
          obtain ⟨b', off', e, hc⟩ := (g4 j hj).grew hk
          simp only [Option.some.injEq, Addr.mk.injEq] at e
          obtain ⟨rfl, rfl, _⟩ := e
          rw [hCS, List.getElem?_map, List.getElem?_eq_getElem (by rw [hL.out]; exact hj)] at hu
          rw [show (⟨b, off, none⟩ : Addr).add j = ⟨b, off + j, none⟩ by simp [Addr.add], hc, ← hu, List.getD_eq_getElem?_getD, List.getElem?_eq_getElem (by rw [hL.out]; exact hj)]
          rfl
        have HP : Hid (∀ W, Kept Nought w' W → 0 < CS.length → ∃ ad, ao = some ad ∧ ∀ j u, CS[j]? = some u → W.cell? (ad.add j) = some u) := hpos
        have HO : Hid (∀ u ∈ CS, u.oneCell' = true) := hone
        have HLC : Hid (CS.length = q) := hcl
        clear hCS g4 hr hN h hE hpos hone hcl hq hv e1 e2
        go_wp2_with (at_make; refine wpList_make_full _ rfl _ _ 25 rfl w'.heap.size 33 i0 _ 1 Tryd.underlying25 hi0 hz0 hz1 _ _ _ _ m rfl rfl rfl rfl (by rw [hz2]; omega) (by unfold maxLen; omega) (Nat.le_refl _) ?_; intro w1 ho1 hg1; rw [zeros_map] at ho1; have k1 := grown_kept hg1; obtain ⟨w2, hrun, hb2, k2⟩ := run_copy_part (P := Tryd.prog) 25 25 3 33 w'.heap.size 0 m m (some ⟨w'.heap.size, 0, none⟩) ao q cap _ 33 CS Tryd.underlying25 (by rw [hi0]; simp [hz1]) (own_block ho1) (by rw [HLC.out]; exact (Nat.min_eq_left h3).symm) (fun hp => ⟨rfl, HP.out _ k1 hp⟩) (by have := HLC.out; simp; omega) HO.out; have HB2 : Hid _ := hb2; clear hb2 ho1 hg1)
        go_ret2
        have hfin := HB2.out
        rw [HCS.out, splice_fill] at hfin
        rw [HC.out, HL.out]
        exact ⟨_, rfl, Row.of_block hfin (by simp [hL.out]; omega) (by unfold maxLen; omega), kept_new k1 k2 (Nat.le_refl _)⟩
      · obtain ⟨e1, e2⟩ := res_range (V := val 18446744073709551616 xs) (n := (m : Int)) (by omega) (.inr (by simp; omega))
        have h3' : (q : Int) > (m : Int) := by omega
        rw [e1] at HC
        rw [e2] at HL
        clear g4 hr hN h hE hq hv
        go_wp2
        go_ret2
        rw [HC.out, HL.out]
        exact ⟨_, rfl, Row.nil _ _, Kept.refl _ _⟩

end Go.Proofs.YtcjaafmlflonhaaDoor

