/- Package prime: Good. -/
import Derived.Test.YtcjaafmlflonhaaGreatDoorKey3
import Derived.Test.YtcjaafmlflonhaaGreatDoorSiv5
import Derived.Test.YtcjaafmlflonhaaGreatDoorPrG
import Derived.Test.YtcjaafmlflonhaaGreatDoorIvn9
import Derived.Test.YtcjaafmlflonhaaGreatDoorLim2
namespace Go.Proofs.YtcjaafmlflonhaaGreatDoor
open Go.RowKit

theorem subN_one {X n : Nat} (hX : X < 18446744073709551616 ^ n) (h0 : X ≠ 0) : subN X 1 n % 18446744073709551616 ^ n = X - 1 := by
  unfold subN
  rw [if_neg (by omega), Nat.mod_eq_of_lt (by omega)]

set_option maxRecDepth 20000 in
set_option maxHeartbeats 2000000 in
/-- Good. -/
theorem pGood (ao : Option Addr) (L cap : Nat) (xs : List Nat) (e : Nat) (he : e < 18446744073709551616) (R : Bool) (hR : R = true ↔ goodN (val 18446744073709551616 xs) e) (w : World) (hu : Row .u64 w (.slice ao L cap) xs) (hdx : Digs 18446744073709551616 xs) (hLb : L ≤ 999999) :
    Calls Tryz.prog 14 #[.slice ao L cap, .int .u64 (e : Nat)] w fun r w' => r = .returned (.bool R) ∧ Kept Nought w w' := by
  obtain ⟨_, _, _, e1, hL, -, -, -, -⟩ := hu.open
  cases e1
  have HU := toHid hu
  have HR := toHid hR
  have HF : Hid (¬ goodN (val 18446744073709551616 xs) e → R = false) := fun h => by
    cases h2 : R with
    | false => rfl
    | true => exact absurd (HR.out.1 h2) h
  have hX : val 18446744073709551616 xs < 18446744073709551616 ^ L := by rw [← hL.out]; exact val_lt (by omega) hdx
  by_cases a2 : e = 0
  · have HT := toHid (HF.out (fun h => h.2.1 a2))
    subst a2
    clear hu hdx hL hR hX
    go_enter Tryz.func14, Tryz.ntmps14
    go_wp2_with fail
    go_ret
    exact ⟨by rw [HT.out]; rfl, Kept.refl _ _⟩
  have q2 : ((e : Int) == 0) = false := by simp; omega
  have q2' : ¬ (e : Int) = 0 := by omega
  by_cases a3 : passN (val 18446744073709551616 xs)
  · have J1 := sPasses ao L cap xs true (by simp [a3]) w hu hdx (by omega)
    have hX0 : val 18446744073709551616 xs ≠ 0 := fun h => by rw [h] at a3; exact absurd a3 (by unfold passN; intro h; exact absurd h.1 (by omega))
    have hL0 : L ≠ 0 := fun h => by
      rw [h] at hX
      simp at hX
      exact hX0 hX
    have JW := toHid fun W (x : Nat) (hx : x < 18446744073709551616) => nWord x hx 1 W
    have hc1 : clampN 1 = 1 := rfl
    rw [hc1] at JW
    have v1 : val 18446744073709551616 (digs 18446744073709551616 1 1) = 1 := rfl
    have HD := toHid hdx
    have hLx : Hid (xs.length = L) := hL
    have HX0 := toHid hX0
    have HX := toHid hX
    have HA3 := toHid a3
    have j2 := JW.out
    clear hu hdx hL hR hX hX0 a3
    go_enter Tryz.func14, Tryz.ntmps14
    go_wp2_with fail
    refine J1.mono ?_
    rintro r w1 ⟨rfl, k1⟩
    have J2 := JW.out w1 1 (by omega)
    clear J1 j2
    go_wp2_with fail
    refine J2.mono ?_
    rintro r w2 ⟨u2, rfl, r2, k2⟩
    have K2 := toHid (k1.trans k2)
    have J3 := lSub none (.slice ao L cap) u2 xs _ w2 (TrRoom.none w2 1 (by omega)) (RowT.none (HU.out.grew K2.out)) (RowT.none r2) HD.out (digs_digs (by omega) _ _) (by rw [hLx.out]; omega) (by rw [digs_length]; omega)
    rw [v1, digs_length, hLx.out, Nat.max_eq_left (by omega)] at J3
    obtain ⟨uo, un, uc, rfl, _⟩ := r2.open
    clear J2 r2 k1 k2
    go_wp2_with fail
    refine J3.mono ?_
    rintro r w3 ⟨u3, rfl, h3, o3, d3⟩
    have k3 := d3.none.2
    have K3 := toHid (K2.out.trans k3)
    have r3 : Row .u64 w3 u3 (digs 18446744073709551616 (subN (val 18446744073709551616 xs) 1 L) L) := Row.of_own (base := w2.heap.size) (e := 23) (by rw [digs_length]; exact h3)
    obtain ⟨xo, xn, xc, rfl, hxn, _⟩ := r3.open
    have hxn' : xn = L := by rw [← hxn.out, digs_length]
    subst hxn'
    have hv3 : val 18446744073709551616 (digs 18446744073709551616 (subN (val 18446744073709551616 xs) 1 xn) xn) = val 18446744073709551616 xs - 1 := by
      rw [val_digs]
      exact subN_one HX.out HX0.out
    obtain ⟨rr, hrr⟩ : ∃ rr, rr = (val 18446744073709551616 xs - 1) % e := ⟨_, rfl⟩
    have hrb : rr < 18446744073709551616 := by rw [hrr]; exact Nat.lt_of_lt_of_le (Nat.mod_lt _ (by omega)) (by omega)
    have J4 := pSmall xo xn xc _ e rr 0 he (by rw [if_neg a2, hv3, hrr]) (by rw [if_neg a2]) w3 r3 (digs_digs (by omega) _ _) (by omega)
    have HRR := toHid hrr
    clear J3 h3 d3 k3 r3 hxn hv3 hrr
    go_wp2_with fail
    refine J4.mono ?_
    rintro r w4 ⟨rfl, k4⟩
    have K4 := toHid (K3.out.trans k4)
    have J5 := JW.out w4 rr hrb
    clear J4 k4
    go_wp2_with fail
    refine J5.mono ?_
    rintro r w5 ⟨u5, rfl, r5, k5⟩
    obtain ⟨yo, yn, yc, rfl, hyn, _⟩ := r5.open
    have K5 := toHid (K4.out.trans k5)
    have J6 := JW.out w5 e he
    have R5 := toHid r5
    have HYN : Hid (yn = 1) := by have := hyn.out; rw [digs_length] at this; exact this.symm
    clear J5 k5 r5 hyn
    go_wp2_with fail
    refine J6.mono ?_
    rintro r w6 ⟨u6, rfl, r6, k6⟩
    obtain ⟨zo, zn, zc, rfl, hzn, _⟩ := r6.open
    have K6 := toHid (K5.out.trans k6)
    have hzn' : zn = 1 := by have := hzn.out; rw [digs_length] at this; exact this.symm
    have hvr : ∀ x, x < 18446744073709551616 → val 18446744073709551616 (digs 18446744073709551616 x 1) = x := fun x hx => by rw [val_digs, Nat.pow_one]; exact Nat.mod_eq_of_lt hx
    have J7 := iCoprime yo zo yn zn yc zc _ _ R (by
      have hg : Nat.gcd rr e = Nat.gcd (val 18446744073709551616 xs - 1) e := by
        rw [HRR.out, Nat.gcd_comm (val 18446744073709551616 xs - 1) e, Nat.gcd_rec e]
      have ho : okLen yn zn = true := by rw [HYN.out, hzn']; rfl
      rw [hvr _ hrb, hvr _ he]
      cases hRb : R with
      | true => exact (decide_eq_true ⟨ho, hg.trans (HR.out.1 hRb).2.2.2⟩).symm
      | false => exact (decide_eq_false fun h => by
          have := HR.out.2 ⟨HX0.out, a2, HA3.out, hg.symm.trans h.2⟩
          rw [hRb] at this
          cases this).symm) w6 (R5.out.grew k6) r6 (digs_digs (by omega) _ _) (digs_digs (by omega) _ _)
    clear J6 k6 r6 hzn hzn' hvr
    go_wp2_with fail
    refine J7.mono ?_
    rintro r w7 ⟨rfl, k7⟩
    clear J7
    go_wp2_with fail
    go_ret
    exact ⟨rfl, K6.out.trans k7⟩
  · have HT := toHid (HF.out (fun h => a3 h.2.2.1))
    have J1 := sPasses ao L cap xs false (by simp [a3]) w hu hdx (by omega)
    clear hu hdx hL hR hX
    go_enter Tryz.func14, Tryz.ntmps14
    go_wp2_with fail
    refine J1.mono ?_
    rintro r w1 ⟨rfl, k1⟩
    go_wp2_with fail
    go_ret
    exact ⟨by rw [HT.out]; rfl, k1⟩

end Go.Proofs.YtcjaafmlflonhaaGreatDoor
