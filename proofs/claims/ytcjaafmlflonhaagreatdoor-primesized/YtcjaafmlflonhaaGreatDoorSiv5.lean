/- Package sieve: Passes. -/
import Derived.Test.YtcjaafmlflonhaaGreatDoorSiv4
namespace Go.Proofs.YtcjaafmlflonhaaGreatDoor
open Go.RowKit

theorem val_word {x : Nat} (hx : x < 18446744073709551616) : val 18446744073709551616 (digs 18446744073709551616 x (clampN 1)) = x := by
  rw [show clampN 1 = 1 from rfl, val_digs, Nat.pow_one, Nat.mod_eq_of_lt hx]

set_option maxRecDepth 20000 in
set_option maxHeartbeats 1000000 in
/-- Passes. -/
theorem sPasses (ao : Option Addr) (L cap : Nat) (xs : List Nat) (R : Bool) (hR : R = true ↔ passN (val 18446744073709551616 xs)) (w : World) (hu : Row .u64 w (.slice ao L cap) xs) (hdx : Digs 18446744073709551616 xs) (hL : L ≤ 1000000) :
    Calls Tryz.prog 28 #[.slice ao L cap] w fun e w' => e = .returned (.bool R) ∧ Kept Nought w w' := by
  have JC : Hid (∀ (y : Nat) (u : Value) W, y < 18446744073709551616 → Kept Nought w W → Row .u64 W u (digs 18446744073709551616 y (clampN 1)) → Calls Tryz.prog 56 #[.slice ao L cap, u] W fun e w' => e = .returned (.int .i64 (cmpN (val 18446744073709551616 xs) y)) ∧ Kept Nought W w') := fun y u W hy k hr => by
    have := nCompare (.slice ao L cap) u xs _ W (hu.grew k) hr hdx (digs_digs (by omega) y (clampN 1))
    rw [val_word hy] at this
    exact this
  have JF : Hid (∀ W, Kept Nought w W → Calls Tryz.prog 57 #[.slice ao L cap, .int .i64 1000] W fun e w' => ∃ F : Nat, e = .returned (.int .i64 (F : Int)) ∧ IsFac (val 18446744073709551616 xs) 1000 F ∧ Kept Nought W w') := fun W k => sFactor ao L cap xs 1000 W (hu.grew k) hdx hL
  have HR := toHid hR
  clear hR hu hdx hL
  generalize val 18446744073709551616 xs = X at *
  have hW := nWord 1 (by omega) 1 w
  go_enter Tryz.func28, Tryz.ntmps28
  go_wp2_with fail
  refine hW.mono ?_
  rintro e w1 ⟨v1, rfl, hr1, k1⟩
  have hC := JC.out 1 v1 w1 (by omega) k1 hr1
  have HK1 := toHid k1
  obtain ⟨xo, xn, xc, rfl, _⟩ := hr1.open
  clear hW hr1 k1
  by_cases h2 : 2 ≤ X
  · rw [cmpN_gt (show 1 < X by omega)] at hC
    go_wp2_with fail
    refine hC.mono ?_
    rintro e w2 ⟨rfl, k2⟩
    have HK2 := toHid (HK1.out.trans k2)
    have hF := JF.out w2 HK2.out
    clear hC k2 HK1
    go_wp2_with fail
    refine hF.mono ?_
    rintro e w3 ⟨F, rfl, hfac, k3⟩
    have HK3 := toHid (HK2.out.trans k3)
    have hFle := hfac.le
    clear hF k3 HK2
    by_cases hF0 : F = 0
    · subst hF0
      have HT : Hid (R = true) := HR.out.2 ⟨h2, 0, hfac, .inl rfl⟩
      clear hfac
      go_wp2_with fail
      go_ret
      exact ⟨by rw [HT.out]; rfl, HK3.out⟩
    · have gF : ¬ (F : Int) = 0 := by omega
      have gc : IntKind.u64.wrap (F : Int) = (F : Int) := by rw [IntKind.wrap_u64]; omega
      have hW2 := nWord F (by omega) 1 w3
      have HFAC := toHid hfac
      clear hfac
      go_wp2_with fail
      refine hW2.mono ?_
      rintro e w4 ⟨v4, rfl, hr4, k4⟩
      have HK4 := toHid (HK3.out.trans k4)
      have hC2 := JC.out F v4 w4 (by omega) HK4.out hr4
      obtain ⟨yo, yn, yc, rfl, _⟩ := hr4.open
      clear hW2 hr4 k4
      by_cases hXF : X = F
      · have HT : Hid (R = true) := HR.out.2 ⟨h2, F, HFAC.out, .inr hXF⟩
        rw [cmpN_eq hXF] at hC2
        clear hXF
        go_wp2_with fail
        refine hC2.mono ?_
        rintro e w6 ⟨rfl, k6⟩
        go_wp2_with fail
        go_ret
        exact ⟨by rw [HT.out]; rfl, HK4.out.trans k6⟩
      · have HT : Hid (R = false) := by
          unfold Hid
          cases h : R with
          | false => rfl
          | true =>
            obtain ⟨_, G, hG, hG2⟩ := HR.out.1 h
            have := hG.uniq HFAC.out
            subst this
            rcases hG2 with h3 | h3
            · exact absurd h3 hF0
            · exact absurd h3 hXF
        have hc2 := cmpNne hXF
        generalize cmpN X F = cd at *
        clear hXF
        go_wp2_with fail
        refine hC2.mono ?_
        rintro e w6 ⟨rfl, k6⟩
        go_wp2_with fail
        go_ret
        exact ⟨by rw [HT.out]; show Ending.returned (Value.bool ((F : Int) == 0 || cd == 0)) = _; rw [show ((F : Int) == 0) = false by simp; omega, show (cd == 0) = false by simpa using hc2]; rfl, HK4.out.trans k6⟩
  · have HT : Hid (R = false) := by
      unfold Hid
      cases h : R with
      | false => rfl
      | true => exact absurd (HR.out.1 h).1 h2
    have g1 : cmpN X 1 ≤ 0 := by
      unfold cmpN
      split
      · omega
      · split <;> omega
    generalize cmpN X 1 = cd at *
    go_wp2_with fail
    refine hC.mono ?_
    rintro e w2 ⟨rfl, k2⟩
    go_wp2_with fail
    go_ret
    exact ⟨by rw [HT.out]; rfl, HK1.out.trans k2⟩

end Go.Proofs.YtcjaafmlflonhaaGreatDoor
