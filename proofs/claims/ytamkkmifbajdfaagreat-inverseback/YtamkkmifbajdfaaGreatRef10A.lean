/- The plain side of layer 10 (package sconceref10): how many steps; greatest divisors. -/
import Derived.Test.YtamkkmifbajdfaaGreatRef5A
import Derived.Test.YtamkkmifbajdfaaGreatBigM
namespace Go.Proofs.YtamkkmifbajdfaaGreat
open Go.RowKit

/-- So many bits, within the bound. -/
def stepBits (b : Int) : Int := min (max b 1) 8320

def stepsN (b : Int) : Int := if stepBits b < 46 then (49 * stepBits b + 80) / 17 else (49 * stepBits b + 57) / 17

set_option maxRecDepth 20000 in
set_option maxHeartbeats 1000000 in
theorem q10Divisor (ao bo : Option Addr) (L M cap dap : Nat) (xs ys : List Nat) (E : Nat) (hE : E = if okLen L M = true then 0 else 2) (RL : List Nat) (hRL : RL = if E = 0 then digs 18446744073709551616 (Nat.gcd (val 18446744073709551616 xs) (val 18446744073709551616 ys)) (max L M) else []) (w : World) (hu : Row .u64 w (.slice ao L cap) xs) (hv : Row .u64 w (.slice bo M dap) ys) (hdx : Digs 18446744073709551616 xs) (hdy : Digs 18446744073709551616 ys) :
    Calls Tryz.prog 8 #[.slice ao L cap, .slice bo M dap] w fun e w' => ∃ v', e = .returned (.tuple #[v', .int .i64 (E : Nat)]) ∧ Row .u64 w' v' RL ∧ Kept Nought w w' := by
  have lx : xs.length = L := by obtain ⟨_, _, _, e, h, _⟩ := hu.open; cases e; exact h.out
  have ly : ys.length = M := by obtain ⟨_, _, _, e, h, _⟩ := hv.open; cases e; exact h.out
  by_cases hok : L ≤ 300 ∧ M ≤ 300
  · rw [if_pos (by unfold okLen; exact decide_eq_true hok)] at hE
    subst hE
    rw [if_pos rfl] at hRL
    have g1 : ¬ (L : Int) > 300 := by omega
    have g2 : ¬ (M : Int) > 300 := by omega
    have hOx := rOf _ xs w hu hdx (by omega)
    have hOy := fun W (k : Kept Nought w W) => rOf _ ys W (hv.grew k) hdy (by omega)
    have dx := dlen_val5 hdx
    have dy := dlen_val5 hdy
    have hmax : max (L : Int) (M : Int) = ((max L M : Nat) : Int) := by omega
    have hnb : max L M ≤ 300 := by omega
    clear hu hv hdx hdy hok
    generalize val 18446744073709551616 xs = A at *
    generalize val 18446744073709551616 ys = C at *
    have HRL := toHid hRL
    clear hRL
    generalize max L M = n at *
    go_enter Tryz.func8, Tryz.ntmps8
    go_wp2_with fail
    refine hOx.mono ?_
    rintro e w1 ⟨v1, rfl, hb1, _, k1⟩
    go_wp2_with fail
    refine (hOy w1 k1).mono ?_
    rintro e w2 ⟨v2, rfl, hb2, _, k2⟩
    have hG := rGcd v1 v2 A C w2 (hb1.grew k2) hb2 (by omega) (by omega)
    have k2' := k1.trans k2
    clear hOx hOy k1 k2 hb1 hb2
    go_wp2_with fail
    refine hG.mono ?_
    rintro e w3 ⟨v3, rfl, hb3, _, k3⟩
    have hN := rNat v3 _ n w3 hb3 (by omega)
    clear hG hb3
    go_wp2_with fail
    refine hN.mono ?_
    rintro e w4 ⟨v4, rfl, hr4, _, k4⟩
    go_wp2_with fail
    go_ret2
    rw [HRL.out]
    exact ⟨_, rfl, hr4, (k2'.trans k3).trans k4⟩
  · rw [if_neg (by unfold okLen; simpa using hok)] at hE
    subst hE
    rw [if_neg (by omega)] at hRL
    subst hRL
    clear hu hv hdx hdy
    by_cases hL : L ≤ 300
    · have g1 : ¬ (L : Int) > 300 := by omega
      have g2 : (M : Int) > 300 := by omega
      clear hok
      go_enter Tryz.func8, Tryz.ntmps8
      go_wp2
      go_ret2
      exact ⟨_, rfl, Row.nil _ _, Kept.refl _ _⟩
    · have g1 : (L : Int) > 300 := by omega
      clear hok
      go_enter Tryz.func8, Tryz.ntmps8
      go_wp2
      go_ret2
      exact ⟨_, rfl, Row.nil _ _, Kept.refl _ _⟩

set_option maxRecDepth 20000 in
set_option maxHeartbeats 1000000 in
theorem q10Coprime (ao bo : Option Addr) (L M cap dap : Nat) (xs ys : List Nat) (R : Bool) (hR : R = decide (okLen L M = true ∧ Nat.gcd (val 18446744073709551616 xs) (val 18446744073709551616 ys) = 1)) (w : World) (hu : Row .u64 w (.slice ao L cap) xs) (hv : Row .u64 w (.slice bo M dap) ys) (hdx : Digs 18446744073709551616 xs) (hdy : Digs 18446744073709551616 ys) :
    Calls Tryz.prog 11 #[.slice ao L cap, .slice bo M dap] w fun e w' => e = .returned (.bool R) ∧ Kept Nought w w' := by
  have lx : xs.length = L := by obtain ⟨_, _, _, e, h, _⟩ := hu.open; cases e; exact h.out
  have ly : ys.length = M := by obtain ⟨_, _, _, e, h, _⟩ := hv.open; cases e; exact h.out
  by_cases hok : L ≤ 300 ∧ M ≤ 300
  · have HR : Hid (R = decide (cmpN (Nat.gcd (val 18446744073709551616 xs) (val 18446744073709551616 ys)) 1 = 0)) := by
      unfold Hid
      rw [hR]
      refine decide_eq_decide.2 ⟨fun h => cmpN_eq h.2, fun h => ⟨by unfold okLen; exact decide_eq_true hok, ?_⟩⟩
      rcases Nat.lt_trichotomy (Nat.gcd (val 18446744073709551616 xs) (val 18446744073709551616 ys)) 1 with h1 | h1 | h1
      · rw [cmpN_lt h1] at h; omega
      · exact h1
      · rw [cmpN_gt h1] at h; omega
    have g1 : (L : Int) ≤ 300 := by omega
    have g2 : (M : Int) ≤ 300 := by omega
    have hOx := rOf _ xs w hu hdx (by omega)
    have hOy := fun W (k : Kept Nought w W) => rOf _ ys W (hv.grew k) hdy (by omega)
    have dx := dlen_val5 hdx
    have dy := dlen_val5 hdy
    have hS1 := fun W => rSmall 1 (by omega) W
    clear hu hv hdx hdy hok hR
    generalize val 18446744073709551616 xs = A at *
    generalize val 18446744073709551616 ys = C at *
    go_enter Tryz.func11, Tryz.ntmps11
    go_wp2_with fail
    refine hOx.mono ?_
    rintro e w1 ⟨v1, rfl, hb1, _, k1⟩
    go_wp2_with fail
    refine (hOy w1 k1).mono ?_
    rintro e w2 ⟨v2, rfl, hb2, _, k2⟩
    have hG := rGcd v1 v2 A C w2 (hb1.grew k2) hb2 (by omega) (by omega)
    have k2' := k1.trans k2
    clear hOx hOy k1 k2 hb1 hb2
    generalize Nat.gcd A C = g at *
    go_wp2_with fail
    refine hG.mono ?_
    rintro e w3 ⟨v3, rfl, hb3, _, k3⟩
    go_wp2_with fail
    refine (hS1 w3).mono ?_
    rintro e w4 ⟨v4, rfl, hb4, _, k4⟩
    have hC := rCmp v3 v4 g 1 w4 (hb3.grew k4) hb4
    generalize cmpN g 1 = c at *
    clear hG hS1
    go_wp2_with fail
    refine hC.mono ?_
    rintro e w5 ⟨rfl, m, rfl⟩
    go_wp2_with fail
    go_ret
    rw [HR.out]
    exact ⟨by first | rfl | simp, ((k2'.trans k3).trans k4).drewN m⟩
  · have HR : Hid (R = false) := by
      unfold Hid
      rw [hR]
      exact decide_eq_false (fun h => hok (by have := h.1; unfold okLen at this; simpa using this))
    clear hu hv hdx hdy hR
    by_cases hL : L ≤ 300
    · have g1 : (L : Int) ≤ 300 := by omega
      have g2 : ¬ (M : Int) ≤ 300 := by omega
      clear hok
      go_enter Tryz.func11, Tryz.ntmps11
      go_wp2
      go_ret
      rw [HR.out]
      exact ⟨by first | rfl | simp, Kept.refl _ _⟩
    · have g1 : ¬ (L : Int) ≤ 300 := by omega
      clear hok
      go_enter Tryz.func11, Tryz.ntmps11
      go_wp2
      go_ret
      rw [HR.out]
      exact ⟨by first | rfl | simp, Kept.refl _ _⟩

end Go.Proofs.YtamkkmifbajdfaaGreat
