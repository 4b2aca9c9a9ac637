/- The plain side of layer 4: one bit down. -/
import Derived.Test.YtnjmckfkfkalgaaRef4D
namespace Go.Proofs.Ytnjmckfkfkalgaa
open Go.RowKit

set_option maxRecDepth 20000 in
set_option maxHeartbeats 1000000 in
theorem q4Right (bit : Nat) (hbit : bit < 18446744073709551616) (ao : Option Addr) (q cap : Nat) (xs : List Nat) (w : World) (hu : Row .u64 w (.slice ao (q + 1) cap) xs) (hdx : Digs 18446744073709551616 xs) (hq : q ≤ 100000) :
    Calls Try.prog 30 #[.slice ao (q + 1) cap, .int .u64 bit] w fun e w' => ∃ v', e = .returned (.tuple #[v', .int .u64 (xs.getD 0 0 % 2 : Nat)]) ∧ Row .u64 w' v' (digs 18446744073709551616 (val 18446744073709551616 xs / 2 + selN bit (2 ^ (64 * (q + 1) - 1)) 0) (q + 1)) ∧ Kept Nought w w' := by
  obtain ⟨ao', n', cap', e, hLx, c1, c2, c3, hnum⟩ := hu.open
  cases e
  have hOx := rOf _ xs w hu hdx (by have := hLx.out; omega)
  have dx := dlen_val hdx
  rw [hLx.out] at dx
  have hand : bits .and .u64 (bit : Int) 1 = (bit : Int) % 2 := and_one_u64 (bit : Int) (by omega) (by omega)
  obtain ⟨b, off, rfl, hc0⟩ := hnum 0 (by omega)
  rw [Nat.add_zero] at hc0
  have hc : ∀ W, Kept Nought w W → W.cell? ⟨b, off, none⟩ = some (.int .u64 ((xs.getD 0 0 : Nat) : Int)) := fun W k => k.cellN hc0
  have hy : xs.getD 0 0 < 18446744073709551616 := hdx.getD (by omega) 0
  clear hu hnum hc0
  generalize val 18446744073709551616 xs = A at *
  generalize xs.getD 0 0 = y at *
  have handy : bits .and .u64 (y : Int) 1 = (y : Int) % 2 := and_one_u64 (y : Int) (by omega) (by omega)
  by_cases hb : bit % 2 = 1
  · rw [show selN bit (2 ^ (64 * (q + 1) - 1)) 0 = 2 ^ (64 * (q + 1) - 1) from if_pos hb]
    have hb' : (bit : Int) % 2 = 1 := by omega
    rw [hb'] at hand
    have hpl : dlen (2 ^ (64 * (q + 1) - 1)) ≤ 2 * (q + 1) := by
      rw [dlen_le, show (4294967296 : Nat) ^ (2 * (q + 1)) = 2 ^ (32 * (2 * (q + 1))) by rw [Nat.pow_mul 2 32]]
      exact Nat.pow_lt_pow_right (by omega) (by omega)
    obtain ⟨P, hP⟩ : ∃ P, P = 64 * (q + 1) - 1 := ⟨_, rfl⟩
    have hPi : 64 * ((q : Int) + 1) - 1 = (P : Int) := by omega
    have hPb : P ≤ 1000000000 := by omega
    rw [← hP] at hpl ⊢
    clear hP
    go_enter Try.func30, Try.ntmps30
    go_wp2_with fail
    refine hOx.mono ?_
    rintro e w1 ⟨v1, rfl, hb1, _, k1⟩
    have hH := rShr v1 A 1 w1 hb1 (by omega)
    clear hOx hb1
    go_wp2_with fail
    refine hH.mono ?_
    rintro e w2 ⟨v2, rfl, hb2, _, k2⟩
    have k2' := k1.trans k2
    have hS := rSmall 1 (by omega) w2
    clear hH k1 k2
    go_wp2_with fail
    refine hS.mono ?_
    rintro e w3 ⟨v3, rfl, hb3, _, k3⟩
    have k3' := k2'.trans k3
    have hb2' := hb2.grew k3
    have hL := rShl v3 1 P w3 hb3 (by decide +kernel) hPb
    rw [Nat.mul_one] at hL
    clear hS k2' k3 hb2 hb3
    go_wp2_with fail
    refine hL.mono ?_
    rintro e w4 ⟨v4, rfl, hb4, _, k4⟩
    have k4' := k3'.trans k4
    have hA := rAdd v2 v4 (A / 2 ^ 1) (2 ^ P) w4 (hb2'.grew k4) hb4 (by have := dlen_mono (Nat.div_le_self A (2 ^ 1)); omega) (by omega)
    clear hL k3' k4 hb2' hb4
    go_wp2_with fail
    refine hA.mono ?_
    rintro e w5 ⟨v5, rfl, hb5, _, k5⟩
    have k5' := k4'.trans k5
    rw [show A / 2 ^ 1 = A / 2 from rfl] at hb5
    have hN := fun W (k : Kept Nought w5 W) => rNat v5 (A / 2 + 2 ^ P) (q + 1) W (hb5.grew k) (by omega)
    have hc5 := hc w5 k5'
    clear hA k4' hb5 hc
    go_wp2_with fail
    go_region_with (go_at_call 38; refine (hN _ ?_).mono ?_; (first | exact Kept.refl _ _ | exact (Kept.refl _ _).drew | exact (Kept.refl _ _).drewN _); rintro e w6 ⟨v6, rfl, hr6, _, k6⟩; have hc6 := k6.cellN (show (World.drew w5).cell? _ = _ from hc5))
    all_goals
      go_wp2
      go_ret2
      refine ⟨v6, by rw [show ((y % 2 : Nat) : Int) = (y : Int) % 2 by omega]; rfl, ?_, ?_⟩
      · first | exact hr6 | exact hr6.grew (Kept.refl _ _).drew
      · first | exact k5'.trans k6 | exact k5'.drew.trans k6 | exact (k5'.trans k6).drew | exact (k5'.drew.trans k6).drew
  · rw [show selN bit (2 ^ (64 * (q + 1) - 1)) 0 = 0 from if_neg hb, Nat.add_zero]
    have hb' : (bit : Int) % 2 = 0 := by omega
    rw [hb'] at hand
    go_enter Try.func30, Try.ntmps30
    go_wp2_with fail
    refine hOx.mono ?_
    rintro e w1 ⟨v1, rfl, hb1, _, k1⟩
    have hH := rShr v1 A 1 w1 hb1 (by omega)
    clear hOx hb1
    go_wp2_with fail
    refine hH.mono ?_
    rintro e w5 ⟨v5, rfl, hb5, _, k5⟩
    have k5' := k1.trans k5
    rw [show A / 2 ^ 1 = A / 2 from rfl] at hb5
    have hN := fun W (k : Kept Nought w5 W) => rNat v5 (A / 2) (q + 1) W (hb5.grew k) (by omega)
    have hc5 := hc w5 k5'
    clear hH k1 k5 hb5 hc
    go_wp2_with fail
    go_region_with (go_at_call 38; refine (hN _ ?_).mono ?_; (first | exact Kept.refl _ _ | exact (Kept.refl _ _).drew | exact (Kept.refl _ _).drewN _); rintro e w6 ⟨v6, rfl, hr6, _, k6⟩; have hc6 := k6.cellN (show (World.drew w5).cell? _ = _ from hc5))
    all_goals
      go_wp2
      go_ret2
      refine ⟨v6, by rw [show ((y % 2 : Nat) : Int) = (y : Int) % 2 by omega]; rfl, ?_, ?_⟩
      · first | exact hr6 | exact hr6.grew (Kept.refl _ _).drew
      · first | exact k5'.trans k6 | exact k5'.drew.trans k6 | exact (k5'.trans k6).drew | exact (k5'.drew.trans k6).drew

end Go.Proofs.Ytnjmckfkfkalgaa
