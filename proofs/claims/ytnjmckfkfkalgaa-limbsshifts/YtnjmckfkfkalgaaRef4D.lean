/- The plain side of layer 4: one bit up, one bit down. -/
import Derived.Test.YtnjmckfkfkalgaaRef4C
import Derived.Deep.RegionWith
namespace Go.Proofs.Ytnjmckfkfkalgaa
open Go.RowKit

theorem q4Left0 (bit : Nat) (hbit : bit < 18446744073709551616) (ao : Option Addr) (cap : Nat) (w : World) :
    Calls Try.prog 28 #[.slice ao 0 cap, .int .u64 bit] w fun e w' => e = .returned (.tuple #[.slice none 0 0, .int .u64 (bit % 2 : Nat)]) ∧ w' = w := by
  have hand := and_one_u64 (bit : Int) (by omega) (by omega)
  rw [show ((bit % 2 : Nat) : Int) = (bit : Int) % 2 by omega]
  go_enter Try.func28, Try.ntmps28
  go_wp2
  go_ret2
  exact ⟨rfl, rfl⟩

set_option maxRecDepth 20000 in
set_option maxHeartbeats 1000000 in
theorem q4Left (bit : Nat) (hbit : bit < 18446744073709551616) (ao : Option Addr) (q cap : Nat) (xs : List Nat) (w : World) (hu : Row .u64 w (.slice ao (q + 1) cap) xs) (hdx : Digs 18446744073709551616 xs) (hq : q ≤ 100000) :
    Calls Try.prog 28 #[.slice ao (q + 1) cap, .int .u64 bit] w fun e w' => ∃ v', e = .returned (.tuple #[v', .int .u64 (xs.getD q 0 / 9223372036854775808 : Nat)]) ∧ Row .u64 w' v' (digs 18446744073709551616 (2 * val 18446744073709551616 xs + bit % 2) (q + 1)) ∧ Kept Nought w w' := by
  obtain ⟨ao', n', cap', e, hLx, c1, c2, c3, hnum⟩ := hu.open
  cases e
  have hOx := rOf _ xs w hu hdx (by have := hLx.out; omega)
  have dx := dlen_val hdx
  rw [hLx.out] at dx
  have hand : bits .and .u64 (bit : Int) 1 = ((bit % 2 : Nat) : Int) := by rw [and_one_u64 (bit : Int) (by omega) (by omega)]; omega
  obtain ⟨b, off, rfl, hc0⟩ := hnum q (by omega)
  have hc : ∀ W, Kept Nought w W → W.cell? ⟨b, off + q, none⟩ = some (.int .u64 ((xs.getD q 0 : Nat) : Int)) := fun W k => k.cellN hc0
  have hy : xs.getD q 0 < 18446744073709551616 := hdx.getD (by omega) q
  clear hu hnum hc0
  generalize val 18446744073709551616 xs = A at *
  generalize xs.getD q 0 = y at *
  go_enter Try.func28, Try.ntmps28
  go_wp2_with fail
  refine hOx.mono ?_
  rintro e w1 ⟨v1, rfl, hb1, _, k1⟩
  have hH := rShl v1 A 1 w1 hb1 (by omega) (by omega)
  clear hOx hb1
  go_wp2_with fail
  refine hH.mono ?_
  rintro e w2 ⟨v2, rfl, hb2, _, k2⟩
  have k2' := k1.trans k2
  have hS := rSmall (bit % 2) (by omega) w2
  clear hH k1 k2
  go_wp2_with fail
  refine hS.mono ?_
  rintro e w3 ⟨v3, rfl, hb3, _, k3⟩
  have k3' := k2'.trans k3
  have hA := rAdd v2 v3 (2 ^ 1 * A) (bit % 2) w3 (hb2.grew k3) hb3 (by
    have : dlen (2 ^ 1 * A) ≤ 2 * (q + 1) + 1 := by
      rw [dlen_le]
      have h1 := (dlen_le A _).1 dx
      rw [Nat.pow_succ]
      omega
    omega) (by
    have : dlen (bit % 2) ≤ 1 := (dlen_le _ 1).2 (by omega)
    omega)
  clear hS k2' k3 hb2 hb3
  go_wp2_with fail
  refine hA.mono ?_
  rintro e w4 ⟨v4, rfl, hb4, _, k4⟩
  have k4' := k3'.trans k4
  rw [show 2 ^ 1 * A + bit % 2 = 2 * A + bit % 2 by omega] at hb4
  have hN := fun W (k : Kept Nought w4 W) => rNat v4 (2 * A + bit % 2) (q + 1) W (hb4.grew k) (by omega)
  have hc4 := hc w4 k4'
  have hwq : IntKind.i64.wrap (q : Int) = (q : Int) := by rw [IntKind.wrap_i64]; omega
  have hwq2 : IntKind.i64.wrap ((q : Int) + 1 - 1) = (q : Int) := by rw [show (q : Int) + 1 - 1 = q by omega]; exact hwq
  clear hA k3' hb4 hc hand
  go_wp2_with fail
  go_region_with (go_at_call 38; refine (hN _ ?_).mono ?_; (first | exact Kept.refl _ _ | exact (Kept.refl _ _).drew | exact (Kept.refl _ _).drewN _); rintro e w5 ⟨v5, rfl, hr5, _, k5⟩; have hc5 := k5.cellN (show (World.drew w4).cell? _ = _ from hc4))
  all_goals
    go_wp2
    go_ret2
    refine ⟨v5, by rw [show ((y / 9223372036854775808 : Nat) : Int) = (y : Int) / 9223372036854775808 by omega]; rfl, ?_, ?_⟩
    · first | exact hr5 | exact hr5.grew (Kept.refl _ _).drew
    · first | exact k4'.trans k5 | exact k4'.drew.trans k5 | exact (k4'.trans k5).drew | exact (k4'.drew.trans k5).drew

theorem q4Right0 (bit : Nat) (hbit : bit < 18446744073709551616) (ao : Option Addr) (cap : Nat) (w : World) :
    Calls Try.prog 30 #[.slice ao 0 cap, .int .u64 bit] w fun e w' => e = .returned (.tuple #[.slice none 0 0, .int .u64 (bit % 2 : Nat)]) ∧ w' = w := by
  have hand := and_one_u64 (bit : Int) (by omega) (by omega)
  rw [show ((bit % 2 : Nat) : Int) = (bit : Int) % 2 by omega]
  go_enter Try.func30, Try.ntmps30
  go_wp2
  go_ret2
  exact ⟨rfl, rfl⟩

end Go.Proofs.Ytnjmckfkfkalgaa
