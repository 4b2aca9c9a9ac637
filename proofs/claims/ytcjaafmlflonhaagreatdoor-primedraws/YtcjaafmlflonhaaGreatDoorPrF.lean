/- Package product: Small. -/
import Derived.Test.YtcjaafmlflonhaaGreatDoorPro0
import Derived.Test.YtcjaafmlflonhaaGreatDoorDiv1
import Derived.StillTailTactics
namespace Go.Proofs.YtcjaafmlflonhaaGreatDoor
open Go.RowKit

theorem drop_consB {B : Nat} {zs : List Nat} {j : Nat} (h : j < zs.length) : val B (zs.drop j) = zs.getD j 0 + B * val B (zs.drop (j + 1)) := by
  rw [List.drop_eq_getElem_cons h, List.getD_eq_getElem?_getD, List.getElem?_eq_getElem h]
  rfl

theorem small_step {B D : Nat} {zs : List Nat} {j : Nat} (h : j < zs.length) : val B (zs.drop j) % D = (val B (zs.drop (j + 1)) % D * B + zs.getD j 0) % D := by
  rw [drop_consB h, Nat.add_comm, Nat.mul_comm B, Nat.add_mod (val B (zs.drop (j + 1)) % D * B), Nat.mod_mul_mod, ← Nat.add_mod]

set_option maxRecDepth 20000 in
set_option maxHeartbeats 2000000 in
/-- What Small attempts. -/
theorem pSmall1 (ao : Option Addr) (L cap : Nat) (xs : List Nat) (D : Nat) (hD : D < 18446744073709551616) (bA bD bR : Nat) (w : World) (hu : Row .u64 w (.slice ao L cap) xs) (hdx : Digs 18446744073709551616 xs) (hL : L ≤ 1000000)
    (hA : Box w bA (.slice ao L cap) 31) (hBD : Box w bD (.int .u64 (D : Nat)) 23) (hR : Box w bR (.int .u64 0) 23) (hAR : bA ≠ bR) (hDR : bD ≠ bR) (hap : xs ≠ [] → ∀ b, (Value.slice ao L cap).ownBlock = some b → b ≠ bR) :
    Calls Tryz.prog 60 #[.pointer (some ⟨bD, 0, none⟩), .pointer (some ⟨bA, 0, none⟩), .pointer (some ⟨bR, 0, none⟩)] w fun e w' =>
      (D ≠ 0 ∧ e = .returned (.tuple #[]) ∧ Kept (fun b => b = bR) w w' ∧ Box w' bR (.int .u64 (val 18446744073709551616 xs % D : Nat)) 23) ∨ (D = 0 ∧ e = .panicked [refusal 1] ∧ w' = w) := by
  have cA := hA.cell
  have cD := hBD.cell
  have cR := hR.cell
  have fR := hR.free
  by_cases h0 : D = 0
  · subst h0
    have hY := pRefuseYes 1 w
    clear hu hdx
    go_enter Tryz.func60, Tryz.ntmps60
    go_wp2_with fail
    refine hY.mono ?_
    rintro e w' ⟨rfl, rfl⟩
    exact ⟨rfl, .inr ⟨by first | rfl | trivial, rfl, rfl⟩⟩
  · have hN := pRefuseNo 1 w
    have g0 : ((D : Int) == 0) = false := by simp; omega
    obtain ⟨_, _, _, e1, hLx, _, _, _, _⟩ := hu.open
    cases e1
    have eL := toHid hLx.out
    have HA := toHid hA
    have HBD := toHid hBD
    have HR := toHid hR
    have HU := toHid hu
    have hxb : Hid (∀ k, xs.getD k 0 < 18446744073709551616) := fun k => hdx.getD (by omega) _
    have hD0 : 0 < D := by omega
    clear hu hdx hLx hA hBD hR h0
    go_enter Tryz.func60, Tryz.ntmps60
    go_wp2_with fail
    refine hN.mono ?_
    rintro e w1 ⟨rfl, rfl⟩
    clear hN
    go_wp2_with fail
    go_loopw [9] (fun i wr => ∃ (k : Nat), k ≤ L ∧ i = .int .i64 (k : Int) ∧ Kept (fun b => b = bR) w1 wr ∧ Box wr bR (.int .u64 (val 18446744073709551616 (xs.drop (L - k)) % D : Nat)) 23) (fun i _ => L - (intOf i).toNat)
    case atStart => exact ⟨0, Nat.zero_le _, rfl, Kept.refl _ _, by rw [Nat.sub_zero, List.drop_of_length_le (by have := eL.out; omega)]; simpa [val] using HR.out⟩
    case round =>
      clear cA cD cR fR
      obtain ⟨k, hk, rfl, hkp, hbR⟩ := hrel
      by_cases hkn : k < L
      · have hk0 : (0 : Int) ≤ (k : Int) := Int.natCast_nonneg _
        have hk1 : (k : Int) < (L : Int) := by omega
        have cA := (HA.out.kept hkp hAR).cell
        have cD := (HBD.out.kept hkp hDR).cell
        have cR := hbR.cell
        obtain ⟨j, hj⟩ : ∃ j, j = L - 1 - k := ⟨_, rfl⟩
        obtain ⟨_, _, _, e2, _, _, _, _, hnum⟩ := (HU.out.kept' hkp hap).open
        cases e2
        obtain ⟨b2, off2, rfl, hc2⟩ := hnum j (by omega)
        have hst := small_step (B := 18446744073709551616) (D := D) (zs := xs) (j := j) (by have := eL.out; omega)
        rw [show j + 1 = L - k by omega] at hst
        have hx := hxb.out j
        obtain ⟨r, hr⟩ : ∃ r, r = val 18446744073709551616 (xs.drop (L - k)) % D := ⟨_, rfl⟩
        rw [← hr] at hst cR hbR
        obtain ⟨r2, hr2⟩ : ∃ r2, r2 = val 18446744073709551616 (xs.drop j) % D := ⟨_, rfl⟩
        rw [← hr2] at hst
        have hRem := fun W => bRem r (xs.getD j 0) D r2 hx hD hD0 hst W
        obtain ⟨L1, hL1⟩ : ∃ L1, L1 = L - 1 := ⟨_, rfl⟩
        have gw1 : IntKind.i64.wrap ((L : Int) - 1) = (L1 : Int) := by rw [IntKind.wrap_i64]; omega
        have gw2 : IntKind.i64.wrap ((L1 : Int) - (k : Int)) = (j : Int) := by rw [IntKind.wrap_i64]; omega
        have gj2 : (j : Int) < (L : Int) := by omega
        have HJ : Hid (r2 = val 18446744073709551616 (xs.drop (L - (k + 1))) % D) := by unfold Hid; rw [hr2, show L - (k + 1) = j by omega]
        have HBR := toHid hbR
        have fR := hbR.free
        clear hst hr hr2 hj hnum hbR hxb hL1
        generalize xs.getD j 0 = x at *
        go_wp2_with fail
        go_still_tail 10, (by kernel_rfl)
        change wpList _ _ _ _ _ wr.drew
        go_wp2_with fail
        refine (hRem _).mono ?_
        rintro e w7 ⟨rfl, m, rfl⟩
        have HB7 := toHid (HBR.out.drew.grew ((Kept.refl Nought wr.drew).drewN m))
        have c7 := HB7.out.cell
        have f7 := HB7.out.free
        have k7 := toHid (hkp.drew.drewN m)
        generalize wr.drew.drewN m = W7 at *
        go_wp2_with fail
        go_roundw
        case rel => exact ⟨k + 1, by omega, by go_num, k7.out.trans (kept_box _ _ _), by rw [← HJ.out]; exact HB7.out.set _⟩
        case measure => simp [intOf]; omega
      · have hk1 : ¬ (k : Int) < (L : Int) := by omega
        obtain rfl : k = L := by omega
        rw [Nat.sub_self, List.drop_zero] at hbR
        clear hxb
        go_wp2_with fail
        go_end0
        exact .inl ⟨by omega, rfl, hkp, hbR⟩

end Go.Proofs.YtcjaafmlflonhaaGreatDoor
