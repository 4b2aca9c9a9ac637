/- The law SievePasses, walked. -/
import Derived.Test.YtboogjaiigihdaaLaw16
import Derived.Test.YtboogjaiigihdaaOpenRow
namespace Go.Proofs.Ytboogjaiigihdaa
open Go.RowKit

set_option maxRecDepth 20000 in
set_option maxHeartbeats 1000000 in
theorem walkSievePasses (u : Value) (xs : List Nat) (w : World) (hu : Row .u64 w u xs) (hdx : Digs 18446744073709551616 xs) :
    Calls Try.prog 5 #[u] w fun e w' => e = .returned (.bool true) ∧ Below w.heap.size w w' := by
  obtain ⟨ao, L, cap, rfl, hL, _, _, _, _⟩ := hu.open
  obtain ⟨R, hR⟩ : ∃ R : Bool, R = decide (L ≤ 6) := ⟨_, rfl⟩
  obtain ⟨B, hB⟩ : ∃ B : Bool, B = true ↔ passN (val 18446744073709551616 xs) := by
    by_cases h : passN (val 18446744073709551616 xs)
    · exact ⟨true, fun _ => h, fun _ => rfl⟩
    · exact ⟨false, (fun e => by cases e), fun e => absurd e h⟩
  have hA := f16Awake w
  have JW := toHid fun W => f16Few ao L cap W R hR
  have JF := toHid fun W (k : Kept Nought w W) (hl : L ≤ 6) => sPasses ao L cap xs B hB W (hu.grew k) hdx (by omega)
  have JR := toHid fun W (k : Kept Nought w W) (hl : L ≤ 6) => r16Passes ao L cap xs B hB W (hu.grew k) hdx (by omega)
  clear hu hdx hL hB
  go_enter Try.func5, Try.ntmps5
  go_wp2_with fail
  refine hA.mono ?_
  rintro e w1 ⟨rfl, k1⟩
  have HK1 := toHid k1
  have hW := JW.out w1
  clear hA k1 JW
  by_cases hl : L ≤ 6
  · obtain rfl : R = true := by rw [hR, decide_eq_true hl]
    clear hR
    go_wp2_with fail
    refine hW.mono ?_
    rintro e w2 ⟨rfl, rfl⟩
    have hF := JF.out w2 HK1.out hl
    clear hW
    go_wp2_with fail
    refine hF.mono ?_
    rintro e w3 ⟨rfl, k3⟩
    have HK3 := toHid (HK1.out.trans k3)
    have hG := JR.out w3 HK3.out hl
    clear hF k3
    go_wp2_with fail
    refine hG.mono ?_
    rintro e w4 ⟨rfl, k4⟩
    have HK4 := toHid (HK3.out.trans k4)
    clear hG k4
    go_wp2_with fail
    go_ret
    exact ⟨by first | rfl | simp | (cases B <;> rfl), below_kept HK4.out (Nat.le_refl _)⟩
  · obtain rfl : R = false := by rw [hR, decide_eq_false hl]
    clear hR hl JF JR
    go_wp2_with fail
    refine hW.mono ?_
    rintro e w2 ⟨rfl, rfl⟩
    go_wp2_with fail
    go_ret
    exact ⟨rfl, below_kept HK1.out (Nat.le_refl _)⟩

end Go.Proofs.Ytboogjaiigihdaa
