/- The law LimbsSelects, walked: whatever the bit and the two numbers. -/
import Derived.Test.YtnjmckfkfkalgaaLimO
import Derived.Test.YtnjmckfkfkalgaaLimR
import Derived.Test.YtnjmckfkfkalgaaOpenRow
namespace Go.Proofs.Ytnjmckfkfkalgaa
open Go.RowKit

set_option maxRecDepth 20000 in
set_option maxHeartbeats 2000000 in
theorem walkLimbsSelects (bit : Int) (u : Value) (xs : List Nat) (v : Value) (ys : List Nat) (w : World) (hu : Row .u64 w u xs) (hv : Row .u64 w v ys) (hdx : Digs 18446744073709551616 xs) (hdy : Digs 18446744073709551616 ys) (hb : (Lit.int .u64 bit).wf = true) :
    Calls Try.prog 5 #[.int .u64 bit, u, v] w fun e w' => e = .returned (.bool true) ∧ Below w.heap.size w w' := by
  obtain ⟨bt, rfl, hbt⟩ : ∃ bt : Nat, bit = (bt : Int) ∧ bt < 18446744073709551616 := by
    have := wf_u64 bit hb
    exact ⟨bit.toNat, by omega, by omega⟩
  clear hb
  have hA := lAwake w
  obtain ⟨ao, L, cap, rfl, hL, _, _, _, _⟩ := hu.open
  obtain ⟨bo, M, dap, rfl, hM, _, _, _, _⟩ := hv.open
  have eL := hL.out
  have eM := hM.out
  by_cases h4 : L ≤ 200 ∧ M ≤ 200
  · have hF := fun W => lFew2 ao bo L M cap dap W true (decide_eq_true h4).symm
    have h1 := fun W (k : Kept Nought w W) => lSelect0 bt hbt _ _ xs ys W (hu.grew k) (hv.grew k) hdx hdy (by omega) (by omega)
    have h2 := fun W (k : Kept Nought w W) => q4Select bt hbt ao bo L M cap dap xs ys W (hu.grew k) (hv.grew k) hdx hdy (by omega) (by omega)
    rw [eL, eM] at h1
    clear hu hv h4 hL hM eL eM hdx hdy
    generalize digs 18446744073709551616 (selN bt (val 18446744073709551616 xs) (val 18446744073709551616 ys)) (max L M) = r1 at *
    go_enter Try.func5, Try.ntmps5
    go_wp2_with fail
    refine hA.mono ?_
    rintro e w1 ⟨rfl, k1⟩
    go_wp2_with fail
    refine (hF w1).mono ?_
    rintro e w1' ⟨rfl, rfl⟩
    have k2 := k1.alloc (.cells #[.slice ao L cap, .slice bo M dap] 23)
    generalize w1.alloc (.cells #[.slice ao L cap, .slice bo M dap] 23) = w2 at *
    clear hA hF k1
    go_wp2_with fail
    refine (h1 w2 k2).mono ?_
    rintro e w3 ⟨v3, rfl, hr3, k3⟩
    have k3' := k2.trans k3
    go_wp2_with fail
    refine (h2 w3 k3').mono ?_
    rintro e w4 ⟨v4, rfl, hr4, k4⟩
    have k4' := k3'.trans k4
    have hS := rSame v3 v4 r1 r1 w4 (hr3.grew k4) hr4
    rw [decide_eq_true (rfl : r1 = r1)] at hS
    clear h1 h2 hr3 k2 k3 k3' k4
    go_wp2_with fail
    refine hS.mono ?_
    rintro e w7 ⟨rfl, m, rfl⟩
    go_wp2_with fail
    go_ret
    exact ⟨rfl, below_kept (k4'.drewN m) (Nat.le_refl _)⟩
  · have hF := fun W => lFew2 ao bo L M cap dap W false (decide_eq_false h4).symm
    clear hu hv h4
    go_enter Try.func5, Try.ntmps5
    go_wp2_with fail
    refine hA.mono ?_
    rintro e w1 ⟨rfl, k1⟩
    go_wp2_with fail
    refine (hF w1).mono ?_
    rintro e w1' ⟨rfl, rfl⟩
    go_wp2_with fail
    go_ret
    exact ⟨rfl, below_kept (k1.alloc _) (Nat.le_refl _)⟩

end Go.Proofs.Ytnjmckfkfkalgaa
