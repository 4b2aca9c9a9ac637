/- The law LimbsIfs, walked: whatever the bit and the two numbers. -/
import Derived.Test.YtnjmckfkfkalgaaLimO
import Derived.Test.YtnjmckfkfkalgaaLimS
import Derived.Test.YtnjmckfkfkalgaaOpenRow
namespace Go.Proofs.Ytnjmckfkfkalgaa
open Go.RowKit

set_option maxRecDepth 20000 in
set_option maxHeartbeats 2000000 in
theorem walkLimbsIfs (bit : Int) (u : Value) (xs : List Nat) (v : Value) (ys : List Nat) (w : World) (hu : Row .u64 w u xs) (hv : Row .u64 w v ys) (hdx : Digs 18446744073709551616 xs) (hdy : Digs 18446744073709551616 ys) (hb : (Lit.int .u64 bit).wf = true) :
    Calls Try.prog 8 #[.int .u64 bit, u, v] w fun e w' => e = .returned (.bool true) ∧ Below w.heap.size w w' := by
  obtain ⟨bt, rfl, hbt⟩ : ∃ bt : Nat, bit = (bt : Int) ∧ bt < 18446744073709551616 := by
    have := wf_u64 bit hb
    exact ⟨bit.toNat, by omega, by omega⟩
  clear hb
  have hA := lAwake w
  obtain ⟨ao, L, cap, rfl, hL, _, _, _, _⟩ := hu.open
  obtain ⟨bo, M, dap, rfl, hM, _, _, _, _⟩ := hv.open
  have eL := hL.out
  have eM := hM.out
  by_cases h4 : L ≤ 200 ∧ M ≤ 200
  · have hF := fun W => lFew2 ao bo L M cap dap W true (decide_eq_true h4).symm
    have h1 := fun W (k : Kept Nought w W) => lAddIf0 bt hbt _ _ xs ys W (hu.grew k) (hv.grew k) hdx hdy (by omega) (by omega)
    have h2 := fun W (k : Kept Nought w W) => q4AddIf bt hbt ao bo L M cap dap xs ys W (hu.grew k) (hv.grew k) hdx hdy (by omega) (by omega)
    have h3 := fun W (k : Kept Nought w W) => lSubIf0 bt hbt _ _ xs ys W (hu.grew k) (hv.grew k) hdx hdy (by omega) (by omega)
    have h5 := fun W (k : Kept Nought w W) => q4SubIf bt hbt ao bo L M cap dap xs ys W (hu.grew k) (hv.grew k) hdx hdy (by omega) (by omega)
    rw [eL, eM] at h1 h3
    clear hu hv h4 hL hM eL eM hdx hdy
    generalize digs 18446744073709551616 (selN bt (val 18446744073709551616 xs + val 18446744073709551616 ys) (val 18446744073709551616 xs)) (max L M) = r1 at *
    generalize selN bt (oneN (decide (2 ^ (64 * max L M) ≤ val 18446744073709551616 xs + val 18446744073709551616 ys))) 0 = c1 at *
    generalize digs 18446744073709551616 (selN bt (subN (val 18446744073709551616 xs) (val 18446744073709551616 ys) (max L M)) (val 18446744073709551616 xs)) (max L M) = r2 at *
    generalize selN bt (oneN (decide (val 18446744073709551616 xs < val 18446744073709551616 ys))) 0 = c2 at *
    go_enter Try.func8, Try.ntmps8
    go_wp2_with fail
    refine hA.mono ?_
    rintro e w1 ⟨rfl, k1⟩
    go_wp2_with fail
    refine (hF w1).mono ?_
    rintro e w1' ⟨rfl, rfl⟩
    have k2 := k1.alloc (.cells #[.slice ao L cap, .slice bo M dap] 23)
    generalize w1.alloc (.cells #[.slice ao L cap, .slice bo M dap] 23) = w2 at *
    clear hA hF k1
    go_wp2_with fail
    refine (h1 w2 k2).mono ?_
    rintro e w3 ⟨v3, rfl, hr3, k3⟩
    have k3' := k2.trans k3
    go_wp2_with fail
    refine (h2 w3 k3').mono ?_
    rintro e w4 ⟨v4, rfl, hr4, k4⟩
    have k4' := k3'.trans k4
    have hr3' := hr3.grew k4
    clear h1 h2 hr3 k2 k3 k3' k4
    go_wp2_with fail
    refine (h3 w4 k4').mono ?_
    rintro e w5 ⟨v5, rfl, hr5, k5⟩
    have k5' := k4'.trans k5
    go_wp2_with fail
    refine (h5 w5 k5').mono ?_
    rintro e w6 ⟨v6, rfl, hr6, k6⟩
    have k6' := toHid (k5'.trans k6)
    have hB1 := lBoth v3 v4 r1 c1 w6 ((hr3'.grew k5).grew k6) ((hr4.grew k5).grew k6)
    have hB2 := fun m => lBoth v5 v6 r2 c2 (w6.drewN m) ((hr5.grew k6).grew ((Kept.refl _ _).drewN m)) (hr6.grew ((Kept.refl _ _).drewN m))
    clear h3 h5 k5 k5' k6 hr3' hr4 hr5 hr6 k4'
    go_wp2_with fail
    refine hB1.mono ?_
    rintro e w7 ⟨rfl, m, rfl⟩
    go_wp2_with fail
    refine (hB2 m).mono ?_
    rintro e w8 ⟨rfl, m2, rfl⟩
    go_wp2_with fail
    go_ret
    exact ⟨rfl, below_kept (k6'.out.drewN _) (Nat.le_refl _)⟩
  · have hF := fun W => lFew2 ao bo L M cap dap W false (decide_eq_false h4).symm
    clear hu hv h4
    go_enter Try.func8, Try.ntmps8
    go_wp2_with fail
    refine hA.mono ?_
    rintro e w1 ⟨rfl, k1⟩
    go_wp2_with fail
    refine (hF w1).mono ?_
    rintro e w1' ⟨rfl, rfl⟩
    go_wp2_with fail
    go_ret
    exact ⟨rfl, below_kept (k1.alloc _) (Nat.le_refl _)⟩

end Go.Proofs.Ytnjmckfkfkalgaa
