/- The law LimbsTells, walked: whatever the two numbers. -/
import Derived.Test.YtnjmckfkfkalgaaLimO
import Derived.Test.YtnjmckfkfkalgaaLimQ
namespace Go.Proofs.Ytnjmckfkfkalgaa
open Go.RowKit

set_option maxRecDepth 20000 in
set_option maxHeartbeats 2000000 in
theorem walkLimbsTells (u : Value) (xs : List Nat) (v : Value) (ys : List Nat) (w : World) (hu : Row .u64 w u xs) (hv : Row .u64 w v ys) (hdx : Digs 18446744073709551616 xs) (hdy : Digs 18446744073709551616 ys) :
    Calls Try.prog 4 #[u, v] w fun e w' => e = .returned (.bool true) ∧ Below w.heap.size w w' := by
  have hA := lAwake w
  obtain ⟨ao, L, cap, rfl, hL, _, _, _, _⟩ := hu.open
  obtain ⟨bo, M, dap, rfl, hM, _, _, _, _⟩ := hv.open
  have eL := hL.out
  have eM := hM.out
  by_cases h4 : L ≤ 200 ∧ M ≤ 200
  · have hF := fun W => lFew2 ao bo L M cap dap W true (decide_eq_true h4).symm
    have h1 := fun W (k : Kept Nought w W) => lLess0 _ _ xs ys W (hu.grew k) (hv.grew k) hdx hdy (by omega) (by omega)
    have h2 := fun W (k : Kept Nought w W) => q4Less _ _ xs ys W (hu.grew k) (hv.grew k) hdx hdy (by omega) (by omega)
    have h3 := fun W (k : Kept Nought w W) => lEqual0 _ _ xs ys W (hu.grew k) (hv.grew k) hdx hdy (by omega) (by omega)
    have h5 := fun W (k : Kept Nought w W) => q4Equal _ _ xs ys W (hu.grew k) (hv.grew k) hdx hdy (by omega) (by omega)
    have h6 := fun W (k : Kept Nought w W) => lZero0 _ xs W (hu.grew k) hdx (by omega)
    have h7 := fun W (k : Kept Nought w W) => q4Zero _ xs W (hu.grew k) hdx (by omega)
    clear hu hv h4 hL hM eL eM hdx hdy
    generalize oneN (decide (val 18446744073709551616 xs < val 18446744073709551616 ys)) = c1 at *
    generalize oneN (decide (val 18446744073709551616 xs = val 18446744073709551616 ys)) = c2 at *
    generalize oneN (decide (val 18446744073709551616 xs = 0)) = c3 at *
    go_enter Try.func4, Try.ntmps4
    go_wp2_with fail
    refine hA.mono ?_
    rintro e w1 ⟨rfl, k1⟩
    go_wp2_with fail
    refine (hF w1).mono ?_
    rintro e w1' ⟨rfl, rfl⟩
    have k2 := k1.alloc (.cells #[.slice ao L cap, .slice bo M dap] 23)
    generalize w1.alloc (.cells #[.slice ao L cap, .slice bo M dap] 23) = w2 at *
    clear hA hF k1
    go_wp2_with fail
    refine (h1 w2 k2).mono ?_
    rintro e w3 ⟨rfl, k3⟩
    have k3' := k2.trans k3
    go_wp2_with fail
    refine (h2 w3 k3').mono ?_
    rintro e w4 ⟨rfl, k4⟩
    have k4' := k3'.trans k4
    clear h1 h2 k2 k3 k3' k4
    go_wp2_with fail
    refine (h3 w4 k4').mono ?_
    rintro e w5 ⟨rfl, k5⟩
    have k5' := k4'.trans k5
    go_wp2_with fail
    refine (h5 w5 k5').mono ?_
    rintro e w6 ⟨rfl, k6⟩
    have k6' := k5'.trans k6
    clear h3 h5 k5 k5' k6 k4'
    go_wp2_with fail
    refine (h6 w6 k6').mono ?_
    rintro e w7 ⟨rfl, k7⟩
    have k7' := k6'.trans k7
    go_wp2_with fail
    refine (h7 w7 k7').mono ?_
    rintro e w8 ⟨rfl, k8⟩
    have k8' := k7'.trans k8
    clear h6 h7 k6' k7 k7' k8
    go_wp2_with fail
    go_ret
    exact ⟨by simp, below_kept k8' (Nat.le_refl _)⟩
  · have hF := fun W => lFew2 ao bo L M cap dap W false (decide_eq_false h4).symm
    clear hu hv h4
    go_enter Try.func4, Try.ntmps4
    go_wp2_with fail
    refine hA.mono ?_
    rintro e w1 ⟨rfl, k1⟩
    go_wp2_with fail
    refine (hF w1).mono ?_
    rintro e w1' ⟨rfl, rfl⟩
    go_wp2_with fail
    go_ret
    exact ⟨rfl, below_kept (k1.alloc _) (Nat.le_refl _)⟩

end Go.Proofs.Ytnjmckfkfkalgaa
