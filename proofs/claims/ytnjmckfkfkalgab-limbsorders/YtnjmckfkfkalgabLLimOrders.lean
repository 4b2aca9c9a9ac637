/- The law LimbsOrders, walked: whatever the two numbers. -/
import Derived.Test.YtnjmckfkfkalgabLimO
import Derived.Test.YtnjmckfkfkalgabLimQ
namespace Go.Proofs.Ytnjmckfkfkalgab
open Go.RowKit

set_option maxRecDepth 20000 in
set_option maxHeartbeats 4000000 in
theorem walkLimbsOrders (u : Value) (xs : List Nat) (v : Value) (ys : List Nat) (w : World) (hu : Row .u64 w u xs) (hv : Row .u64 w v ys) (hdx : Digs 18446744073709551616 xs) (hdy : Digs 18446744073709551616 ys) :
    Calls Try.prog 5 #[u, v] w fun e w' => e = .returned (.bool true) ∧ Below w.heap.size w w' := by
  have hA := lAwake w
  obtain ⟨ao, L, cap, rfl, hL, _, _, _, _⟩ := hu.open
  obtain ⟨bo, M, dap, rfl, hM, _, _, _, _⟩ := hv.open
  have eL := hL.out
  have eM := hM.out
  by_cases h4 : L ≤ 200 ∧ M ≤ 200
  · have hF := fun W => lFew2 ao bo L M cap dap W true (decide_eq_true h4).symm
    have h1 := fun W (k : Kept Nought w W) => lLess0 _ _ xs ys W (hu.grew k) (hv.grew k) hdx hdy (by omega) (by omega)
    have h2 := fun W (k : Kept Nought w W) => lLess0 _ _ ys xs W (hv.grew k) (hu.grew k) hdy hdx (by omega) (by omega)
    have h3 := fun W (k : Kept Nought w W) => lEqual0 _ _ xs ys W (hu.grew k) (hv.grew k) hdx hdy (by omega) (by omega)
    have h5 := fun W (k : Kept Nought w W) => lLess0 _ _ xs [] W (hu.grew k) (Row.nil _ _) hdx (Digs.nil _) (by omega) (by simp)
    have h6 := fun W (k : Kept Nought w W) => lLess0 _ _ [] xs W (Row.nil _ _) (hu.grew k) (Digs.nil _) hdx (by simp) (by omega)
    have h7 := fun W (k : Kept Nought w W) => lZero0 _ xs W (hu.grew k) hdx (by omega)
    rw [show val 18446744073709551616 [] = 0 from rfl] at h5 h6
    clear hu hv h4 hL hM eL eM hdx hdy
    generalize val 18446744073709551616 xs = X at *
    generalize val 18446744073709551616 ys = Y at *
    obtain ⟨c1, c2, c3, e1, e2, e3, hsum⟩ : ∃ c1 c2 c3 : Nat, oneN (decide (X < Y)) = c1 ∧ oneN (decide (Y < X)) = c2 ∧ oneN (decide (X = Y)) = c3 ∧ ((c1 = 1 ∧ c2 = 0 ∧ c3 = 0) ∨ (c1 = 0 ∧ c2 = 1 ∧ c3 = 0) ∨ (c1 = 0 ∧ c2 = 0 ∧ c3 = 1)) := by
      refine ⟨_, _, _, rfl, rfl, rfl, ?_⟩
      unfold oneN
      rcases Nat.lt_trichotomy X Y with h | h | h
      · exact .inl ⟨if_pos (by simpa using h), if_neg (by simp; omega), if_neg (by simp; omega)⟩
      · exact .inr (.inr ⟨if_neg (by simp; omega), if_neg (by simp; omega), if_pos (by simpa using h)⟩)
      · exact .inr (.inl ⟨if_neg (by simp; omega), if_pos (by simpa using h), if_neg (by simp; omega)⟩)
    obtain ⟨c6, c7, e5, e6, e7, hz⟩ : ∃ c6 c7 : Nat, oneN (decide (X < 0)) = 0 ∧ oneN (decide (0 < X)) = c6 ∧ oneN (decide (X = 0)) = c7 ∧ ((c6 = 1 ∧ c7 = 0) ∨ (c6 = 0 ∧ c7 = 1)) := by
      refine ⟨_, _, ?_, rfl, rfl, ?_⟩
      · unfold oneN; exact if_neg (by simp)
      · unfold oneN
        by_cases h : X = 0
        · exact .inr ⟨if_neg (by simp; omega), if_pos (by simpa using h)⟩
        · exact .inl ⟨if_pos (by simp; omega), if_neg (by simpa using h)⟩
    rw [e1] at h1
    rw [e2] at h2
    rw [e3] at h3
    rw [e5] at h5
    rw [e6] at h6
    rw [e7] at h7
    clear e1 e2 e3 e5 e6 e7
    rcases hsum with ⟨rfl, rfl, rfl⟩ | ⟨rfl, rfl, rfl⟩ | ⟨rfl, rfl, rfl⟩
    all_goals
      rcases hz with ⟨rfl, rfl⟩ | ⟨rfl, rfl⟩
      all_goals
        go_enter Try.func5, Try.ntmps5
        go_wp2_with fail
        refine hA.mono ?_
        rintro e w1 ⟨rfl, k1⟩
        go_wp2_with fail
        refine (hF w1).mono ?_
        rintro e w1' ⟨rfl, rfl⟩
        have k2 := k1.alloc (.cells #[.slice ao L cap, .slice bo M dap] 23)
        generalize w1.alloc (.cells #[.slice ao L cap, .slice bo M dap] 23) = w2 at *
        clear k1
        go_wp2_with fail
        refine (h1 w2 k2).mono ?_
        rintro e w3 ⟨rfl, k3⟩
        have k3' := k2.trans k3
        go_wp2_with fail
        refine (h2 w3 k3').mono ?_
        rintro e w4 ⟨rfl, k4⟩
        have k4' := k3'.trans k4
        clear k2 k3 k3' k4
        go_wp2_with fail
        refine (h3 w4 k4').mono ?_
        rintro e w5 ⟨rfl, k5⟩
        have k5' := k4'.trans k5
        go_wp2_with fail
        refine (h5 w5 k5').mono ?_
        rintro e w6 ⟨rfl, k6⟩
        have k6' := k5'.trans k6
        clear k5 k5' k6 k4'
        go_wp2_with fail
        refine (h6 w6 k6').mono ?_
        rintro e w7 ⟨rfl, k7⟩
        have k7' := k6'.trans k7
        go_wp2_with fail
        refine (h7 w7 k7').mono ?_
        rintro e w8 ⟨rfl, k8⟩
        have k8' := k7'.trans k8
        go_wp2_with fail
        go_ret
        exact ⟨by first | rfl | simp, below_kept k8' (Nat.le_refl _)⟩
  · have hF := fun W => lFew2 ao bo L M cap dap W false (decide_eq_false h4).symm
    clear hu hv h4
    go_enter Try.func5, Try.ntmps5
    go_wp2_with fail
    refine hA.mono ?_
    rintro e w1 ⟨rfl, k1⟩
    go_wp2_with fail
    refine (hF w1).mono ?_
    rintro e w1' ⟨rfl, rfl⟩
    go_wp2_with fail
    go_ret
    exact ⟨rfl, below_kept (k1.alloc _) (Nat.le_refl _)⟩

end Go.Proofs.Ytnjmckfkfkalgab
