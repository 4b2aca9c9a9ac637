/- The law ProductDivides, walked: whatever the two numbers. -/
import Derived.Test.YtcdeankllgpnfaaL5B
import Derived.Test.YtcdeankllgpnfaaQuH
import Derived.Test.YtcdeankllgpnfaaBase3
import Derived.Test.YtcdeankllgpnfaaOpenRow
namespace Go.Proofs.Ytcdeankllgpnfaa
open Go.RowKit

set_option maxRecDepth 20000 in
set_option maxHeartbeats 4000000 in
theorem walkProductDivides (u : Value) (xs : List Nat) (v : Value) (ys : List Nat) (w : World) (hu : Row .u64 w u xs) (hv : Row .u64 w v ys) (hdx : Digs 18446744073709551616 xs) (hdy : Digs 18446744073709551616 ys) :
    Calls Try.prog 4 #[u, v] w fun e w' => e = .returned (.bool true) ∧ Below w.heap.size w w' := by
  have hA := f5Awake w
  obtain ⟨ao, L, cap, rfl, hL, _, _, _, _⟩ := hu.open
  obtain ⟨bo, M, dap, rfl, hM, _, _, _, _⟩ := hv.open
  obtain ⟨E, hE⟩ : ∃ E, E = divE (val 18446744073709551616 ys) L M := ⟨_, rfl⟩
  have h1 := fun W (k : Kept Nought w W) => divide0 ao bo L M cap dap xs ys E hE W (hu.grew k) (hv.grew k) hdx hdy
  have h2 := fun W (k : Kept Nought w W) => pQuick ao bo L M cap dap xs ys E hE W (hu.grew k) (hv.grew k) hdx hdy
  have h3 := fun W (k : Kept Nought w W) => q5Divide ao bo L M cap dap xs ys E hE W (hu.grew k) (hv.grew k) hdx hdy
  clear hu hv hdx hdy hL hM hE
  generalize divQ (val 18446744073709551616 xs) (val 18446744073709551616 ys) L M = ql at *
  generalize divR (val 18446744073709551616 xs) (val 18446744073709551616 ys) L M = rl at *
  go_enter Try.func4, Try.ntmps4
  go_wp2_with fail
  refine hA.mono ?_
  rintro e w1 ⟨rfl, k1⟩
  clear hA
  go_wp2_with fail
  by_cases hq1 : L ≤ 40
  · skip
    have hF1 := fun W => few1 ao L cap W true (decide_eq_true hq1).symm
    refine (hF1 w1).mono ?_
    rintro e w1' ⟨rfl, rfl⟩
    have k2 := k1.alloc (.cells #[.slice ao L cap] 23)
    generalize w1.alloc (.cells #[.slice ao L cap] 23) = w2 at *
    clear hF1
    go_wp2_with fail
    by_cases hq2 : M ≤ 40
    · skip
      have hF2 := fun W => few1 bo M dap W true (decide_eq_true hq2).symm
      refine (hF2 w2).mono ?_
      rintro e w2' ⟨rfl, rfl⟩
      have k5 := k2.alloc (.cells #[.slice bo M dap] 23)
      generalize w2.alloc (.cells #[.slice bo M dap] 23) = w5 at *
      clear hF2
      go_wp2_with fail
      refine (h1 w5 k5).mono ?_
      rintro e w6 ⟨q6, r6, rfl, hq6, hr6, k6⟩
      have k6' := k5.trans k6
      clear h1
      go_wp2_with fail
      refine (h2 w6 k6').mono ?_
      rintro e w7 ⟨q7, r7, rfl, hq7, hr7, k7⟩
      have k7' := k6'.trans k7
      have hq6' := hq6.grew k7
      have hr6' := hr6.grew k7
      clear h2 hq6 hr6 k6
      go_wp2_with fail
      refine (h3 w7 k7').mono ?_
      rintro e w8 ⟨q8, r8, rfl, hq8, hr8, k8⟩
      have k8' := toHid (k7'.trans k8)
      have hS1 := same5 q6 q8 ql w8 (hq6'.grew k8) hq8
      have hS2 := fun m => same5 r6 r8 rl (w8.drewN m) ((hr6'.grew k8).grew ((Kept.refl _ _).drewN m)) (hr8.grew ((Kept.refl _ _).drewN m))
      have hS3 := fun m => same5 q7 q8 ql (w8.drewN m) ((hq7.grew k8).grew ((Kept.refl _ _).drewN m)) (hq8.grew ((Kept.refl _ _).drewN m))
      have hS4 := fun m => same5 r7 r8 rl (w8.drewN m) ((hr7.grew k8).grew ((Kept.refl _ _).drewN m)) (hr8.grew ((Kept.refl _ _).drewN m))
      clear h3 hq6' hr6' hq7 hr7 hq8 hr8 k7 k7' k8
      go_wp2_with fail
      refine hS1.mono ?_
      rintro e w9 ⟨rfl, m, rfl⟩
      go_wp2_with fail
      refine (hS2 _).mono ?_
      rintro e w9 ⟨rfl, m2, rfl⟩
      go_wp2_with fail
      refine (hS3 (m + m2)).mono ?_
      rintro e w9 ⟨rfl, m3, rfl⟩
      go_wp2_with fail
      refine (hS4 (m + m2 + m3)).mono ?_
      rintro e w9 ⟨rfl, m4, rfl⟩
      go_wp2_with fail
      go_ret
      exact ⟨rfl, below_kept (k8'.out.drewN _) (Nat.le_refl _)⟩
    · by_cases hh2 : 300 < M ∧ M ≤ 310
      · skip
        have hF2 := fun W => few1 bo M dap W false (decide_eq_false hq2).symm
        have hH2 := fun W => f5Huge bo M dap true (decide_eq_true hh2).symm W
        refine (hF2 w2).mono ?_
        rintro e w2' ⟨rfl, rfl⟩
        have k5 := k2.alloc (.cells #[.slice bo M dap] 23)
        generalize w2.alloc (.cells #[.slice bo M dap] 23) = w5 at *
        clear hF2
        go_wp2_with fail
        refine (hH2 w5).mono ?_
        rintro e w5h ⟨rfl, rfl⟩
        clear hH2
        go_wp2_with fail
        refine (h1 w5h k5).mono ?_
        rintro e w6 ⟨q6, r6, rfl, hq6, hr6, k6⟩
        have k6' := k5.trans k6
        clear h1
        go_wp2_with fail
        refine (h2 w6 k6').mono ?_
        rintro e w7 ⟨q7, r7, rfl, hq7, hr7, k7⟩
        have k7' := k6'.trans k7
        have hq6' := hq6.grew k7
        have hr6' := hr6.grew k7
        clear h2 hq6 hr6 k6
        go_wp2_with fail
        refine (h3 w7 k7').mono ?_
        rintro e w8 ⟨q8, r8, rfl, hq8, hr8, k8⟩
        have k8' := toHid (k7'.trans k8)
        have hS1 := same5 q6 q8 ql w8 (hq6'.grew k8) hq8
        have hS2 := fun m => same5 r6 r8 rl (w8.drewN m) ((hr6'.grew k8).grew ((Kept.refl _ _).drewN m)) (hr8.grew ((Kept.refl _ _).drewN m))
        have hS3 := fun m => same5 q7 q8 ql (w8.drewN m) ((hq7.grew k8).grew ((Kept.refl _ _).drewN m)) (hq8.grew ((Kept.refl _ _).drewN m))
        have hS4 := fun m => same5 r7 r8 rl (w8.drewN m) ((hr7.grew k8).grew ((Kept.refl _ _).drewN m)) (hr8.grew ((Kept.refl _ _).drewN m))
        clear h3 hq6' hr6' hq7 hr7 hq8 hr8 k7 k7' k8
        go_wp2_with fail
        refine hS1.mono ?_
        rintro e w9 ⟨rfl, m, rfl⟩
        go_wp2_with fail
        refine (hS2 _).mono ?_
        rintro e w9 ⟨rfl, m2, rfl⟩
        go_wp2_with fail
        refine (hS3 (m + m2)).mono ?_
        rintro e w9 ⟨rfl, m3, rfl⟩
        go_wp2_with fail
        refine (hS4 (m + m2 + m3)).mono ?_
        rintro e w9 ⟨rfl, m4, rfl⟩
        go_wp2_with fail
        go_ret
        exact ⟨rfl, below_kept (k8'.out.drewN _) (Nat.le_refl _)⟩
      · skip
        have hF2 := fun W => few1 bo M dap W false (decide_eq_false hq2).symm
        have hH2 := fun W => f5Huge bo M dap false (decide_eq_false hh2).symm W
        refine (hF2 w2).mono ?_
        rintro e w2' ⟨rfl, rfl⟩
        have k5 := k2.alloc (.cells #[.slice bo M dap] 23)
        generalize w2.alloc (.cells #[.slice bo M dap] 23) = w5 at *
        clear hF2
        go_wp2_with fail
        refine (hH2 w5).mono ?_
        rintro e w5h ⟨rfl, rfl⟩
        clear hH2
        go_wp2_with fail
        go_ret
        exact ⟨rfl, below_kept k5 (Nat.le_refl _)⟩
  · by_cases hh1 : 300 < L ∧ L ≤ 310
    · skip
      have hF1 := fun W => few1 ao L cap W false (decide_eq_false hq1).symm
      have hH1 := fun W => f5Huge ao L cap true (decide_eq_true hh1).symm W
      refine (hF1 w1).mono ?_
      rintro e w1' ⟨rfl, rfl⟩
      have k2 := k1.alloc (.cells #[.slice ao L cap] 23)
      generalize w1.alloc (.cells #[.slice ao L cap] 23) = w2 at *
      clear hF1
      go_wp2_with fail
      refine (hH1 w2).mono ?_
      rintro e w2h ⟨rfl, rfl⟩
      clear hH1
      go_wp2_with fail
      by_cases hq2 : M ≤ 40
      · skip
        have hF2 := fun W => few1 bo M dap W true (decide_eq_true hq2).symm
        refine (hF2 w2h).mono ?_
        rintro e w2h' ⟨rfl, rfl⟩
        have k5 := k2.alloc (.cells #[.slice bo M dap] 23)
        generalize w2h.alloc (.cells #[.slice bo M dap] 23) = w5 at *
        clear hF2
        go_wp2_with fail
        refine (h1 w5 k5).mono ?_
        rintro e w6 ⟨q6, r6, rfl, hq6, hr6, k6⟩
        have k6' := k5.trans k6
        clear h1
        go_wp2_with fail
        refine (h2 w6 k6').mono ?_
        rintro e w7 ⟨q7, r7, rfl, hq7, hr7, k7⟩
        have k7' := k6'.trans k7
        have hq6' := hq6.grew k7
        have hr6' := hr6.grew k7
        clear h2 hq6 hr6 k6
        go_wp2_with fail
        refine (h3 w7 k7').mono ?_
        rintro e w8 ⟨q8, r8, rfl, hq8, hr8, k8⟩
        have k8' := toHid (k7'.trans k8)
        have hS1 := same5 q6 q8 ql w8 (hq6'.grew k8) hq8
        have hS2 := fun m => same5 r6 r8 rl (w8.drewN m) ((hr6'.grew k8).grew ((Kept.refl _ _).drewN m)) (hr8.grew ((Kept.refl _ _).drewN m))
        have hS3 := fun m => same5 q7 q8 ql (w8.drewN m) ((hq7.grew k8).grew ((Kept.refl _ _).drewN m)) (hq8.grew ((Kept.refl _ _).drewN m))
        have hS4 := fun m => same5 r7 r8 rl (w8.drewN m) ((hr7.grew k8).grew ((Kept.refl _ _).drewN m)) (hr8.grew ((Kept.refl _ _).drewN m))
        clear h3 hq6' hr6' hq7 hr7 hq8 hr8 k7 k7' k8
        go_wp2_with fail
        refine hS1.mono ?_
        rintro e w9 ⟨rfl, m, rfl⟩
        go_wp2_with fail
        refine (hS2 _).mono ?_
        rintro e w9 ⟨rfl, m2, rfl⟩
        go_wp2_with fail
        refine (hS3 (m + m2)).mono ?_
        rintro e w9 ⟨rfl, m3, rfl⟩
        go_wp2_with fail
        refine (hS4 (m + m2 + m3)).mono ?_
        rintro e w9 ⟨rfl, m4, rfl⟩
        go_wp2_with fail
        go_ret
        exact ⟨rfl, below_kept (k8'.out.drewN _) (Nat.le_refl _)⟩
      · by_cases hh2 : 300 < M ∧ M ≤ 310
        · skip
          have hF2 := fun W => few1 bo M dap W false (decide_eq_false hq2).symm
          have hH2 := fun W => f5Huge bo M dap true (decide_eq_true hh2).symm W
          refine (hF2 w2h).mono ?_
          rintro e w2h' ⟨rfl, rfl⟩
          have k5 := k2.alloc (.cells #[.slice bo M dap] 23)
          generalize w2h.alloc (.cells #[.slice bo M dap] 23) = w5 at *
          clear hF2
          go_wp2_with fail
          refine (hH2 w5).mono ?_
          rintro e w5h ⟨rfl, rfl⟩
          clear hH2
          go_wp2_with fail
          refine (h1 w5h k5).mono ?_
          rintro e w6 ⟨q6, r6, rfl, hq6, hr6, k6⟩
          have k6' := k5.trans k6
          clear h1
          go_wp2_with fail
          refine (h2 w6 k6').mono ?_
          rintro e w7 ⟨q7, r7, rfl, hq7, hr7, k7⟩
          have k7' := k6'.trans k7
          have hq6' := hq6.grew k7
          have hr6' := hr6.grew k7
          clear h2 hq6 hr6 k6
          go_wp2_with fail
          refine (h3 w7 k7').mono ?_
          rintro e w8 ⟨q8, r8, rfl, hq8, hr8, k8⟩
          have k8' := toHid (k7'.trans k8)
          have hS1 := same5 q6 q8 ql w8 (hq6'.grew k8) hq8
          have hS2 := fun m => same5 r6 r8 rl (w8.drewN m) ((hr6'.grew k8).grew ((Kept.refl _ _).drewN m)) (hr8.grew ((Kept.refl _ _).drewN m))
          have hS3 := fun m => same5 q7 q8 ql (w8.drewN m) ((hq7.grew k8).grew ((Kept.refl _ _).drewN m)) (hq8.grew ((Kept.refl _ _).drewN m))
          have hS4 := fun m => same5 r7 r8 rl (w8.drewN m) ((hr7.grew k8).grew ((Kept.refl _ _).drewN m)) (hr8.grew ((Kept.refl _ _).drewN m))
          clear h3 hq6' hr6' hq7 hr7 hq8 hr8 k7 k7' k8
          go_wp2_with fail
          refine hS1.mono ?_
          rintro e w9 ⟨rfl, m, rfl⟩
          go_wp2_with fail
          refine (hS2 _).mono ?_
          rintro e w9 ⟨rfl, m2, rfl⟩
          go_wp2_with fail
          refine (hS3 (m + m2)).mono ?_
          rintro e w9 ⟨rfl, m3, rfl⟩
          go_wp2_with fail
          refine (hS4 (m + m2 + m3)).mono ?_
          rintro e w9 ⟨rfl, m4, rfl⟩
          go_wp2_with fail
          go_ret
          exact ⟨rfl, below_kept (k8'.out.drewN _) (Nat.le_refl _)⟩
        · skip
          have hF2 := fun W => few1 bo M dap W false (decide_eq_false hq2).symm
          have hH2 := fun W => f5Huge bo M dap false (decide_eq_false hh2).symm W
          refine (hF2 w2h).mono ?_
          rintro e w2h' ⟨rfl, rfl⟩
          have k5 := k2.alloc (.cells #[.slice bo M dap] 23)
          generalize w2h.alloc (.cells #[.slice bo M dap] 23) = w5 at *
          clear hF2
          go_wp2_with fail
          refine (hH2 w5).mono ?_
          rintro e w5h ⟨rfl, rfl⟩
          clear hH2
          go_wp2_with fail
          go_ret
          exact ⟨rfl, below_kept k5 (Nat.le_refl _)⟩
    · skip
      have hF1 := fun W => few1 ao L cap W false (decide_eq_false hq1).symm
      have hH1 := fun W => f5Huge ao L cap false (decide_eq_false hh1).symm W
      refine (hF1 w1).mono ?_
      rintro e w1' ⟨rfl, rfl⟩
      have k2 := k1.alloc (.cells #[.slice ao L cap] 23)
      generalize w1.alloc (.cells #[.slice ao L cap] 23) = w2 at *
      clear hF1
      go_wp2_with fail
      refine (hH1 w2).mono ?_
      rintro e w2h ⟨rfl, rfl⟩
      clear hH1
      go_wp2_with fail
      go_ret
      exact ⟨rfl, below_kept k2 (Nat.le_refl _)⟩

end Go.Proofs.Ytcdeankllgpnfaa
