/- The law ProductWords, walked: whatever the numbers and the word. -/
import Derived.Test.YtcdeankllgpnfaaL5B
import Derived.Test.YtcdeankllgpnfaaRef5B
import Derived.Test.YtcdeankllgpnfaaBase3
import Derived.Test.YtcdeankllgpnfaaOpenRow
namespace Go.Proofs.Ytcdeankllgpnfaa
open Go.RowKit

theorem mw_same (X W Y L M : Nat) : mwAns X W Y L M = mwL X W Y L M ∧ mwTop X W Y L M = mwC X W Y L M := by
  unfold mwAns mwL mwTop mwC okLen
  by_cases h : L ≤ 300 ∧ M ≤ 300
  · rw [if_pos h, if_pos h, if_pos (decide_eq_true h), if_pos (decide_eq_true h), Nat.add_comm]
    exact ⟨rfl, rfl⟩
  · rw [if_neg h, if_neg h, if_neg (by simpa using h), if_neg (by simpa using h)]
    exact ⟨rfl, rfl⟩

set_option maxRecDepth 20000 in
set_option maxHeartbeats 4000000 in
theorem walkProductWords (u : Value) (xs : List Nat) (d : Int) (v : Value) (ys : List Nat) (w : World) (hu : Row .u64 w u xs) (hv : Row .u64 w v ys) (hdx : Digs 18446744073709551616 xs) (hdy : Digs 18446744073709551616 ys) (hb : (Lit.int .u64 d).wf = true) :
    Calls Try.prog 3 #[u, .int .u64 d, v] w fun e w' => e = .returned (.bool true) ∧ Below w.heap.size w w' := by
  obtain ⟨D, rfl, hD⟩ : ∃ D : Nat, d = (D : Int) ∧ D < 18446744073709551616 := by
    have := wf_u64 d hb
    exact ⟨d.toNat, by omega, by omega⟩
  have hA := f5Awake w
  obtain ⟨ao, L, cap, rfl, hL, _, _, _, _⟩ := hu.open
  obtain ⟨bo, M, dap, rfl, hM, _, _, _, _⟩ := hv.open
  obtain ⟨e1, e2⟩ := mw_same (val 18446744073709551616 xs) D (val 18446744073709551616 ys) L M
  obtain ⟨c, hc⟩ : ∃ c, c = mwTop (val 18446744073709551616 xs) D (val 18446744073709551616 ys) L M := ⟨_, rfl⟩
  have h1 := fun W (k : Kept Nought w W) => mulWord0 ao bo L M cap dap xs ys D hD c hc W (hu.grew k) (hv.grew k) hdx hdy
  have h2 := fun W (k : Kept Nought w W) => q5MulWord ao bo L M cap dap xs ys D c hD (hc.trans e2) W (hu.grew k) (hv.grew k) hdx hdy
  rw [e1] at h1
  clear hu hv hdx hdy hL hM hc e1 e2 hb
  generalize mwL (val 18446744073709551616 xs) D (val 18446744073709551616 ys) L M = rl at *
  go_enter Try.func3, Try.ntmps3
  go_wp2_with fail
  refine hA.mono ?_
  rintro e w1 ⟨rfl, k1⟩
  clear hA
  go_wp2_with fail
  by_cases hq1 : L ≤ 40
  · skip
    have hF1 := fun W => few1 ao L cap W true (decide_eq_true hq1).symm
    refine (hF1 w1).mono ?_
    rintro e w1' ⟨rfl, rfl⟩
    have k2 := k1.alloc (.cells #[.slice ao L cap] 23)
    generalize w1.alloc (.cells #[.slice ao L cap] 23) = w2 at *
    clear hF1
    go_wp2_with fail
    by_cases hq2 : M ≤ 40
    · skip
      have hF2 := fun W => few1 bo M dap W true (decide_eq_true hq2).symm
      refine (hF2 w2).mono ?_
      rintro e w2' ⟨rfl, rfl⟩
      have k5 := k2.alloc (.cells #[.slice bo M dap] 23)
      generalize w2.alloc (.cells #[.slice bo M dap] 23) = w5 at *
      clear hF2
      go_wp2_with fail
      refine (h1 w5 k5).mono ?_
      rintro e w6 ⟨v6, rfl, hr6, k6⟩
      have k6' := k5.trans k6
      clear h1
      go_wp2_with fail
      refine (h2 w6 k6').mono ?_
      rintro e w7 ⟨v7, rfl, hr7, k7⟩
      have k7' := k6'.trans k7
      have hS := rSame v6 v7 rl rl w7 (hr6.grew k7) hr7
      rw [decide_eq_true (rfl : rl = rl)] at hS
      clear h2 hr6 hr7 k6 k7
      go_wp2_with fail
      refine hS.mono ?_
      rintro e w8 ⟨rfl, m, rfl⟩
      clear hS
      go_wp2_with fail
      go_ret
      exact ⟨rfl, below_kept (k7'.drewN m) (Nat.le_refl _)⟩
    · by_cases hh2 : 300 < M ∧ M ≤ 310
      · skip
        have hF2 := fun W => few1 bo M dap W false (decide_eq_false hq2).symm
        have hH2 := fun W => f5Huge bo M dap true (decide_eq_true hh2).symm W
        refine (hF2 w2).mono ?_
        rintro e w2' ⟨rfl, rfl⟩
        have k5 := k2.alloc (.cells #[.slice bo M dap] 23)
        generalize w2.alloc (.cells #[.slice bo M dap] 23) = w5 at *
        clear hF2
        go_wp2_with fail
        refine (hH2 w5).mono ?_
        rintro e w5h ⟨rfl, rfl⟩
        clear hH2
        go_wp2_with fail
        refine (h1 w5h k5).mono ?_
        rintro e w6 ⟨v6, rfl, hr6, k6⟩
        have k6' := k5.trans k6
        clear h1
        go_wp2_with fail
        refine (h2 w6 k6').mono ?_
        rintro e w7 ⟨v7, rfl, hr7, k7⟩
        have k7' := k6'.trans k7
        have hS := rSame v6 v7 rl rl w7 (hr6.grew k7) hr7
        rw [decide_eq_true (rfl : rl = rl)] at hS
        clear h2 hr6 hr7 k6 k7
        go_wp2_with fail
        refine hS.mono ?_
        rintro e w8 ⟨rfl, m, rfl⟩
        clear hS
        go_wp2_with fail
        go_ret
        exact ⟨rfl, below_kept (k7'.drewN m) (Nat.le_refl _)⟩
      · skip
        have hF2 := fun W => few1 bo M dap W false (decide_eq_false hq2).symm
        have hH2 := fun W => f5Huge bo M dap false (decide_eq_false hh2).symm W
        refine (hF2 w2).mono ?_
        rintro e w2' ⟨rfl, rfl⟩
        have k5 := k2.alloc (.cells #[.slice bo M dap] 23)
        generalize w2.alloc (.cells #[.slice bo M dap] 23) = w5 at *
        clear hF2
        go_wp2_with fail
        refine (hH2 w5).mono ?_
        rintro e w5h ⟨rfl, rfl⟩
        clear hH2
        go_wp2_with fail
        go_ret
        exact ⟨rfl, below_kept k5 (Nat.le_refl _)⟩
  · by_cases hh1 : 300 < L ∧ L ≤ 310
    · skip
      have hF1 := fun W => few1 ao L cap W false (decide_eq_false hq1).symm
      have hH1 := fun W => f5Huge ao L cap true (decide_eq_true hh1).symm W
      refine (hF1 w1).mono ?_
      rintro e w1' ⟨rfl, rfl⟩
      have k2 := k1.alloc (.cells #[.slice ao L cap] 23)
      generalize w1.alloc (.cells #[.slice ao L cap] 23) = w2 at *
      clear hF1
      go_wp2_with fail
      refine (hH1 w2).mono ?_
      rintro e w2h ⟨rfl, rfl⟩
      clear hH1
      go_wp2_with fail
      by_cases hq2 : M ≤ 40
      · skip
        have hF2 := fun W => few1 bo M dap W true (decide_eq_true hq2).symm
        refine (hF2 w2h).mono ?_
        rintro e w2h' ⟨rfl, rfl⟩
        have k5 := k2.alloc (.cells #[.slice bo M dap] 23)
        generalize w2h.alloc (.cells #[.slice bo M dap] 23) = w5 at *
        clear hF2
        go_wp2_with fail
        refine (h1 w5 k5).mono ?_
        rintro e w6 ⟨v6, rfl, hr6, k6⟩
        have k6' := k5.trans k6
        clear h1
        go_wp2_with fail
        refine (h2 w6 k6').mono ?_
        rintro e w7 ⟨v7, rfl, hr7, k7⟩
        have k7' := k6'.trans k7
        have hS := rSame v6 v7 rl rl w7 (hr6.grew k7) hr7
        rw [decide_eq_true (rfl : rl = rl)] at hS
        clear h2 hr6 hr7 k6 k7
        go_wp2_with fail
        refine hS.mono ?_
        rintro e w8 ⟨rfl, m, rfl⟩
        clear hS
        go_wp2_with fail
        go_ret
        exact ⟨rfl, below_kept (k7'.drewN m) (Nat.le_refl _)⟩
      · by_cases hh2 : 300 < M ∧ M ≤ 310
        · skip
          have hF2 := fun W => few1 bo M dap W false (decide_eq_false hq2).symm
          have hH2 := fun W => f5Huge bo M dap true (decide_eq_true hh2).symm W
          refine (hF2 w2h).mono ?_
          rintro e w2h' ⟨rfl, rfl⟩
          have k5 := k2.alloc (.cells #[.slice bo M dap] 23)
          generalize w2h.alloc (.cells #[.slice bo M dap] 23) = w5 at *
          clear hF2
          go_wp2_with fail
          refine (hH2 w5).mono ?_
          rintro e w5h ⟨rfl, rfl⟩
          clear hH2
          go_wp2_with fail
          refine (h1 w5h k5).mono ?_
          rintro e w6 ⟨v6, rfl, hr6, k6⟩
          have k6' := k5.trans k6
          clear h1
          go_wp2_with fail
          refine (h2 w6 k6').mono ?_
          rintro e w7 ⟨v7, rfl, hr7, k7⟩
          have k7' := k6'.trans k7
          have hS := rSame v6 v7 rl rl w7 (hr6.grew k7) hr7
          rw [decide_eq_true (rfl : rl = rl)] at hS
          clear h2 hr6 hr7 k6 k7
          go_wp2_with fail
          refine hS.mono ?_
          rintro e w8 ⟨rfl, m, rfl⟩
          clear hS
          go_wp2_with fail
          go_ret
          exact ⟨rfl, below_kept (k7'.drewN m) (Nat.le_refl _)⟩
        · skip
          have hF2 := fun W => few1 bo M dap W false (decide_eq_false hq2).symm
          have hH2 := fun W => f5Huge bo M dap false (decide_eq_false hh2).symm W
          refine (hF2 w2h).mono ?_
          rintro e w2h' ⟨rfl, rfl⟩
          have k5 := k2.alloc (.cells #[.slice bo M dap] 23)
          generalize w2h.alloc (.cells #[.slice bo M dap] 23) = w5 at *
          clear hF2
          go_wp2_with fail
          refine (hH2 w5).mono ?_
          rintro e w5h ⟨rfl, rfl⟩
          clear hH2
          go_wp2_with fail
          go_ret
          exact ⟨rfl, below_kept k5 (Nat.le_refl _)⟩
    · skip
      have hF1 := fun W => few1 ao L cap W false (decide_eq_false hq1).symm
      have hH1 := fun W => f5Huge ao L cap false (decide_eq_false hh1).symm W
      refine (hF1 w1).mono ?_
      rintro e w1' ⟨rfl, rfl⟩
      have k2 := k1.alloc (.cells #[.slice ao L cap] 23)
      generalize w1.alloc (.cells #[.slice ao L cap] 23) = w2 at *
      clear hF1
      go_wp2_with fail
      refine (hH1 w2).mono ?_
      rintro e w2h ⟨rfl, rfl⟩
      clear hH1
      go_wp2_with fail
      go_ret
      exact ⟨rfl, below_kept k2 (Nat.le_refl _)⟩

end Go.Proofs.Ytcdeankllgpnfaa
