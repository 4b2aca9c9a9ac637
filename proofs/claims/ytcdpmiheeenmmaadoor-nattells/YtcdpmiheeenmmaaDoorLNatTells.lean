/- The law NatTells, walked: whatever the two numbers and the place. -/
import Derived.Test.YtcdpmiheeenmmaaDoorNatP
namespace Go.Proofs.YtcdpmiheeenmmaaDoor
open Go.RowKit Go.Shelf

/-- Two slices, laid as a row for few. -/
theorem few2 (ao bo : Option Addr) (L M cap dap : Nat) (W : World) (R : Bool) (hR : R = decide (L ≤ 400 ∧ M ≤ 400)) :
    Calls Tryd.prog 13 #[.slice (some ⟨W.heap.size, 0, none⟩) 2 2] (W.alloc (.cells #[.slice ao L cap, .slice bo M dap] 25)) fun r w' => r = .returned (.bool R) ∧ w' = W.alloc (.cells #[.slice ao L cap, .slice bo M dap] 25) := by
  have hn := new2 W (.slice ao L cap) (.slice bo M dap) 25
  refine nFew W.heap.size 2 (fun i => if i = 0 then ao else bo) (fun i => if i = 0 then L else M) (fun i => if i = 0 then cap else dap) _ (by omega) R ?_ ?_
  · rw [hR]
    refine decide_eq_decide.2 ⟨fun h i hi => ?_, fun h => ⟨h 0 (by omega), h 1 (by omega)⟩⟩
    by_cases e : i = 0
    · rw [if_pos e]; exact h.1
    · rw [if_neg e]; exact h.2
  · intro i hi
    rw [World.ownsRow.cellAt hn i (by omega)]
    have : i = 0 ∨ i = 1 := by omega
    rcases this with rfl | rfl <;> rfl

set_option maxRecDepth 20000 in
set_option maxHeartbeats 1000000 in
theorem walkNatTells (u : Value) (xs : List Nat) (v : Value) (ys : List Nat) (i : Int) (w : World) (hu : Row .u64 w u xs) (hv : Row .u64 w v ys) (hdx : Digs 18446744073709551616 xs) (hdy : Digs 18446744073709551616 ys) (hi : (Lit.int .i64 i).wf = true) (hT : Tab w) :
    Calls Tryd.prog 6 #[u, v, .int .i64 i] w fun e w' => e = .returned (.bool true) ∧ Below w.heap.size w w' := by
  have hA := nAwake w hT
  have hi' : i ≤ 9223372036854775807 := by
    have : -9223372036854775808 ≤ i ∧ i ≤ 9223372036854775807 := by simpa [Lit.wf, IntKind.min, IntKind.max, IntKind.signed, IntKind.bits] using hi
    exact this.2
  clear hi
  obtain ⟨ao, L, cap, rfl, hL, _, _, _, _⟩ := hu.open
  obtain ⟨bo, M, dap, rfl, hM, _, _, _, _⟩ := hv.open
  by_cases h4 : L ≤ 400 ∧ M ≤ 400
  · have hF := fun W => few2 ao bo L M cap dap W true (decide_eq_true h4).symm
    have hOx := fun W (k : Kept Nought w W) => rOf _ xs W (hu.grew k) hdx (by have := hL.out; omega)
    have hOy := fun W (k : Kept Nought w W) => rOf _ ys W (hv.grew k) hdy (by have := hM.out; omega)
    have hBt := fun W (k : Kept Nought w W) => nBits _ xs W (hu.grew k) hdx (by have := hL.out; omega)
    have hCm := fun W (k : Kept Nought w W) => nCompare _ _ xs ys W (hu.grew k) (hv.grew k) hdx hdy
    have hBi := fun W (k : Kept Nought w W) => nBit _ xs i W (hu.grew k) hdx hi'
    clear hu hv h4
    generalize val 18446744073709551616 xs = A at *
    generalize val 18446744073709551616 ys = B at *
    go_enter Tryd.func6, Tryd.ntmps6
    go_wp2_with fail
    refine hA.mono ?_
    rintro e w1 ⟨rfl, k1⟩
    go_wp2_with fail
    refine (hF w1).mono ?_
    rintro e w1' ⟨rfl, rfl⟩
    have k1' := k1.alloc (.cells #[.slice ao L cap, .slice bo M dap] 25)
    generalize w1.alloc (.cells #[.slice ao L cap, .slice bo M dap] 25) = w2 at *
    clear hA hF k1
    go_wp2_with fail
    refine (hOx w2 k1').mono ?_
    rintro e w3 ⟨v3, rfl, hb3, _, k3⟩
    have k3' := k1'.trans k3
    go_wp2_with fail
    refine (hOy w3 k3').mono ?_
    rintro e w4 ⟨v4, rfl, hb4, _, k4⟩
    have k4' := k3'.trans k4
    have hb3' := hb3.grew k4
    clear hOx hOy hb3 k1' k3 k3' k4
    go_wp2_with fail
    refine (hBt w4 k4').mono ?_
    rintro e w5 ⟨rfl, rfl⟩
    have hRb := rBitLen v3 A _ hb3'
    go_wp2_with fail
    refine hRb.mono ?_
    rintro e w5 ⟨rfl, rfl⟩
    clear hRb hBt
    go_wp2_with fail
    refine (hCm _ k4').mono ?_
    rintro e w6 ⟨rfl, k6⟩
    have k6' := k4'.trans k6
    have hRc := rCmp v3 v4 A B w6 (hb3'.grew k6) (hb4.grew k6)
    clear hCm
    go_wp2_with fail
    refine hRc.mono ?_
    rintro e w7 ⟨rfl, m, rfl⟩
    have k7 := k6'.drewN m
    have hb7 := (hb3'.grew k6).grew ((Kept.refl Nought w6).drewN m)
    clear hRc k6 k6' hb3' hb4 k4'
    go_wp2_with fail
    refine (hBi _ k7).mono ?_
    rintro e w8 ⟨rfl, rfl⟩
    have hRi := rBit v3 A i _ hb7 hi'
    clear hBi
    go_wp2_with fail
    refine hRi.mono ?_
    rintro e w8 ⟨rfl, rfl⟩
    go_wp2_with fail
    go_ret
    exact ⟨by simp, below_kept k7 (Nat.le_refl _)⟩
  · have hF := fun W => few2 ao bo L M cap dap W false (decide_eq_false h4).symm
    clear hu hv h4
    go_enter Tryd.func6, Tryd.ntmps6
    go_wp2_with fail
    refine hA.mono ?_
    rintro e w1 ⟨rfl, k1⟩
    go_wp2_with fail
    refine (hF w1).mono ?_
    rintro e w1' ⟨rfl, rfl⟩
    go_wp2_with fail
    go_ret
    exact ⟨rfl, below_kept (k1.alloc _) (Nat.le_refl _)⟩

end Go.Proofs.YtcdpmiheeenmmaaDoor
