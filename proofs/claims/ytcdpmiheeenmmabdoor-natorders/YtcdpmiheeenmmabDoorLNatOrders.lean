/- The law NatOrders, walked: whatever the three numbers. -/
import Derived.Test.YtcdpmiheeenmmabDoorNatP
namespace Go.Proofs.YtcdpmiheeenmmabDoor
open Go.RowKit Go.Shelf

theorem new3 (w : World) (x y z : Value) (e : TypeId) : (w.alloc (.cells #[x, y, z] e)).ownsRow w.heap.size e 1 (.slice (some ⟨w.heap.size, 0, none⟩) 3 3) 3 [x, y, z] :=
  ⟨rfl, .inr ⟨w.heap.size, 3, #[x, y, z], rfl, Nat.le_refl _, World.alloc_heap_new w _, Nat.le_refl _, by unfold maxLen; omega, rfl, rfl⟩⟩

/-- Three slices, laid as a row for few. -/
theorem few3 (ao bo co : Option Addr) (L M N cap dap eap : Nat) (W : World) (R : Bool) (hR : R = decide (L ≤ 400 ∧ M ≤ 400 ∧ N ≤ 400)) :
    Calls Tryd.prog 5 #[.slice (some ⟨W.heap.size, 0, none⟩) 3 3] (W.alloc (.cells #[.slice ao L cap, .slice bo M dap, .slice co N eap] 23)) fun r w' => r = .returned (.bool R) ∧ w' = W.alloc (.cells #[.slice ao L cap, .slice bo M dap, .slice co N eap] 23) := by
  have hn := new3 W (.slice ao L cap) (.slice bo M dap) (.slice co N eap) 23
  refine nFew W.heap.size 3 (fun i => if i = 0 then ao else if i = 1 then bo else co) (fun i => if i = 0 then L else if i = 1 then M else N) (fun i => if i = 0 then cap else if i = 1 then dap else eap) _ (by omega) R ?_ ?_
  · rw [hR]
    refine decide_eq_decide.2 ⟨fun h i hi => ?_, fun h => ⟨h 0 (by omega), h 1 (by omega), h 2 (by omega)⟩⟩
    have : i = 0 ∨ i = 1 ∨ i = 2 := by omega
    rcases this with rfl | rfl | rfl
    · exact h.1
    · exact h.2.1
    · exact h.2.2
  · intro i hi
    rw [World.ownsRow.cellAt hn i (by omega)]
    have : i = 0 ∨ i = 1 ∨ i = 2 := by omega
    rcases this with rfl | rfl | rfl <;> rfl

theorem cmpN_neg (a b : Nat) : cmpN a b = -cmpN b a := by
  rcases Nat.lt_trichotomy a b with h | h | h
  · rw [cmpN_lt h, cmpN_gt h]
  · rw [cmpN_eq h, cmpN_eq h.symm]; rfl
  · rw [cmpN_gt h, cmpN_lt h]; rfl

theorem cmpN_wrap (a b : Nat) : wrap64 (-cmpN b a) = cmpN a b := by
  rw [← cmpN_neg]
  rcases Nat.lt_trichotomy a b with h | h | h
  · rw [cmpN_lt h]; simp [wrap64]
  · rw [cmpN_eq h]; simp [wrap64]
  · rw [cmpN_gt h]; simp [wrap64]

theorem cmpN_pos {a b : Nat} : cmpN a b > 0 ↔ b < a := by
  rcases Nat.lt_trichotomy a b with h | h | h
  · rw [cmpN_lt h]; constructor <;> intro k <;> omega
  · rw [cmpN_eq h]; constructor <;> intro k <;> omega
  · rw [cmpN_gt h]; constructor <;> intro k <;> omega

set_option maxRecDepth 20000 in
set_option maxHeartbeats 2000000 in
theorem walkNatOrders (u : Value) (xs : List Nat) (v : Value) (ys : List Nat) (t : Value) (zs : List Nat) (w : World) (hu : Row .u64 w u xs) (hv : Row .u64 w v ys) (ht : Row .u64 w t zs) (hdx : Digs 18446744073709551616 xs) (hdy : Digs 18446744073709551616 ys) (hdz : Digs 18446744073709551616 zs) (hT : Tab w) :
    Calls Tryd.prog 3 #[u, v, t] w fun e w' => e = .returned (.bool true) ∧ Below w.heap.size w w' := by
  have hA := nAwake w hT
  obtain ⟨ao, L, cap, rfl, hL, _, _, _, _⟩ := hu.open
  obtain ⟨bo, M, dap, rfl, hM, _, _, _, _⟩ := hv.open
  obtain ⟨co, N, eap, rfl, hN, _, _, _, _⟩ := ht.open
  by_cases h4 : L ≤ 400 ∧ M ≤ 400 ∧ N ≤ 400
  · have hF := fun W => few3 ao bo co L M N cap dap eap W true (decide_eq_true h4).symm
    have hxy := fun W (k : Kept Nought w W) => nCompare _ _ xs ys W (hu.grew k) (hv.grew k) hdx hdy
    have hyx := fun W (k : Kept Nought w W) => nCompare _ _ ys xs W (hv.grew k) (hu.grew k) hdy hdx
    have hxx := fun W (k : Kept Nought w W) => nCompare _ _ xs xs W (hu.grew k) (hu.grew k) hdx hdx
    have hyz := fun W (k : Kept Nought w W) => nCompare _ _ ys zs W (hv.grew k) (ht.grew k) hdy hdz
    have hxz := fun W (k : Kept Nought w W) => nCompare _ _ xs zs W (hu.grew k) (ht.grew k) hdx hdz
    clear hu hv ht h4
    generalize val 18446744073709551616 xs = A at *
    generalize val 18446744073709551616 ys = B at *
    generalize val 18446744073709551616 zs = C at *
    have e1 := cmpN_wrap A B
    have e2 : cmpN A A = 0 := cmpN_eq rfl
    simp only [e2] at hxx
    have hA0 : Hid (cmpN A B > 0 ↔ B < A) := cmpN_pos
    have hB0 : Hid (cmpN B C > 0 ↔ C < B) := cmpN_pos
    have hC0 : Hid (cmpN A C > 0 ↔ C < A) := cmpN_pos
    have hneg : Hid (wrap64 (-cmpN B A) = cmpN A B) := e1
    clear e1 e2
    obtain ⟨cab, hcab⟩ : ∃ c, c = cmpN A B := ⟨_, rfl⟩
    obtain ⟨cba, hcba⟩ : ∃ c, c = cmpN B A := ⟨_, rfl⟩
    obtain ⟨cbc, hcbc⟩ : ∃ c, c = cmpN B C := ⟨_, rfl⟩
    obtain ⟨cac, hcac⟩ : ∃ c, c = cmpN A C := ⟨_, rfl⟩
    rw [← hcab] at hA0 hneg hxy
    rw [← hcba] at hneg hyx
    rw [← hcbc] at hB0 hyz
    rw [← hcac] at hC0 hxz
    have e1 : wrap64 (-cba) = cab := hneg.out
    clear hcab hcba hcbc hcac hneg
    go_enter Tryd.func3, Tryd.ntmps3
    go_wp2_with fail
    refine hA.mono ?_
    rintro e w1 ⟨rfl, k1⟩
    go_wp2_with fail
    refine (hF w1).mono ?_
    rintro e w1' ⟨rfl, rfl⟩
    have k2 := k1.alloc (.cells #[.slice ao L cap, .slice bo M dap, .slice co N eap] 23)
    generalize w1.alloc (.cells #[.slice ao L cap, .slice bo M dap, .slice co N eap] 23) = w2 at *
    clear hA hF k1
    go_wp2_with fail
    refine (hxy w2 k2).mono ?_
    rintro e w3 ⟨rfl, k3⟩
    have k3' := k2.trans k3
    go_wp2_with fail
    refine (hyx w3 k3').mono ?_
    rintro e w4 ⟨rfl, k4⟩
    have k4' := k3'.trans k4
    clear k2 k3 k3' k4 hyx
    go_wp2_with fail
    refine (hxx w4 k4').mono ?_
    rintro e w5 ⟨rfl, k5⟩
    have k5' := k4'.trans k5
    clear k4' k5 hxx
    go_wp2_with fail
    refine (hxy w5 k5').mono ?_
    rintro e w6 ⟨rfl, k6⟩
    have k6' := k5'.trans k6
    clear k5' k6 hxy
    by_cases g1 : cab > 0
    · go_wp2_with fail
      go_ret
      exact ⟨rfl, below_kept k6' (Nat.le_refl _)⟩
    · go_wp2_with fail
      refine (hyz w6 k6').mono ?_
      rintro e w7 ⟨rfl, k7⟩
      have k7' := k6'.trans k7
      clear k6' k7 hyz
      by_cases g2 : cbc > 0
      · go_wp2_with fail
        go_ret
        exact ⟨rfl, below_kept k7' (Nat.le_refl _)⟩
      · have g3 : cac ≤ 0 := by
          have h1 : ¬ B < A := fun h => by have := hA0.out.2 h; omega
          have h2 : ¬ C < B := fun h => by have := hB0.out.2 h; omega
          have h3 : ¬ cac > 0 := fun h => by have := hC0.out.1 h; omega
          omega
        go_wp2_with fail
        refine (hxz w7 k7').mono ?_
        rintro e w8 ⟨rfl, k8⟩
        go_wp2_with fail
        go_ret
        exact ⟨by simp, below_kept (k7'.trans k8) (Nat.le_refl _)⟩
  · have hF := fun W => few3 ao bo co L M N cap dap eap W false (decide_eq_false h4).symm
    clear hu hv ht h4
    go_enter Tryd.func3, Tryd.ntmps3
    go_wp2_with fail
    refine hA.mono ?_
    rintro e w1 ⟨rfl, k1⟩
    go_wp2_with fail
    refine (hF w1).mono ?_
    rintro e w1' ⟨rfl, rfl⟩
    go_wp2_with fail
    go_ret
    exact ⟨rfl, below_kept (k1.alloc _) (Nat.le_refl _)⟩

end Go.Proofs.YtcdpmiheeenmmabDoor
