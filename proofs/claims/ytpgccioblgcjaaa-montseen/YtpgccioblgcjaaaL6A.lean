/- The laws' small functions of layers 6 to 8: few, Same, as. -/
import Derived.Test.YtpgccioblgcjaaaL5A
import Derived.Test.YtpgccioblgcjaaaBase3
import Derived.Test.YtpgccioblgcjaaaRef6m
import Derived.Deep.RegionHeld3
namespace Go.Proofs.Ytpgccioblgcjaaa
open Go.RowKit

set_option maxRecDepth 20000 in
set_option maxHeartbeats 1000000 in
/-- few of layer 6. -/
theorem f6few (ao bo : Option Addr) (L M cap dap : Nat) (K : Int) (lo : Option Addr) (n ncap : Nat) (A : Nat → Option Addr) (N C : Nat → Nat) (w : World) (hn : n ≤ 1000000000000) (R : Bool) (hR : R = decide ((L ≤ 40 ∧ M ≤ 40) ∧ ∀ i, i < n → N i ≤ 40)) (hs : Slots w lo n A N C) :
    Calls Try.prog 14 #[.agg #[.slice ao L cap, .int .u64 K, .slice bo M dap], .slice lo n ncap] w fun r w' => r = .returned (.bool R) ∧ Kept Nought w w' := by
  have k0 : Kept Nought w (w.alloc (.cells #[.slice ao L cap, .int .u64 K, .slice bo M dap] 28)) := (Kept.refl Nought w).alloc _
  have k1 := k0.alloc (.cells #[.slice ao L cap, .slice bo M dap] 23)
  have hsz : (w.alloc (.cells #[.slice ao L cap, .int .u64 K, .slice bo M dap] 28)).heap.size = w.heap.size + 1 := by simp
  have HR := toHid hR
  clear hR
  by_cases h4 : L ≤ 40 ∧ M ≤ 40
  · have hF := few2 ao bo L M cap dap (w.alloc (.cells #[.slice ao L cap, .int .u64 K, .slice bo M dap] 28)) true (decide_eq_true h4).symm
    rw [hsz] at hF
    have hG := fun W (k : Kept Nought w W) (R2 : Bool) (h2 : R2 = decide (∀ i, i < n → N i ≤ 40)) => f5Few lo n ncap A N C W hn R2 h2 (hs.grew k)
    clear hs
    by_cases h5 : ∀ i, i < n → N i ≤ 40
    · have hT : Hid (R = true) := by unfold Hid; rw [HR.out]; exact decide_eq_true ⟨h4, h5⟩
      have hG' := fun W (k : Kept Nought w W) => hG W k true (decide_eq_true h5).symm
      clear hG h4 h5
      go_enter Try.func14, Try.ntmps14
      go_wp2_with fail
      refine hF.mono ?_
      rintro e w1 ⟨rfl, rfl⟩
      go_wp2_with fail
      refine (hG' _ k1).mono ?_
      rintro e w2 ⟨rfl, rfl⟩
      go_wp2_with fail
      go_ret
      rw [hT.out]
      exact ⟨rfl, k1⟩
    · have hT : Hid (R = false) := by unfold Hid; rw [HR.out]; exact decide_eq_false (fun h => h5 h.2)
      have hG' := fun W (k : Kept Nought w W) => hG W k false (decide_eq_false h5).symm
      clear hG h4 h5
      go_enter Try.func14, Try.ntmps14
      go_wp2_with fail
      refine hF.mono ?_
      rintro e w1 ⟨rfl, rfl⟩
      go_wp2_with fail
      refine (hG' _ k1).mono ?_
      rintro e w2 ⟨rfl, rfl⟩
      go_wp2_with fail
      go_ret
      rw [hT.out]
      exact ⟨rfl, k1⟩
  · have hF := few2 ao bo L M cap dap (w.alloc (.cells #[.slice ao L cap, .int .u64 K, .slice bo M dap] 28)) false (decide_eq_false h4).symm
    rw [hsz] at hF
    have hT : Hid (R = false) := by unfold Hid; rw [HR.out]; exact decide_eq_false (fun h => h4 h.1)
    clear hs h4
    go_enter Try.func14, Try.ntmps14
    go_wp2_with fail
    refine hF.mono ?_
    rintro e w1 ⟨rfl, rfl⟩
    go_wp2_with fail
    go_ret
    rw [hT.out]
    exact ⟨rfl, k1⟩

set_option maxRecDepth 20000 in
set_option maxHeartbeats 1000000 in
/-- Same of layer 6: moduli alike. -/
theorem f6Same (ao bo co go : Option Addr) (L M P Q cap dap eap fap : Nat) (K J : Int) (xs zs ys us : List Nat) (w : World) (R : Bool) (hR : R = decide (xs = ys ∧ K = J ∧ zs = us)) (h1 : Row .u64 w (.slice ao L cap) xs) (h2 : Row .u64 w (.slice bo M dap) zs) (h3 : Row .u64 w (.slice co P eap) ys) (h4 : Row .u64 w (.slice go Q fap) us) :
    Calls Try.prog 13 #[.agg #[.slice ao L cap, .int .u64 K, .slice bo M dap], .agg #[.slice co P eap, .int .u64 J, .slice go Q fap]] w fun r w' => r = .returned (.bool R) ∧ Kept Nought w w' := by
  have HR := toHid hR
  have hS1 := fun W (k : Kept Nought w W) => rSame _ _ xs ys W (h1.grew k) (h3.grew k)
  have hS2 := fun W (k : Kept Nought w W) => rSame _ _ zs us W (h2.grew k) (h4.grew k)
  have k0 : Kept Nought w ((w.alloc (.cells #[.slice ao L cap, .int .u64 K, .slice bo M dap] 28)).alloc (.cells #[.slice co P eap, .int .u64 J, .slice go Q fap] 28)) := ((Kept.refl Nought w).alloc _).alloc _
  clear hR h1 h2 h3 h4
  by_cases e1 : xs = ys
  · rw [decide_eq_true e1] at hS1
    by_cases e2 : K = J
    · by_cases e3 : zs = us
      · have hT : Hid (R = true) := by unfold Hid; rw [HR.out]; exact decide_eq_true ⟨e1, e2, e3⟩
        rw [decide_eq_true e3] at hS2
        subst e2
        clear e1 e3 HR
        go_enter Try.func13, Try.ntmps13
        go_wp2_with fail
        refine (hS1 _ k0).mono ?_
        rintro e w1 ⟨rfl, m1, rfl⟩
        have k1 := toHid (k0.drewN m1)
        go_wp2_with fail
        refine (hS2 _ k1.out).mono ?_
        rintro e w2 ⟨rfl, m2, rfl⟩
        go_wp2_with fail
        go_ret
        rw [hT.out]
        exact ⟨rfl, k0.drewN _⟩
      · have hT : Hid (R = false) := by unfold Hid; rw [HR.out]; exact decide_eq_false (fun h => e3 h.2.2)
        rw [decide_eq_false e3] at hS2
        subst e2
        clear e1 e3 HR
        go_enter Try.func13, Try.ntmps13
        go_wp2_with fail
        refine (hS1 _ k0).mono ?_
        rintro e w1 ⟨rfl, m1, rfl⟩
        have k1 := toHid (k0.drewN m1)
        go_wp2_with fail
        refine (hS2 _ k1.out).mono ?_
        rintro e w2 ⟨rfl, m2, rfl⟩
        go_wp2_with fail
        go_ret
        rw [hT.out]
        exact ⟨rfl, k0.drewN _⟩
    · have hT : Hid (R = false) := by unfold Hid; rw [HR.out]; exact decide_eq_false (fun h => e2 h.2.1)
      have e2' : (K == J) = false := by simpa using e2
      clear e1 HR hS2
      go_enter Try.func13, Try.ntmps13
      go_wp2_with fail
      refine (hS1 _ k0).mono ?_
      rintro e w1 ⟨rfl, m1, rfl⟩
      go_wp2_with fail
      go_ret
      rw [hT.out]
      exact ⟨rfl, k0.drewN _⟩
  · have hT : Hid (R = false) := by unfold Hid; rw [HR.out]; exact decide_eq_false (fun h => e1 h.1)
    rw [decide_eq_false e1] at hS1
    clear e1 HR hS2
    go_enter Try.func13, Try.ntmps13
    go_wp2_with fail
    refine (hS1 _ k0).mono ?_
    rintro e w1 ⟨rfl, m1, rfl⟩
    go_wp2_with fail
    go_ret
    rw [hT.out]
    exact ⟨rfl, k0.drewN _⟩

theorem slots1_new (W : World) (co : Option Addr) (N eap : Nat) : Slots (W.alloc (.cells #[.slice co N eap] 23)) (some ⟨W.heap.size, 0, none⟩) 1 (fun _ => co) (fun _ => N) (fun _ => eap) := by
  intro i hi
  obtain rfl : i = 0 := by omega
  exact ⟨_, _, rfl, (cell_of_row _ _ 0 _ _ _ (heap_alloc_new W _)).trans rfl⟩

end Go.Proofs.Ytpgccioblgcjaaa
