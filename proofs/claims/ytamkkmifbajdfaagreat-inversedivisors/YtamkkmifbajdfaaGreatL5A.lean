/- The laws' small functions of layer 5: Few, huge; the chapter's examples. -/
import Derived.Test.YtamkkmifbajdfaaGreatLim1
namespace Go.Proofs.YtamkkmifbajdfaaGreat
open Go.RowKit

set_option maxRecDepth 20000 in
set_option maxHeartbeats 1000000 in
/-- Few. -/
theorem f5Few (ao : Option Addr) (n cap : Nat) (A : Nat → Option Addr) (L C : Nat → Nat) (w : World) (hn : n ≤ 1000000000000) (R : Bool) (hR : R = decide (∀ i, i < n → L i ≤ 40)) (hc : Slots w ao n A L C) :
    Calls Tryz.prog 6 #[.slice ao n cap] w fun r w' => r = .returned (.bool R) ∧ w' = w := by
  have HR := toHid hR
  have HC := toHid hc
  clear hR hc
  go_enter Tryz.func6, Tryz.ntmps6
  go_wp2_with fail
  go_loop [7] (fun i => ∃ k : Nat, k ≤ n ∧ i = .int .i64 (k : Int) ∧ Hid (∀ j, j < k → L j ≤ 40)) (fun i => ((n : Int) - intOf i).toNat)
  case atStart => exact ⟨0, Nat.zero_le _, rfl, fun j hj => by omega⟩
  case round =>
    obtain ⟨k, hk, rfl, hall⟩ := hrel
    by_cases hkn : k < n
    · have hk1 : (k : Int) < (n : Int) := by omega
      obtain ⟨b, off, rfl, hcell⟩ := HC.out k hkn
      obtain ⟨ao, hao⟩ : ∃ ao, ao = A k := ⟨_, rfl⟩
      obtain ⟨len, hlen⟩ : ∃ len, len = L k := ⟨_, rfl⟩
      obtain ⟨cp, hcap⟩ : ∃ cap, cap = C k := ⟨_, rfl⟩
      rw [← hao, ← hlen, ← hcap] at hcell
      have HLen := toHid hlen
      clear hao hlen hcap
      by_cases h4 : len ≤ 40
      · have h4' : ¬ (len : Int) > 40 := by omega
        go_wp2_with fail
        go_round
        case rel => exact ⟨k + 1, by omega, by go_num, fun j hj => by
          by_cases e : j = k
          · subst e; rw [← HLen.out]; exact h4
          · exact hall.out j (by omega)⟩
        case measure => simp [intOf]; omega
      · have h4' : (len : Int) > 40 := by omega
        go_wp2_with fail
        go_ret
        refine ⟨?_, rfl⟩
        have : R = false := by
          rw [HR.out]
          exact decide_eq_false (fun h => h4 (by rw [HLen.out]; exact h k hkn))
        rw [this]; rfl
    · have hk1 : ¬ (k : Int) < (n : Int) := by omega
      have e : k = n := by omega
      subst e
      go_wp2_with fail
      go_ret
      refine ⟨?_, rfl⟩
      have : R = true := by
        rw [HR.out]
        exact decide_eq_true hall.out
      rw [this]; rfl

theorem few1 (ao : Option Addr) (L cap : Nat) (W : World) (R : Bool) (hR : R = decide (L ≤ 40)) :
    Calls Tryz.prog 6 #[.slice (some ⟨W.heap.size, 0, none⟩) 1 1] (W.alloc (.cells #[.slice ao L cap] 23)) fun r w' => r = .returned (.bool R) ∧ w' = W.alloc (.cells #[.slice ao L cap] 23) := by
  refine f5Few (some ⟨W.heap.size, 0, none⟩) 1 1 (fun _ => ao) (fun _ => L) (fun _ => cap) _ (by omega) R ?_ ?_
  · rw [hR]
    exact decide_eq_decide.2 ⟨fun h i hi => h, fun h => h 0 (by omega)⟩
  · intro i hi
    refine ⟨_, _, rfl, ?_⟩
    obtain rfl : i = 0 := by omega
    exact (cell_of_row _ _ 0 _ _ _ (heap_alloc_new W _)).trans rfl

theorem few2 (ao bo : Option Addr) (L M cap dap : Nat) (W : World) (R : Bool) (hR : R = decide (L ≤ 40 ∧ M ≤ 40)) :
    Calls Tryz.prog 6 #[.slice (some ⟨W.heap.size, 0, none⟩) 2 2] (W.alloc (.cells #[.slice ao L cap, .slice bo M dap] 23)) fun r w' => r = .returned (.bool R) ∧ w' = W.alloc (.cells #[.slice ao L cap, .slice bo M dap] 23) := by
  refine f5Few (some ⟨W.heap.size, 0, none⟩) 2 2 (fun i => if i = 0 then ao else bo) (fun i => if i = 0 then L else M) (fun i => if i = 0 then cap else dap) _ (by omega) R ?_ ?_
  · rw [hR]
    refine decide_eq_decide.2 ⟨fun h i hi => ?_, fun h => ⟨h 0 (by omega), h 1 (by omega)⟩⟩
    have : i = 0 ∨ i = 1 := by omega
    rcases this with rfl | rfl
    · exact h.1
    · exact h.2
  · intro i hi
    refine ⟨_, _, rfl, ?_⟩
    have : i = 0 ∨ i = 1 := by omega
    rcases this with rfl | rfl <;> exact (cell_of_row _ _ _ _ _ _ (heap_alloc_new W _)).trans rfl

theorem few3 (ao bo co : Option Addr) (L M P cap dap eap : Nat) (W : World) (R : Bool) (hR : R = decide (L ≤ 40 ∧ M ≤ 40 ∧ P ≤ 40)) :
    Calls Tryz.prog 6 #[.slice (some ⟨W.heap.size, 0, none⟩) 3 3] (W.alloc (.cells #[.slice ao L cap, .slice bo M dap, .slice co P eap] 23)) fun r w' => r = .returned (.bool R) ∧ w' = W.alloc (.cells #[.slice ao L cap, .slice bo M dap, .slice co P eap] 23) := by
  refine f5Few (some ⟨W.heap.size, 0, none⟩) 3 3 (fun i => if i = 0 then ao else if i = 1 then bo else co) (fun i => if i = 0 then L else if i = 1 then M else P) (fun i => if i = 0 then cap else if i = 1 then dap else eap) _ (by omega) R ?_ ?_
  · rw [hR]
    refine decide_eq_decide.2 ⟨fun h i hi => ?_, fun h => ⟨h 0 (by omega), h 1 (by omega), h 2 (by omega)⟩⟩
    have : i = 0 ∨ i = 1 ∨ i = 2 := by omega
    rcases this with rfl | rfl | rfl
    · exact h.1
    · exact h.2.1
    · exact h.2.2
  · intro i hi
    refine ⟨_, _, rfl, ?_⟩
    have : i = 0 ∨ i = 1 ∨ i = 2 := by omega
    rcases this with rfl | rfl | rfl <;> exact (cell_of_row _ _ _ _ _ _ (heap_alloc_new W _)).trans rfl

theorem few4 (ao bo co go : Option Addr) (L M P Q cap dap eap fap : Nat) (W : World) (R : Bool) (hR : R = decide (L ≤ 40 ∧ M ≤ 40 ∧ P ≤ 40 ∧ Q ≤ 40)) :
    Calls Tryz.prog 6 #[.slice (some ⟨W.heap.size, 0, none⟩) 4 4] (W.alloc (.cells #[.slice ao L cap, .slice bo M dap, .slice co P eap, .slice go Q fap] 23)) fun r w' => r = .returned (.bool R) ∧ w' = W.alloc (.cells #[.slice ao L cap, .slice bo M dap, .slice co P eap, .slice go Q fap] 23) := by
  refine f5Few (some ⟨W.heap.size, 0, none⟩) 4 4 (fun i => if i = 0 then ao else if i = 1 then bo else if i = 2 then co else go) (fun i => if i = 0 then L else if i = 1 then M else if i = 2 then P else Q) (fun i => if i = 0 then cap else if i = 1 then dap else if i = 2 then eap else fap) _ (by omega) R ?_ ?_
  · rw [hR]
    refine decide_eq_decide.2 ⟨fun h i hi => ?_, fun h => ⟨h 0 (by omega), h 1 (by omega), h 2 (by omega), h 3 (by omega)⟩⟩
    have : i = 0 ∨ i = 1 ∨ i = 2 ∨ i = 3 := by omega
    rcases this with rfl | rfl | rfl | rfl
    · exact h.1
    · exact h.2.1
    · exact h.2.2.1
    · exact h.2.2.2
  · intro i hi
    refine ⟨_, _, rfl, ?_⟩
    have : i = 0 ∨ i = 1 ∨ i = 2 ∨ i = 3 := by omega
    rcases this with rfl | rfl | rfl | rfl <;> exact (cell_of_row _ _ _ _ _ _ (heap_alloc_new W _)).trans rfl

end Go.Proofs.YtamkkmifbajdfaaGreat
