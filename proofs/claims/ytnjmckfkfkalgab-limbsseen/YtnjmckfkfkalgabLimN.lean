/- The laws' small functions of layer 4: few, both. -/
import Derived.Test.YtnjmckfkfkalgabLimA
import Derived.Test.YtnjmckfkfkalgabBigBit
namespace Go.Proofs.Ytnjmckfkfkalgab
open Go.RowKit

theorem own_row {w : World} {base n : Nat} {v : Value} {zs : List Nat} (h : OwnN .u64 24 w base v n zs) (hl : zs.length = n) : Row .u64 w v zs :=
  Row.of_own (base := base) (e := 24) (by rw [hl]; exact h)

set_option maxRecDepth 20000 in
set_option maxHeartbeats 1000000 in
/-- few. -/
theorem lFew (ao : Option Addr) (n cap : Nat) (A : Nat → Option Addr) (L C : Nat → Nat) (w : World) (hn : n ≤ 1000000000000) (R : Bool) (hR : R = decide (∀ i, i < n → L i ≤ 200)) (hc : Slots w ao n A L C) :
    Calls Try.prog 7 #[.slice ao n cap] w fun r w' => r = .returned (.bool R) ∧ w' = w := by
  have HR := toHid hR
  have HC := toHid hc
  clear hR hc
  go_enter Try.func7, Try.ntmps7
  go_wp2_with fail
  go_loop [7] (fun i => ∃ k : Nat, k ≤ n ∧ i = .int .i64 (k : Int) ∧ Hid (∀ j, j < k → L j ≤ 200)) (fun i => ((n : Int) - intOf i).toNat)
  case atStart => exact ⟨0, Nat.zero_le _, rfl, fun j hj => by omega⟩
  case round =>
    obtain ⟨k, hk, rfl, hall⟩ := hrel
    by_cases hkn : k < n
    · have hk1 : (k : Int) < (n : Int) := by omega
      obtain ⟨b, off, rfl, hcell⟩ := HC.out k hkn
      obtain ⟨ao, hao⟩ : ∃ ao, ao = A k := ⟨_, rfl⟩
      obtain ⟨len, hlen⟩ : ∃ len, len = L k := ⟨_, rfl⟩
      obtain ⟨cp, hcap⟩ : ∃ cap, cap = C k := ⟨_, rfl⟩
      rw [← hao, ← hlen, ← hcap] at hcell
      have HLen := toHid hlen
      clear hao hlen hcap
      by_cases h4 : len ≤ 200
      · have h4' : ¬ (len : Int) > 200 := by omega
        go_wp2_with fail
        go_round
        case rel => exact ⟨k + 1, by omega, by go_num, fun j hj => by
          by_cases e : j = k
          · subst e; rw [← HLen.out]; exact h4
          · exact hall.out j (by omega)⟩
        case measure => simp [intOf]; omega
      · have h4' : (len : Int) > 200 := by omega
        go_wp2_with fail
        go_ret
        refine ⟨?_, rfl⟩
        have : R = false := by
          rw [HR.out]
          exact decide_eq_false (fun h => h4 (by rw [HLen.out]; exact h k hkn))
        rw [this]; rfl
    · have hk1 : ¬ (k : Int) < (n : Int) := by omega
      have e : k = n := by omega
      subst e
      go_wp2_with fail
      go_ret
      refine ⟨?_, rfl⟩
      have : R = true := by
        rw [HR.out]
        exact decide_eq_true hall.out
      rw [this]; rfl

theorem lFew1 (ao : Option Addr) (L cap : Nat) (W : World) (R : Bool) (hR : R = decide (L ≤ 200)) :
    Calls Try.prog 7 #[.slice (some ⟨W.heap.size, 0, none⟩) 1 1] (W.alloc (.cells #[.slice ao L cap] 23)) fun r w' => r = .returned (.bool R) ∧ w' = W.alloc (.cells #[.slice ao L cap] 23) := by
  refine lFew (some ⟨W.heap.size, 0, none⟩) 1 1 (fun _ => ao) (fun _ => L) (fun _ => cap) _ (by omega) R ?_ ?_
  · rw [hR]
    exact decide_eq_decide.2 ⟨fun h i hi => h, fun h => h 0 (by omega)⟩
  · intro i hi
    refine ⟨_, _, rfl, ?_⟩
    obtain rfl : i = 0 := by omega
    exact (cell_of_row _ _ 0 _ _ _ (heap_alloc_new W _)).trans rfl

theorem row_new1 (k : IntKind) (w : World) (x : Nat) (e : TypeId) : Row k (w.alloc (.cells #[.int k (x : Nat)] e)) (.slice (some ⟨w.heap.size, 0, none⟩) 1 1) [x] := Row.of_block (t := e) (heap_alloc_new w _) rfl (by unfold maxLen; omega)

theorem lFew2 (ao bo : Option Addr) (L M cap dap : Nat) (W : World) (R : Bool) (hR : R = decide (L ≤ 200 ∧ M ≤ 200)) :
    Calls Try.prog 7 #[.slice (some ⟨W.heap.size, 0, none⟩) 2 2] (W.alloc (.cells #[.slice ao L cap, .slice bo M dap] 23)) fun r w' => r = .returned (.bool R) ∧ w' = W.alloc (.cells #[.slice ao L cap, .slice bo M dap] 23) := by
  have hn := new2 W (.slice ao L cap) (.slice bo M dap) 23
  refine lFew (some ⟨W.heap.size, 0, none⟩) 2 2 (fun i => if i = 0 then ao else bo) (fun i => if i = 0 then L else M) (fun i => if i = 0 then cap else dap) _ (by omega) R ?_ ?_
  · rw [hR]
    refine decide_eq_decide.2 ⟨fun h i hi => ?_, fun h => ⟨h 0 (by omega), h 1 (by omega)⟩⟩
    by_cases e : i = 0
    · rw [if_pos e]; exact h.1
    · rw [if_neg e]; exact h.2
  · intro i hi
    refine ⟨_, _, rfl, ?_⟩
    rw [Nat.zero_add, World.ownsRow.cellAt hn i (by omega)]
    have : i = 0 ∨ i = 1 := by omega
    rcases this with rfl | rfl <;> rfl

end Go.Proofs.Ytnjmckfkfkalgab
