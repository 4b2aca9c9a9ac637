/- What the laws of layer 17 ask first: Few, awake. -/
import Derived.Test.YtgcbbadakfdcgaaGreatDoorMir5
namespace Go.Proofs.YtgcbbadakfdcgaaGreatDoor
open Go.RowKit

set_option maxRecDepth 20000 in
set_option maxHeartbeats 1000000 in
/-- Few. -/
theorem f17Few (ao : Option Addr) (n cap : Nat) (A : Nat → Option Addr) (L C : Nat → Nat) (w : World) (hn : n ≤ 1000000000000) (R : Bool) (hR : R = decide (∀ i, i < n → L i ≤ 6 ∨ L i = 131)) (hc : Slots w ao n A L C) :
    Calls Tryz.prog 5 #[.slice ao n cap] w fun r w' => r = .returned (.bool R) ∧ w' = w := by
  have HR := toHid hR
  have HC := toHid hc
  clear hR hc
  go_enter Tryz.func5, Tryz.ntmps5
  go_wp2_with fail
  go_loop [7] (fun i => ∃ k : Nat, k ≤ n ∧ i = .int .i64 (k : Int) ∧ Hid (∀ j, j < k → L j ≤ 6 ∨ L j = 131)) (fun i => ((n : Int) - intOf i).toNat)
  case atStart => exact ⟨0, Nat.zero_le _, rfl, fun j hj => by omega⟩
  case round =>
    obtain ⟨k, hk, rfl, hall⟩ := hrel
    by_cases hkn : k < n
    · have hk1 : (k : Int) < (n : Int) := by omega
      obtain ⟨b, off, rfl, hcell⟩ := HC.out k hkn
      obtain ⟨ao, hao⟩ : ∃ ao, ao = A k := ⟨_, rfl⟩
      obtain ⟨len, hlen⟩ : ∃ len, len = L k := ⟨_, rfl⟩
      obtain ⟨cp, hcap⟩ : ∃ cap, cap = C k := ⟨_, rfl⟩
      rw [← hao, ← hlen, ← hcap] at hcell
      have HLen := toHid hlen
      clear hao hlen hcap
      by_cases h4 : len ≤ 6
      · have h4' : ¬ (len : Int) > 6 := by omega
        go_wp2_with fail
        go_round
        case rel => exact ⟨k + 1, by omega, by go_num, fun j hj => by
          by_cases e : j = k
          · subst e; rw [← HLen.out]; exact .inl h4
          · exact hall.out j (by omega)⟩
        case measure => simp [intOf]; omega
      · have h4' : (len : Int) > 6 := by omega
        by_cases h5 : len = 131
        · subst h5
          clear h4 h4'
          go_wp2_with fail
          go_round
          case rel => exact ⟨k + 1, by omega, by go_num, fun j hj => by
            by_cases e : j = k
            · subst e; exact .inr HLen.out.symm
            · exact hall.out j (by omega)⟩
          case measure => simp [intOf]; omega
        · have h5' : ¬ (len : Int) = 131 := by omega
          go_wp2_with fail
          go_ret
          refine ⟨?_, rfl⟩
          have : R = false := by
            rw [HR.out]
            exact decide_eq_false (fun h => by have := h k hkn; rw [← HLen.out] at this; omega)
          rw [this]; rfl
    · have hk1 : ¬ (k : Int) < (n : Int) := by omega
      have e : k = n := by omega
      subst e
      go_wp2_with fail
      go_ret
      refine ⟨?_, rfl⟩
      have : R = true := by
        rw [HR.out]
        exact decide_eq_true hall.out
      rw [this]; rfl

theorem few17a (ao : Option Addr) (L cap : Nat) (W : World) (R : Bool) (hR : R = decide (L ≤ 6 ∨ L = 131)) :
    Calls Tryz.prog 5 #[.slice (some ⟨W.heap.size, 0, none⟩) 1 1] (W.alloc (.cells #[.slice ao L cap] 24)) fun r w' => r = .returned (.bool R) ∧ w' = W.alloc (.cells #[.slice ao L cap] 24) := by
  refine f17Few (some ⟨W.heap.size, 0, none⟩) 1 1 (fun _ => ao) (fun _ => L) (fun _ => cap) _ (by omega) R ?_ ?_
  · rw [hR]
    exact decide_eq_decide.2 ⟨fun h i hi => h, fun h => h 0 (by omega)⟩
  · intro i hi
    refine ⟨_, _, rfl, ?_⟩
    obtain rfl : i = 0 := by omega
    exact (cell_of_row _ _ 0 _ _ _ (heap_alloc_new W _)).trans rfl

theorem few17b (ao bo : Option Addr) (L M cap dap : Nat) (W : World) (R : Bool) (hR : R = decide ((L ≤ 6 ∨ L = 131) ∧ (M ≤ 6 ∨ M = 131))) :
    Calls Tryz.prog 5 #[.slice (some ⟨W.heap.size, 0, none⟩) 2 2] (W.alloc (.cells #[.slice ao L cap, .slice bo M dap] 24)) fun r w' => r = .returned (.bool R) ∧ w' = W.alloc (.cells #[.slice ao L cap, .slice bo M dap] 24) := by
  refine f17Few (some ⟨W.heap.size, 0, none⟩) 2 2 (fun i => if i = 0 then ao else bo) (fun i => if i = 0 then L else M) (fun i => if i = 0 then cap else dap) _ (by omega) R ?_ ?_
  · rw [hR]
    refine decide_eq_decide.2 ⟨fun h i hi => ?_, fun h => ⟨h 0 (by omega), h 1 (by omega)⟩⟩
    have : i = 0 ∨ i = 1 := by omega
    rcases this with rfl | rfl
    · exact h.1
    · exact h.2
  · intro i hi
    refine ⟨_, _, rfl, ?_⟩
    have : i = 0 ∨ i = 1 := by omega
    rcases this with rfl | rfl <;> exact (cell_of_row _ _ _ _ _ _ (heap_alloc_new W _)).trans rfl

theorem row1m (W : World) (z : Nat) : Row .u64 (W.alloc (.cells #[.int .u64 (z : Nat)] 43)) (.slice (some ⟨W.heap.size, 0, none⟩) 1 1) [z] :=
  Row.of_own (base := W.heap.size) (e := 43) (World.ownsRow_lit W #[.int .u64 (z : Nat)] 1 (Nat.le_refl _) (by unfold maxLen; omega) rfl)

theorem ex17 : (strE (val 18446744073709551616 [9]) (val 18446744073709551616 [2]) = 0 ∧ strongB (val 18446744073709551616 [9]) (val 18446744073709551616 [2]) = false) ∧ strE (val 18446744073709551616 [2047]) (val 18446744073709551616 [2]) = 0 ∧ strongB (val 18446744073709551616 [2047]) (val 18446744073709551616 [2]) = true := by decide +kernel

set_option maxRecDepth 20000 in
set_option maxHeartbeats 1000000 in
/-- A number and a base, each of one word, made on the spot. -/
theorem one17 (x a : Nat) (hx : x < 18446744073709551616) (ha : a < 18446744073709551616) (E : Nat) (R : Bool) (hE : strE x a = E) (hE0 : E = 0) (hR : strongB x a = R) (W : World) :
    Calls Tryz.prog 11 #[.slice (some ⟨W.heap.size, 0, none⟩) 1 1, .slice (some ⟨W.heap.size + 1, 0, none⟩) 1 1] ((W.alloc (.cells #[.int .u64 (x : Nat)] 43)).alloc (.cells #[.int .u64 (a : Nat)] 43)) fun e w' => e = .returned (.tuple #[.bool R, .int .i64 0]) ∧ Kept Nought W w' := by
  have e1 : val 18446744073709551616 [x] = x := by simp [val]
  have e2 : val 18446744073709551616 [a] = a := by simp [val]
  have h2 := row1m (W.alloc (.cells #[.int .u64 (x : Nat)] 43)) a
  rw [World.size_alloc] at h2
  have k1 := (Kept.refl Nought W).alloc (.cells #[.int .u64 (x : Nat)] 43)
  have k2 := k1.alloc (.cells #[.int .u64 (a : Nat)] 43)
  have k3 := (Kept.refl Nought (W.alloc (.cells #[.int .u64 (x : Nat)] 43))).alloc (.cells #[.int .u64 (a : Nat)] 43)
  refine (yStrong _ _ 1 1 1 1 [x] [a] E R (by rw [e1, e2]; exact hE.symm) (by rw [e1, e2, ← hR, strongB_iff]; simp [hE0]) _ ((row1m W x).grew k3) h2 (Digs.one hx) (Digs.one ha) (by omega) (by omega)).mono ?_
  rintro e w' ⟨rfl, k⟩
  exact ⟨by rw [hE0]; rfl, k2.trans k⟩

set_option maxRecDepth 20000 in
set_option maxHeartbeats 1000000 in
/-- awake. -/
theorem f17Awake (w : World) : Calls Tryz.prog 4 #[] w fun r w' => r = .returned (.bool true) ∧ Kept Nought w w' := by
  have h1 := one17 9 2 (by omega) (by omega) 0 false (by decide +kernel) rfl (by decide +kernel) w
  go_enter Tryz.func4, Tryz.ntmps4
  go_wp2_with fail
  refine h1.mono ?_
  rintro e w1 ⟨rfl, k1⟩
  have h2 := one17 2047 2 (by omega) (by omega) 0 true (by decide +kernel) rfl (by decide +kernel) w1
  have K1 := toHid k1
  clear h1 k1
  go_wp2_with fail
  refine h2.mono ?_
  rintro e w2 ⟨rfl, k2⟩
  have K2 := toHid (K1.out.trans k2)
  clear h2 k2
  go_wp2_with fail
  go_ret
  exact ⟨rfl, K2.out⟩

end Go.Proofs.YtgcbbadakfdcgaaGreatDoor
