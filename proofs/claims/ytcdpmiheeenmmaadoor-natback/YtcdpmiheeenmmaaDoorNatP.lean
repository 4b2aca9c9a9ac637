/- The laws' first tests: the chapter's examples (awake); whether numbers are short (few). -/
import Derived.Test.YtcdpmiheeenmmaaDoorNatO
namespace Go.Proofs.YtcdpmiheeenmmaaDoor
open Go.RowKit Go.Shelf

set_option maxRecDepth 20000 in
set_option maxHeartbeats 1000000 in
/-- few. -/
theorem nFew (b n : Nat) (A : Nat → Option Addr) (L C : Nat → Nat) (w : World) (hn : n ≤ 3) (R : Bool) (hR : R = decide (∀ i, i < n → L i ≤ 400)) (hc : ∀ i, i < n → w.cell? ⟨b, i, none⟩ = some (.slice (A i) (L i) (C i))) :
    Calls Tryd.prog 13 #[.slice (some ⟨b, 0, none⟩) n n] w fun r w' => r = .returned (.bool R) ∧ w' = w := by
  have HR : Hid (R = decide (∀ i, i < n → L i ≤ 400)) := hR
  have HC : Hid (∀ i, i < n → w.cell? ⟨b, i, none⟩ = some (.slice (A i) (L i) (C i))) := hc
  clear hR hc
  go_enter Tryd.func13, Tryd.ntmps13
  go_wp2_with fail
  go_loop [7] (fun i => ∃ k : Nat, k ≤ n ∧ i = .int .i64 (k : Int) ∧ Hid (∀ j, j < k → L j ≤ 400)) (fun i => ((n : Int) - intOf i).toNat)
  case atStart => exact ⟨0, Nat.zero_le _, rfl, fun j hj => by omega⟩
  case round =>
    obtain ⟨k, hk, rfl, hall⟩ := hrel
    by_cases hkn : k < n
    · have hk1 : (k : Int) < (n : Int) := by omega
      have hcell := HC.out k hkn
      obtain ⟨ao, hao⟩ : ∃ ao, ao = A k := ⟨_, rfl⟩
      obtain ⟨len, hlen⟩ : ∃ len, len = L k := ⟨_, rfl⟩
      obtain ⟨cap, hcap⟩ : ∃ cap, cap = C k := ⟨_, rfl⟩
      rw [← hao, ← hlen, ← hcap] at hcell
      have HLen : Hid (len = L k) := hlen
      clear hao hlen hcap
      by_cases h4 : len ≤ 400
      · have h4' : ¬ (len : Int) > 400 := by omega
        go_wp2_with fail
        go_round
        case rel => exact ⟨k + 1, by omega, by go_num, fun j hj => by
          by_cases e : j = k
          · subst e; rw [← HLen.out]; exact h4
          · exact hall.out j (by omega)⟩
        case measure => simp [intOf]; omega
      · have h4' : (len : Int) > 400 := by omega
        go_wp2_with fail
        go_ret
        refine ⟨?_, rfl⟩
        have : R = false := by
          rw [HR.out]
          exact decide_eq_false (fun h => h4 (by rw [HLen.out]; exact h k hkn))
        rw [this]; rfl
    · have hk1 : ¬ (k : Int) < (n : Int) := by omega
      have e : k = n := by omega
      subst e
      go_wp2_with fail
      go_ret
      refine ⟨?_, rfl⟩
      have : R = true := by
        rw [HR.out]
        exact decide_eq_true hall.out
      rw [this]; rfl

theorem ex1 : resCode 256 2 = 0 ∧ resList 256 2 = [256, 0] := by decide +kernel

theorem ex2 : bytCode 256 2 3 = 0 ∧ bytList 256 2 3 = [0, 1, 0] := by decide +kernel

theorem ex3 : showL 18446744073709551616 = [48, 120, 49, 48, 48, 48, 48, 48, 48, 48, 48, 48, 48, 48, 48, 48, 48, 48, 48] := by decide +kernel

theorem row_new2 (k : IntKind) (w : World) (x y : Nat) (e : TypeId) : Row k (w.alloc (.cells #[.int k (x : Nat), .int k (y : Nat)] e)) (.slice (some ⟨w.heap.size, 0, none⟩) 2 2) [x, y] := Row.of_own (new2 w (.int k (x : Nat)) (.int k (y : Nat)) e)

set_option maxRecDepth 20000 in
set_option maxHeartbeats 2000000 in
/-- awake. -/
theorem nAwake (w : World) (hT : Tab w) : Calls Tryd.prog 9 #[] w fun r w' => r = .returned (.bool true) ∧ Kept Nought w w' := by
  have r1 := row_new2 .u8 w 1 0 5
  have k1 : Kept Nought w (w.alloc (.cells #[.int .u8 1, .int .u8 0] 5)) := (Kept.refl Nought w).alloc _
  have hO := nOf _ [1, 0] 2 _ r1 (by intro d hd; simp at hd; omega)
  rw [show bev [1, 0] = 256 from rfl, ex1.1, ex1.2] at hO
  clear r1
  go_enter Tryd.func9, Tryd.ntmps9
  go_wp2_with fail
  refine hO.mono ?_
  rintro e w2 ⟨v2, rfl, hr2, k2⟩
  have hk2 := k1.trans k2
  clear hO k1 k2
  have hBt := nBytes v2 [256, 0] 3 w2 hr2 (by intro d hd; simp at hd; omega) (by decide)
  rw [show val 18446744073709551616 [256, 0] = 256 from rfl, show [256, 0].length = 2 from rfl, ex2.1, ex2.2] at hBt
  go_wp2_with fail
  refine hBt.mono ?_
  rintro e w3 ⟨v3, rfl, hr3, k3⟩
  have hr2' := hr2.grew k3
  have hk3 := hk2.trans k3
  clear hBt hr2 hk2 k3
  obtain ⟨ao, n, cap, rfl, hL, _, _, _, hnum⟩ := hr2'.open
  obtain ⟨bo, m, dap, rfl, hM, _, _, _, hnum3⟩ := hr3.open
  obtain rfl : n = 2 := hL.out.symm
  obtain rfl : m = 3 := hM.out.symm
  obtain ⟨b, off, rfl, hc0⟩ := hnum 0 (by omega)
  obtain ⟨b3, off3, rfl, hc3⟩ := hnum3 1 (by omega)
  have hc0' : w3.cell? ⟨b, off, none⟩ = some (.int .u64 256) := hc0
  have hc3' : w3.cell? ⟨b3, off3 + 1, none⟩ = some (.int .u8 1) := hc3
  have r4 := row_new2 .u64 w3 0 1 39
  have k4 : Kept Nought w (w3.alloc (.cells #[.int .u64 0, .int .u64 1] 39)) := hk3.alloc _
  have hS := nShow _ [0, 1] _ r4 (by intro d hd; simp at hd; omega) (by decide) (hT.grew k4)
  rw [show val 18446744073709551616 [0, 1] = 18446744073709551616 from rfl, ex3] at hS
  clear hnum hnum3 hc0 hc3 hr2' hr3 hL hM r4
  go_wp2_with (go_at_call 29; refine hS.mono ?_; rintro e w5 ⟨rfl, k5⟩)
  go_ret
  exact ⟨rfl, k4.trans k5⟩

end Go.Proofs.YtcdpmiheeenmmaaDoor
