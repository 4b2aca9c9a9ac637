/- What the laws of layer 18 ask first: awake. -/
import Derived.Test.YtcjaafmlflonhaaGreatDoorPri1
import Derived.Test.YtcjaafmlflonhaaGreatDoorPri2
namespace Go.Proofs.YtcjaafmlflonhaaGreatDoor
open Go.RowKit

theorem row18 (W : World) (z : Nat) : Row .u64 (W.alloc (.cells #[.int .u64 (z : Nat)] 23)) (.slice (some ⟨W.heap.size, 0, none⟩) 1 1) [z] :=
  Row.of_own (base := W.heap.size) (e := 23) (World.ownsRow_lit W #[.int .u64 (z : Nat)] 1 (Nat.le_refl _) (by unfold maxLen; omega) rfl)

theorem row18b (W : World) : Row .u8 (W.alloc (.cells #[.int .u8 0, .int .u8 0] 5)) (.slice (some ⟨W.heap.size, 0, none⟩) 2 2) [0, 0] :=
  Row.of_own (base := W.heap.size) (e := 5) (World.ownsRow_lit W #[.int .u8 0, .int .u8 0] 2 (Nat.le_refl _) (by unfold maxLen; omega) rfl)

theorem pass23A : (List.range 23).all (fun p => decide (p < 2) || decide (23 % p ≠ 0)) = true := by decide +kernel

theorem good23 : goodN (val 18446744073709551616 [23]) 3 := by
  rw [show val 18446744073709551616 [23] = 23 from rfl]
  refine ⟨by omega, by omega, ⟨by omega, 23, .inr ⟨by decide +kernel, by omega, by omega, fun p hp hlt => ?_⟩, .inr rfl⟩, by decide⟩
  have h := List.all_eq_true.1 pass23A p (List.mem_range.2 (by omega))
  have h2 := hp.1
  rw [decide_eq_false (by omega), Bool.false_or, decide_eq_true_iff] at h
  exact h

theorem good31 : ¬ goodN (val 18446744073709551616 [31]) 3 := fun h => by
  have h2 : Nat.gcd 30 3 = 1 := h.2.2.2
  exact absurd h2 (by decide)

set_option maxRecDepth 20000 in
set_option maxHeartbeats 1000000 in
/-- awake. -/
theorem f18Awake (w : World) : Calls Tryz.prog 5 #[] w fun r w' => r = .returned (.bool true) ∧ Kept Nought w w' := by
  have J1 := pCand (.slice (some ⟨w.heap.size, 0, none⟩) 2 2) [0, 0] 16 (by omega) (by omega) 0 [49153] (by decide +kernel) (by decide +kernel) _ (row18b w) (fun d hd => by simp at hd; omega)
  have K1 := (Kept.refl Nought w).alloc (.cells #[.int .u8 0, .int .u8 0] 5)
  have HK1 := toHid K1
  clear K1
  go_enter Tryz.func5, Tryz.ntmps5
  go_wp2_with fail
  refine J1.mono ?_
  rintro e w1 ⟨v, rfl, hr, _, k1⟩
  obtain ⟨ao, L, cap, rfl, hL, hLc, hcm, hnn, hnum⟩ := hr.open
  obtain rfl : 1 = L := hL.out
  obtain ⟨b, off, rfl, c0⟩ := hnum 0 (by omega)
  have c0' : w1.cell? ⟨b, off, none⟩ = some (.int .u64 49153) := c0
  have HK2 := toHid (HK1.out.trans k1)
  have J2 := pGood _ 1 1 [23] 3 (by omega) true (by simp [good23]) _ (row18 w1 23) (Digs.one (by omega)) (by omega)
  have HK3 := toHid (HK2.out.alloc (.cells #[.int .u64 (23 : Nat)] 23))
  clear J1 hr hL hnum c0 k1 hnn
  go_wp2_with fail
  refine J2.mono ?_
  rintro e w2 ⟨rfl, k2⟩
  have HK4 := toHid (HK3.out.trans k2)
  have J3 := pGood _ 1 1 [31] 3 (by omega) false (by simp [good31]) _ (row18 w2 31) (Digs.one (by omega)) (by omega)
  have HK5 := toHid (HK4.out.alloc (.cells #[.int .u64 (31 : Nat)] 23))
  clear J2 k2 c0'
  go_wp2_with fail
  refine J3.mono ?_
  rintro e w3 ⟨rfl, k3⟩
  have HK6 := toHid (HK5.out.trans k3)
  clear J3 k3
  go_wp2_with fail
  go_ret
  exact ⟨rfl, HK6.out⟩

end Go.Proofs.YtcjaafmlflonhaaGreatDoor
