/- What the laws of layer 9 ask first. -/
import Derived.Test.YtnbjepjadekafaaSho3
import Derived.Test.YtnbjepjadekafaaLaw6
import Derived.Test.YtnbjepjadekafaaRef8A
namespace Go.Proofs.Ytnbjepjadekafaa
open Go.RowKit

theorem row1s (W : World) (z : Nat) : Row .u64 (W.alloc (.cells #[.int .u64 (z : Nat)] 24)) (.slice (some ⟨W.heap.size, 0, none⟩) 1 1) [z] :=
  Row.of_own (base := W.heap.size) (e := 24) (World.ownsRow_lit W #[.int .u64 (z : Nat)] 1 (Nat.le_refl _) (by unfold maxLen; omega) rfl)

theorem ex9 : digs 18446744073709551616 (val 18446744073709551616 [3] ^ 5 % val 18446744073709551616 [7]) 1 = [5] ∧ val 18446744073709551616 [3] < val 18446744073709551616 [7] := by decide

set_option maxRecDepth 20000 in
set_option maxHeartbeats 1000000 in
/-- awake. -/
theorem f9Awake (w : World) : Calls Try.prog 6 #[] w fun r w' => r = .returned (.bool true) ∧ Kept Nought w w' := by
  have hS := q6Setup _ 1 1 [7] 7 0 rfl ex6.1.symm _ (row7 w) (Digs.one (by omega)) (by omega)
  rw [ex6.2.1, ex6.2.2] at hS
  have k0 := (Kept.refl Nought w).alloc (.cells #[.int .u64 7] 24)
  have HK0 := toHid k0
  go_enter Try.func6, Try.ntmps6
  go_wp2_with fail
  refine hS.mono ?_
  rintro e w1 ⟨a, K, b, rfl, ha, hb, hK, k1⟩
  have hok := (setup_ok ex6.1 hK).1
  rw [ex6.2.1, ex6.2.2] at hok
  have hKb : K < 18446744073709551616 := hK.1
  obtain ⟨ao, n, cap, rfl, hL, _, _, _, _⟩ := ha.open
  obtain ⟨bo, m, dap, rfl, hM, _, _, _, _⟩ := hb.open
  obtain rfl : n = 1 := hL.out.symm
  obtain rfl : m = 1 := hM.out.symm
  have K1 := toHid (HK0.out.trans k1)
  have HA := toHid ha
  have HB := toHid hb
  have HO := toHid hok
  have dm : Digs 18446744073709551616 [7] := Digs.one (by omega)
  have dr : Digs 18446744073709551616 [4] := Digs.one (by omega)
  have d3 : Digs 18446744073709551616 [3] := Digs.one (by omega)
  have JA : Hid (∀ W, Kept Nought w1 W → Calls Try.prog 8 #[.agg #[.slice ao 1 cap, .int .u64 (K : Nat), .slice bo 1 dap], .slice (some ⟨W.heap.size, 0, none⟩) 1 1, .int .u64 5] (W.alloc (.cells #[.int .u64 3] 24)) fun e w' => ∃ v', e = .returned (.tuple #[v', .int .i64 0]) ∧ Row .u64 w' v' [5] ∧ Kept Nought W w') := fun W k => by
    have k2 := (Kept.refl Nought W).alloc (.cells #[.int .u64 3] 24)
    refine (sExp ao bo _ 1 1 K cap dap 1 1 5 [7] [4] [3] 0 ⟨fun _ => ⟨HO.out, rfl, ex9.2⟩, fun _ => rfl⟩ (by omega) [5] ex9.1.symm _ (HA.out.grew (k.trans k2)) (HB.out.grew (k.trans k2)) (row1s W 3) dm dr d3 (by omega) hKb (by omega)).mono ?_
    rintro e w' ⟨v', rfl, h1, h2⟩
    exact ⟨v', rfl, h1, k2.trans h2⟩
  obtain ⟨W1, hW1⟩ : ∃ W1, W1 = w1.alloc (.cells #[.slice ao 1 cap, .int .u64 (K : Nat), .slice bo 1 dap] 26) := ⟨_, rfl⟩
  have kW : Kept Nought w1 W1 := by rw [hW1]; exact (Kept.refl Nought w1).alloc _
  have hx0 : W1.heap[w1.heap.size]? = some (.cells #[.slice ao 1 cap, .int .u64 (K : Nat), .slice bo 1 dap] 26 (0, 0)) := by rw [hW1]; exact heap_alloc_new _ _
  obtain ⟨p0, p1, p2⟩ := cells3 hx0
  have HW1 := toHid hW1
  have KW := toHid kW
  have hA := JA.out _ KW.out
  unfold modCells
  clear hS ha hb hK hok hL hM k0 k1 HA HB HO dm dr d3 hKb hx0 hW1 kW
  go_wp2_with (rw [← HW1.out])
  refine hA.mono ?_
  rintro e w2 ⟨v2, rfl, hr2, k2⟩
  obtain ⟨ao2, n2, cap2, rfl, hL2, _, _, _, hnum2⟩ := hr2.open
  obtain rfl : n2 = 1 := hL2.out.symm
  obtain ⟨b2, off2, rfl, hc2⟩ := hnum2 0 (by omega)
  have K2 := toHid (K1.out.trans (KW.out.trans k2))
  have hc2' : w2.cell? ⟨b2, off2, none⟩ = some (.int .u64 5) := hc2
  clear hA hr2 hnum2 hL2 k2 p0 p1 p2 hc2
  go_wp2_with fail
  go_ret
  exact ⟨rfl, K2.out⟩

end Go.Proofs.Ytnbjepjadekafaa
