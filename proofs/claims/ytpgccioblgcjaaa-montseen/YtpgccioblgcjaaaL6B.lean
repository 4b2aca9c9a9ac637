/- The laws' first test of layer 6. -/
import Derived.Test.YtpgccioblgcjaaaMonL
import Derived.Test.YtpgccioblgcjaaaL6A
namespace Go.Proofs.Ytpgccioblgcjaaa
open Go.RowKit

theorem ex6 : montE 7 = 0 ∧ modM 7 = [7] ∧ modR 7 = [4] := by decide

theorem ex6K {K : Nat} (h : isKf 7 K) : K = 10540996613548315209 := isKf_uniq h ⟨by omega, fun _ => by omega, fun h => absurd ex6.1 h⟩

theorem row7 (w : World) : Row .u64 (w.alloc (.cells #[.int .u64 7] 26)) (.slice (some ⟨w.heap.size, 0, none⟩) 1 1) [7] := Row.of_block (k := .u64) (w := w.alloc (.cells #[.int .u64 7] 26)) (g := w.heap.size) (zs := [7]) (t := 26) (heap_alloc_new _ _) rfl (by unfold maxLen; omega)

set_option maxRecDepth 20000 in
set_option maxHeartbeats 1000000 in
/-- awake. -/
theorem f6Awake (w : World) : Calls Try.prog 9 #[] w fun r w' => r = .returned (.bool true) ∧ Kept Nought w w' := by
  have hS := mSetup _ 1 1 [7] 7 0 rfl ex6.1.symm _ (row7 w) (Digs.one (by omega)) (by omega)
  rw [ex6.2.1, ex6.2.2] at hS
  have k0 := (Kept.refl Nought w).alloc (.cells #[.int .u64 7] 26)
  go_enter Try.func9, Try.ntmps9
  go_wp2_with fail
  refine hS.mono ?_
  rintro e w1 ⟨a, K, b, rfl, ha, hb, hK, k1⟩
  obtain rfl := ex6K hK
  obtain ⟨ao, n, cap, rfl, hL, _, _, _, hnum⟩ := ha.open
  obtain ⟨bo, m, dap, rfl, hM, _, _, _, hnum4⟩ := hb.open
  obtain rfl : n = 1 := hL.out.symm
  obtain rfl : m = 1 := hM.out.symm
  obtain ⟨b1, off1, rfl, hc0⟩ := hnum 0 (by omega)
  obtain ⟨b4, off4, rfl, hc4⟩ := hnum4 0 (by omega)
  have hc0' : w1.cell? ⟨b1, off1, none⟩ = some (.int .u64 7) := hc0
  have hc4' : w1.cell? ⟨b4, off4, none⟩ = some (.int .u64 4) := hc4
  have kk := k0.trans k1
  have kb := (Kept.refl Nought w1).alloc (.cells #[.slice (some ⟨b1, off1, none⟩) 1 cap, .int .u64 10540996613548315209, .slice (some ⟨b4, off4, none⟩) 1 dap] 28)
  have d0 := kb.cellN hc0'
  have d4 := kb.cellN hc4'
  unfold modCells
  clear hS hnum hnum4 hc0 hc4 ha hb hK hL hM k0 k1 kb
  go_wp2
  go_ret
  exact ⟨rfl, kk.alloc _⟩

end Go.Proofs.Ytpgccioblgcjaaa
