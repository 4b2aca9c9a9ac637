/- Layer 16's laws: Few, awake. -/
import Derived.Test.YtboogjaiigihdaaSiv5
namespace Go.Proofs.Ytboogjaiigihdaa
open Go.RowKit

theorem row16 (W : World) (z : Nat) : Row .u64 (W.alloc (.cells #[.int .u64 (z : Nat)] 31)) (.slice (some ⟨W.heap.size, 0, none⟩) 1 1) [z] :=
  Row.of_own (base := W.heap.size) (e := 31) (World.ownsRow_lit W #[.int .u64 (z : Nat)] 1 (Nat.le_refl _) (by unfold maxLen; omega) rfl)

theorem fac91 : IsFac (val 18446744073709551616 [91]) (upTo 10) 7 := by
  rw [show val 18446744073709551616 [91] = 91 from rfl]
  refine .inr ⟨by decide, by decide, by decide, fun p hp hlt => ?_⟩
  have h2 := hp.1
  have h : p = 2 ∨ p = 3 ∨ p = 4 ∨ p = 5 ∨ p = 6 := by omega
  rcases h with rfl | rfl | rfl | rfl | rfl <;> decide

theorem pass16A : (List.range 1001).all (fun p => decide (p < 2) || decide (1000003 % p ≠ 0)) = true := by decide +kernel

theorem pass16 : passN (val 18446744073709551616 [1000003]) := by
  rw [show val 18446744073709551616 [1000003] = 1000003 from rfl]
  refine ⟨by omega, 0, .inl ⟨rfl, fun p hp hle => ?_⟩, .inl rfl⟩
  have h := List.all_eq_true.1 pass16A p (List.mem_range.2 (by omega))
  have h2 := hp.1
  rw [decide_eq_false (by omega), Bool.false_or, decide_eq_true_iff] at h
  exact h

/-- Few. -/
theorem f16Few (ao : Option Addr) (L cap : Nat) (w : World) (R : Bool) (hR : R = decide (L ≤ 6)) :
    Calls Try.prog 10 #[.slice ao L cap] w fun e w' => e = .returned (.bool R) ∧ w' = w := by
  have HR : Hid (R = decide ((L : Int) ≤ 6)) := by
    unfold Hid
    rw [hR]
    by_cases h : L ≤ 6
    · rw [decide_eq_true h, decide_eq_true (by omega)]
    · rw [decide_eq_false h, decide_eq_false (by omega)]
  clear hR
  go_enter Try.func10, Try.ntmps10
  go_wp2
  go_ret
  exact ⟨by rw [HR.out]; rfl, rfl⟩

set_option maxRecDepth 20000 in
set_option maxHeartbeats 1000000 in
/-- awake. -/
theorem f16Awake (w : World) : Calls Try.prog 7 #[] w fun r w' => r = .returned (.bool true) ∧ Kept Nought w w' := by
  have hP := sPrimesAll 10 w
  rw [show primesTo (upTo 10) = [2, 3, 5, 7] by decide] at hP
  go_enter Try.func7, Try.ntmps7
  go_wp2_with fail
  refine hP.mono ?_
  rintro e w1 ⟨v, rfl, hr, k1⟩
  obtain ⟨ao, L, cap, rfl, hL, hLc, hcm, hnn, hnum⟩ := hr.open
  obtain rfl : 4 = L := hL.out
  obtain ⟨b, off, rfl, c3⟩ := hnum 3 (by omega)
  have c3' : w1.cell? ⟨b, off + 3, none⟩ = some (.int .i64 7) := c3
  have hF := sFactor (some ⟨w1.heap.size, 0, none⟩) 1 1 [91] 10 (w1.alloc (.cells #[.int .u64 91] 31)) (row16 w1 91) (Digs.one (by omega)) (by omega)
  have HK1 := toHid k1
  clear hP hr hL hnum c3 k1 hnn
  go_wp2_with fail
  refine hF.mono ?_
  rintro e w2 ⟨R, rfl, hf, k2⟩
  obtain rfl : R = 7 := hf.uniq fac91
  have HK2 := toHid ((HK1.out.alloc (.cells #[.int .u64 91] 31)).trans k2)
  have hQ := sPasses (some ⟨w2.heap.size, 0, none⟩) 1 1 [1000003] true ⟨fun _ => pass16, fun _ => rfl⟩ (w2.alloc (.cells #[.int .u64 1000003] 31)) (row16 w2 1000003) (Digs.one (by omega)) (by omega)
  clear hF hf k2
  go_wp2_with fail
  refine hQ.mono ?_
  rintro e w3 ⟨rfl, k3⟩
  have HK3 := toHid ((HK2.out.alloc (.cells #[.int .u64 1000003] 31)).trans k3)
  clear hQ k3
  go_wp2_with fail
  go_ret
  exact ⟨rfl, HK3.out⟩

end Go.Proofs.Ytboogjaiigihdaa
