/- The walk of the statement on the strong test: it returns true for any number and any base. -/
import Derived.Test.YtgcbbadakfdcgaaGreatLaw17
namespace Go.Proofs.YtgcbbadakfdcgaaGreat
open Go.RowKit

set_option maxRecDepth 40000 in
set_option maxHeartbeats 2000000 in
theorem walkMillerStrong (u : Value) (xs : List Nat) (v : Value) (ys : List Nat) (w : World) (hu : Row .u64 w u xs) (hv : Row .u64 w v ys) (dx : Digs 18446744073709551616 xs) (dy : Digs 18446744073709551616 ys) :
    Calls Tryz.prog 3 #[u, v] w fun e w' => e = .returned (.bool true) ∧ Below w.heap.size w w' := by
  obtain ⟨ao, L, cap, rfl, _⟩ := hu.open
  obtain ⟨bo, M, dap, rfl, _⟩ := hv.open
  have JU : Hid (∀ W, Kept Nought w W → Row .u64 W (.slice ao L cap) xs) := fun W k => hu.grew k
  have JV : Hid (∀ W, Kept Nought w W → Row .u64 W (.slice bo M dap) ys) := fun W k => hv.grew k
  have J0 := f17Awake w
  clear hu hv
  go_enter Tryz.func3, Tryz.ntmps3
  go_wp2_with fail
  refine J0.mono ?_
  rintro e w1 ⟨rfl, k1⟩
  have k2 := k1.alloc (.cells #[.slice ao L cap, .slice bo M dap] 23)
  have HK2 := toHid k2
  clear J0 k2
  by_cases hf : (L ≤ 6 ∨ L = 131) ∧ (M ≤ 6 ∨ M = 131)
  · have J1 := few17b ao bo L M cap dap w1 true (decide_eq_true hf).symm
    have hLb : L ≤ 1000000 := by omega
    have hMb : M ≤ 1000000 := by omega
    clear hf k1
    go_wp2_with fail
    refine J1.mono ?_
    rintro e w2 ⟨rfl, rfl⟩
    obtain ⟨W2, hW2⟩ : ∃ W2, W2 = w1.alloc (.cells #[.slice ao L cap, .slice bo M dap] 23) := ⟨_, rfl⟩
    rw [← hW2] at HK2 ⊢
    obtain ⟨E, hE⟩ : ∃ E, E = strE (val 18446744073709551616 xs) (val 18446744073709551616 ys) := ⟨_, rfl⟩
    obtain ⟨R, hR⟩ : ∃ R : Bool, R = true ↔ E = 0 ∧ strongP (val 18446744073709551616 xs) (val 18446744073709551616 ys) := ⟨decide (E = 0) && strongB (val 18446744073709551616 xs) (val 18446744073709551616 ys), by rw [Bool.and_eq_true, decide_eq_true_iff, strongB_iff]⟩
    have J2 := yStrong ao bo L M cap dap xs ys E R hE hR W2 (JU.out _ HK2.out) (JV.out _ HK2.out) dx dy hLb hMb
    have J3 : Hid (∀ W, Kept Nought w W → Calls Tryz.prog 7 #[.slice ao L cap, .slice bo M dap] W fun e w' => e = .returned (.tuple #[.bool R, .int .i64 (E : Int)]) ∧ Kept Nought W w') := fun W k => r16Strong ao bo L M cap dap xs ys E R hE hR W (JU.out _ k) (JV.out _ k) dx dy hLb hMb
    clear J1 hW2 hE hR
    go_wp2_with fail
    refine J2.mono ?_
    rintro e w3 ⟨rfl, k3⟩
    have K3 := HK2.out.trans k3
    have j3 := J3.out _ K3
    clear J2 k3
    go_wp2_with fail
    refine j3.mono ?_
    rintro e w4 ⟨rfl, k4⟩
    have HK4 := toHid (K3.trans k4)
    clear j3 k4 K3
    cases R <;>
    · go_wp2_with fail
      go_ret
      exact ⟨by simp, below_kept HK4.out (Nat.le_refl _)⟩
  · have J1 := few17b ao bo L M cap dap w1 false (decide_eq_false hf).symm
    clear hf k1
    go_wp2_with fail
    refine J1.mono ?_
    rintro e w2 ⟨rfl, rfl⟩
    clear J1
    go_wp2_with fail
    go_ret
    exact ⟨rfl, below_kept HK2.out (Nat.le_refl _)⟩

end Go.Proofs.YtgcbbadakfdcgaaGreat
