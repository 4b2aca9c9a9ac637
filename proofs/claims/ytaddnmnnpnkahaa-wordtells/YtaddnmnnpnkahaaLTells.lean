/- The walk of the statement on tests: it returns true for any words. -/
import Derived.Test.YtaddnmnnpnkahaaAwake
import Derived.RowKit3
import Derived.OpenShut
import Derived.Deep.RegionWith
namespace Go.Proofs.Ytaddnmnnpnkahaa
open Go.RowKit

set_option maxHeartbeats 400000 in
theorem walkWordTells (a0 : Int) (a1 : Int) (w0 : (Lit.int .u64 a0).wf = true) (w1 : (Lit.int .u64 a1).wf = true) (w : World) :
    Calls Try.prog 6 #[.int .u64 a0, .int .u64 a1] w fun e w' => e = .returned (.bool true) ∧ Grown w w' := by
  obtain ⟨x0, y0⟩ := bounds_u64 w0
  obtain ⟨x1, y1⟩ := bounds_u64 w1
  have z0 : a0 < 18446744073709551616 := by omega
  have z1 : a1 < 18446744073709551616 := by omega
  clear w0 w1 y0 y1
  have hs : eqw a0 a0 = 1 := if_pos rfl
  obtain ⟨b1, e1, g1⟩ : ∃ b, (a0 == a1) = b ∧ eqw a0 a1 = if b then 1 else 0 := ⟨_, rfl, by unfold eqw; by_cases h : a0 = a1 <;> simp [h]⟩
  obtain ⟨b2, e2, g2⟩ : ∃ b, decide (a0 < a1) = b ∧ bor a0 a1 = if b then 1 else 0 := ⟨_, rfl, by unfold bor; by_cases h : a0 < a1 <;> simp [h]⟩
  obtain ⟨b3, e3, g3⟩ : ∃ b, (a0 == 0) = b ∧ zer a0 = if b then 1 else 0 := ⟨_, rfl, by unfold zer; by_cases h : a0 = 0 <;> simp [h]⟩
  cases b1 <;> cases b2 <;> cases b3
  all_goals
    simp only [Bool.false_eq_true, if_true, if_false] at g1 g2 g3
    go_enter Try.func6, Try.ntmps6
    go_wp2_with (first | (go_at_call 9; refine (awake _).mono ?_; rintro e w' ⟨rfl, rfl⟩) | (go_at_call_of 20 (a1); refine (wEqual a0 a1 x0 z0 x1 z1 _).mono ?_; rintro e w' ⟨rfl, rfl⟩) | (go_at_call 20; refine (wEqual a0 a0 x0 z0 x0 z0 _).mono ?_; rintro e w' ⟨rfl, rfl⟩) | (go_at_call 22; refine (wLess a0 a1 x0 x1 z1 _).mono ?_; rintro e w' ⟨rfl, rfl⟩) | (go_at_call 23; refine (wZero a0 x0 z0 _).mono ?_; rintro e w' ⟨rfl, rfl⟩) | (go_at_call 21; refine (rOne _ _).mono ?_; rintro e w' ⟨rfl, rfl⟩))
    go_ret
    exact ⟨rfl, Grown.refl _⟩
end Go.Proofs.Ytaddnmnnpnkahaa
