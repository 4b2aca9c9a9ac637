/- The walk of the statement on masks and choices: it returns true for any words. -/
import Derived.Test.YtaddnmnnpnkahaaAwake
import Derived.RowKit3
import Derived.OpenShut
import Derived.Deep.RegionWith
namespace Go.Proofs.Ytaddnmnnpnkahaa
open Go.RowKit

set_option maxHeartbeats 400000 in
theorem walkWordSelects (a0 : Int) (a1 : Int) (a2 : Int) (w0 : (Lit.int .u64 a0).wf = true) (w1 : (Lit.int .u64 a1).wf = true) (w2 : (Lit.int .u64 a2).wf = true) (w : World) :
    Calls Try.prog 5 #[.int .u64 a0, .int .u64 a1, .int .u64 a2] w fun e w' => e = .returned (.bool true) ∧ Grown w w' := by
  obtain ⟨x0, y0⟩ := bounds_u64 w0
  obtain ⟨x1, y1⟩ := bounds_u64 w1
  obtain ⟨x2, y2⟩ := bounds_u64 w2
  have z0 : a0 < 18446744073709551616 := by omega
  have z1 : a1 < 18446744073709551616 := by omega
  have z2 : a2 < 18446744073709551616 := by omega
  clear w0 w1 w2 y0 y1 y2
  go_enter Try.func5, Try.ntmps5
  go_wp2_with (first | (go_at_call 9; refine (awake _).mono ?_; rintro e w' ⟨rfl, rfl⟩) | (go_at_call 16; refine (wMask a0 x0 z0 _).mono ?_; rintro e w' ⟨rfl, rfl⟩) | (go_at_call 17; refine (rMask a0 x0 z0 _).mono ?_; rintro e w' ⟨rfl, rfl⟩) | (go_at_call 18; refine (wSelect a0 a1 a2 x0 z0 x1 z1 x2 z2 _).mono ?_; rintro e w' ⟨rfl, rfl⟩) | (go_at_call 19; refine (rSelect a0 a1 a2 x0 z0 _).mono ?_; rintro e w' ⟨rfl, rfl⟩))
  go_ret
  exact ⟨rfl, Grown.refl _⟩
end Go.Proofs.Ytaddnmnnpnkahaa
