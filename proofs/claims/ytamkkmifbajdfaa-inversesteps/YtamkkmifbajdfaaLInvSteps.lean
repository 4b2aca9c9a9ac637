/- The law InverseSteps, walked. -/
import Derived.Test.YtamkkmifbajdfaaLaw10
namespace Go.Proofs.Ytamkkmifbajdfaa
open Go.RowKit

set_option maxRecDepth 20000 in
set_option maxHeartbeats 1000000 in
theorem walkInverseSteps (b : Int) (w : World) (_ : (Lit.int .i64 b).wf = true) :
    Calls Try.prog 3 #[.int .i64 b] w fun e w' => e = .returned (.bool true) ∧ Below w.heap.size w w' := by
  have hA := f10Awake w
  have h1 := fun W => iSteps b W
  have h2 := fun W => q10Steps b W
  go_enter Try.func3, Try.ntmps3
  go_wp2_with fail
  refine hA.mono ?_
  rintro e w1 ⟨rfl, k1⟩
  go_wp2_with fail
  refine (h1 _).mono ?_
  rintro e w2 ⟨rfl, rfl⟩
  go_wp2_with fail
  refine (h2 _).mono ?_
  rintro e w3 ⟨rfl, rfl⟩
  go_wp2_with fail
  go_ret
  exact ⟨by first | rfl | simp, below_kept k1 (Nat.le_refl _)⟩

end Go.Proofs.Ytamkkmifbajdfaa
