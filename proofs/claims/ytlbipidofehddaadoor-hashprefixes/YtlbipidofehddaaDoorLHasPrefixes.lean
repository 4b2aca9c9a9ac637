/- The law HashPrefixes, walked. -/
import Derived.Test.YtlbipidofehddaaDoorHas1
namespace Go.Proofs.YtlbipidofehddaaDoor
open Go.RowKit

set_option maxRecDepth 20000 in
set_option maxHeartbeats 2000000 in
theorem walkHashPrefixes (h : Int) (w : World) (hT : Tab13 w) :
    Calls Tryd.prog 5 #[.int .i64 h] w fun e w' => e = .returned (.bool true) ∧ Below w.heap.size w w' := by
  have hA := awake13 w hT
  clear hT
  go_enter Tryd.func5, Tryd.ntmps5
  go_wp2_with fail
  refine hA.mono ?_
  rintro e w1 ⟨rfl, k1⟩
  clear hA
  go_wp2_with fail
  refine (z13Prefix h _).mono ?_
  rintro e w2 ⟨v2, rfl, r2, k2⟩
  go_wp2_with fail
  refine (r13Prefix h _).mono ?_
  rintro e w3 ⟨v3, rfl, r3, k3⟩
  have hS := r13Same v2 v3 _ _ w3 (r2.row.grew k3) r3.row (preN_digs h) (preN_digs h)
  rw [decide_eq_true rfl] at hS
  have HK := toHid (k1.trans (k2.trans k3))
  clear r2 r3 k1 k2 k3
  go_wp2_with fail
  refine hS.mono ?_
  rintro e w4 ⟨rfl, rfl⟩
  clear hS
  go_wp2_with fail
  go_ret
  exact ⟨rfl, below_kept HK.out (Nat.le_refl _)⟩

end Go.Proofs.YtlbipidofehddaaDoor
