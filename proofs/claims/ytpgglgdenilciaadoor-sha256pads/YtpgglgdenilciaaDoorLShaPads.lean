/- The law Sha256Pads, walked. -/
import Derived.Test.YtpgglgdenilciaaDoorShy1
namespace Go.Proofs.YtpgglgdenilciaaDoor
open Go.RowKit

set_option maxRecDepth 20000 in
set_option maxHeartbeats 2000000 in
theorem walkSha256Pads (n : Int) (w : World) (hn : (Lit.int .i64 n).wf = true) (hT : Tab11 w) :
    Calls Tryd.prog 5 #[.int .i64 n] w fun e w' => e = .returned (.bool true) ∧ Below w.heap.size w w' := by
  have hA := awake11 w hT
  have hb := bounds_i64 hn
  obtain ⟨N, hN⟩ : ∃ N, N = n.toNat := ⟨_, rfl⟩
  have J1 : Hid (∀ W, Calls Tryd.prog 13 #[.int .i64 n] W fun e w' => ∃ v', e = .returned v' ∧ OwnB w' W.heap.size v' (padN N) ∧ Kept Nought W w') := fun W => hPad n N (by omega) hN W
  have J2 : Hid (∀ W, Calls Tryd.prog 14 #[.int .i64 n] W fun e w' => ∃ v', e = .returned v' ∧ Row .u8 w' v' (padN N) ∧ (∀ b, v'.ownBlock = some b → W.heap.size ≤ b) ∧ Kept Nought W w') := fun W => r11Pad n N (by omega) hN W
  clear hT hn hb hN
  go_enter Tryd.func5, Tryd.ntmps5
  go_wp2_with fail
  refine hA.mono ?_
  rintro e w1 ⟨rfl, k1⟩
  clear hA
  go_wp2_with fail
  refine (J1.out _).mono ?_
  rintro e w2 ⟨v2, rfl, r2, k2⟩
  go_wp2_with fail
  refine (J2.out _).mono ?_
  rintro e w3 ⟨v3, rfl, r3, _, k3⟩
  have hS := same11 v2 v3 _ _ w3 (r2.row.grew k3) r3 (padN_digs N) (padN_digs N)
  rw [decide_eq_true rfl] at hS
  have HK := toHid (k1.trans (k2.trans k3))
  clear r2 r3 k1 k2 k3
  go_wp2_with fail
  refine hS.mono ?_
  rintro e w4 ⟨rfl, rfl⟩
  clear hS
  go_wp2_with fail
  go_ret
  exact ⟨rfl, below_kept HK.out (Nat.le_refl _)⟩

end Go.Proofs.YtpgglgdenilciaaDoor
