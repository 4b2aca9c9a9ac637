/- The law Sha512Pads, walked. -/
import Derived.Test.YtjnmnkoajcibhaaDoorShc9
namespace Go.Proofs.YtjnmnkoajcibhaaDoor
open Go.RowKit

set_option maxRecDepth 20000 in
set_option maxHeartbeats 2000000 in
theorem walkSha512Pads (n : Int) (short : Bool) (w : World) (hn : (Lit.int .i64 n).wf = true) (hT : Tab12 w) :
    Calls Tryd.prog 5 #[.int .i64 n, .bool short] w fun e w' => e = .returned (.bool true) ∧ Below w.heap.size w w' := by
  have hA := awake12 w hT
  have hb := bounds_i64 hn
  obtain ⟨N, hN⟩ : ∃ N, N = n.toNat := ⟨_, rfl⟩
  have J1 : Hid (∀ W, Calls Tryd.prog 14 #[.int .i64 n] W fun e w' => ∃ v', e = .returned v' ∧ OwnB w' W.heap.size v' (padM N) ∧ Kept Nought W w') := fun W => mPad n N (by omega) hN W
  have J2 : Hid (∀ W, Calls Tryd.prog 15 #[.int .i64 n] W fun e w' => ∃ v', e = .returned v' ∧ Row .u8 w' v' (padM N) ∧ (∀ b, v'.ownBlock = some b → W.heap.size ≤ b) ∧ Kept Nought W w') := fun W => r12Pad n N (by omega) hN W
  obtain ⟨z0, z1, z2, z3, z4, z5, z6, z7, hzz⟩ : ∃ z0 z1 z2 z3 z4 z5 z6 z7, H5 short = [z0, z1, z2, z3, z4, z5, z6, z7] := by
    match h : H5 short, (H5_digs short).2 with
    | [a, b, c, d, e, f, g, h'], _ => exact ⟨a, b, c, d, e, f, g, h', rfl⟩
  have J3 : Hid (∀ W, Kept Nought w W → Calls Tryd.prog 16 #[.bool short] W fun e w' => e = .returned (.agg #[.int .u64 (z0 : Int), .int .u64 (z1 : Int), .int .u64 (z2 : Int), .int .u64 (z3 : Int), .int .u64 (z4 : Int), .int .u64 (z5 : Int), .int .u64 (z6 : Int), .int .u64 (z7 : Int)]) ∧ Kept Nought W w') := fun W k => by
    have := mStart short W (hT.grew k)
    rw [hzz] at this
    exact this
  have J4 : Hid (∀ W, Calls Tryd.prog 17 #[.bool short] W fun e w' => e = .returned (.agg #[.int .u64 (z0 : Int), .int .u64 (z1 : Int), .int .u64 (z2 : Int), .int .u64 (z3 : Int), .int .u64 (z4 : Int), .int .u64 (z5 : Int), .int .u64 (z6 : Int), .int .u64 (z7 : Int)]) ∧ Kept Nought W w') := fun W => by
    have := r12Start short W
    rw [hzz] at this
    exact this
  have hq := fun w => arr8_alikeM w (z0 : Int) (z1 : Int) (z2 : Int) (z3 : Int) (z4 : Int) (z5 : Int) (z6 : Int) (z7 : Int)
  have hgd := Tryd.noGuardB
  clear hT hn hb hN hzz
  go_enter Tryd.func5, Tryd.ntmps5
  go_wp2_with fail
  refine hA.mono ?_
  rintro e w1 ⟨rfl, k1⟩
  clear hA
  go_wp2_with fail
  refine (J1.out _).mono ?_
  rintro e w2 ⟨v2, rfl, r2, k2⟩
  go_wp2_with fail
  refine (J2.out _).mono ?_
  rintro e w3 ⟨v3, rfl, r3, _, k3⟩
  have hS := same12 v2 v3 _ _ w3 (r2.row.grew k3) r3 (padM_digs N) (padM_digs N)
  rw [decide_eq_true rfl] at hS
  have HK := toHid (k1.trans (k2.trans k3))
  clear r2 r3 k1 k2 k3
  go_wp2_with fail
  refine hS.mono ?_
  rintro e w4 ⟨rfl, rfl⟩
  clear hS
  go_wp2_with fail
  refine (J3.out _ HK.out).mono ?_
  rintro e w5 ⟨rfl, k5⟩
  go_wp2_with fail
  refine (J4.out _).mono ?_
  rintro e w6 ⟨rfl, k6⟩
  have HK6 := toHid (HK.out.trans (k5.trans k6))
  clear k5 k6
  go_wp2_with fail
  go_ret
  exact ⟨rfl, below_kept HK6.out (Nat.le_refl _)⟩

end Go.Proofs.YtjnmnkoajcibhaaDoor
