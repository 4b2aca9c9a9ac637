/- The law Sha256Sums, walked. -/
import Derived.Test.YtpgglgdenilciaaDoorShy1
namespace Go.Proofs.YtpgglgdenilciaaDoor
open Go.RowKit

set_option maxRecDepth 20000 in
set_option maxHeartbeats 2000000 in
theorem walkSha256Sums (v : Value) (bs : List Nat) (w : World) (hb : Row .u8 w v bs) (hbd : Digs 256 bs) (hT : Tab11 w) :
    Calls Tryd.prog 3 #[v] w fun e w' => e = .returned (.bool true) ∧ Below w.heap.size w w' := by
  have hA := awake11 w hT
  obtain ⟨ao, n, cap, rfl, hL, _, _, _, _⟩ := hb.open
  by_cases hn : n ≤ 3000
  · have g1 : ¬ (n : Int) > 3000 := by omega
    have J1 : Hid (∀ W, Kept Nought w W → Calls Tryd.prog 9 #[.slice ao n cap] W fun e w' => ∃ v', e = .returned v' ∧ Row .u8 w' v' (sumN bs) ∧ (∀ b, v'.ownBlock = some b → W.heap.size ≤ b) ∧ Kept Nought W w') := fun W k => hSum _ bs W (hT.grew k) (hb.grew k) hbd (by have := hL.out; omega)
    have J2 : Hid (∀ W, Kept Nought w W → Calls Tryd.prog 10 #[.slice ao n cap] W fun e w' => ∃ v', e = .returned v' ∧ Row .u8 w' v' (sumN bs) ∧ Kept Nought W w') := fun W k => r11SumAny _ bs W (hb.grew k) hbd (by have := hL.out; omega)
    clear hb hbd hT hL
    go_enter Tryd.func3, Tryd.ntmps3
    go_wp2_with fail
    refine hA.mono ?_
    rintro e w1 ⟨rfl, k1⟩
    clear hA
    go_wp2_with fail
    refine (J1.out _ k1).mono ?_
    rintro e w2 ⟨v2, rfl, r2, _, k2⟩
    go_wp2_with fail
    refine (J2.out _ (k1.trans k2)).mono ?_
    rintro e w3 ⟨v3, rfl, r3, k3⟩
    have hS := same11 v2 v3 _ _ w3 (r2.grew k3) r3 (sumN_digs bs) (sumN_digs bs)
    rw [decide_eq_true rfl] at hS
    have HK := toHid (k1.trans (k2.trans k3))
    clear r2 r3 k1 k2 k3
    go_wp2_with fail
    refine hS.mono ?_
    rintro e w4 ⟨rfl, rfl⟩
    clear hS
    go_wp2_with fail
    go_ret
    exact ⟨rfl, below_kept HK.out (Nat.le_refl _)⟩
  · have g1 : (n : Int) > 3000 := by omega
    clear hb hbd hT hL
    go_enter Tryd.func3, Tryd.ntmps3
    go_wp2_with fail
    refine hA.mono ?_
    rintro e w1 ⟨rfl, k1⟩
    have HK := toHid k1
    clear hA k1
    go_wp2_with fail
    go_ret
    exact ⟨rfl, below_kept HK.out (Nat.le_refl _)⟩

end Go.Proofs.YtpgglgdenilciaaDoor
