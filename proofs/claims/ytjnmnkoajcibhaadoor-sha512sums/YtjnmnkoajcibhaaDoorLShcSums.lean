/- The law Sha512Sums, walked. -/
import Derived.Test.YtjnmnkoajcibhaaDoorShc9
namespace Go.Proofs.YtjnmnkoajcibhaaDoor
open Go.RowKit

set_option maxRecDepth 20000 in
set_option maxHeartbeats 2000000 in
theorem walkSha512Sums (v : Value) (bs : List Nat) (w : World) (hb : Row .u8 w v bs) (hbd : Digs 256 bs) (hT : Tab12 w) :
    Calls Tryd.prog 3 #[v] w fun e w' => e = .returned (.bool true) ∧ Below w.heap.size w w' := by
  have hA := awake12 w hT
  obtain ⟨ao, n, cap, rfl, hL, _, _, _, _⟩ := hb.open
  by_cases hn : n ≤ 3000
  · have g1 : ¬ (n : Int) > 3000 := by omega
    have J1 : Hid (∀ W, Kept Nought w W → Calls Tryd.prog 9 #[.slice ao n cap] W fun e w' => ∃ v', e = .returned v' ∧ OwnB w' W.heap.size v' (sumM false bs) ∧ Kept Nought W w') := fun W k => mSum _ bs W (hT.grew k) (hb.grew k) hbd (by have := hL.out; omega)
    have J2 : Hid (∀ W, Kept Nought w W → Calls Tryd.prog 10 #[.slice ao n cap, .bool false] W fun e w' => ∃ v', e = .returned v' ∧ Row .u8 w' v' (sumM false bs) ∧ Kept Nought W w') := fun W k => r12SumAny false _ bs W (hb.grew k) hbd (by have := hL.out; omega)
    have J3 : Hid (∀ W, Kept Nought w W → Calls Tryd.prog 11 #[.slice ao n cap] W fun e w' => ∃ v', e = .returned v' ∧ OwnB w' W.heap.size v' (sumM true bs) ∧ Kept Nought W w') := fun W k => mSum384 _ bs W (hT.grew k) (hb.grew k) hbd (by have := hL.out; omega)
    have J4 : Hid (∀ W, Kept Nought w W → Calls Tryd.prog 10 #[.slice ao n cap, .bool true] W fun e w' => ∃ v', e = .returned v' ∧ Row .u8 w' v' (sumM true bs) ∧ Kept Nought W w') := fun W k => r12SumAny true _ bs W (hb.grew k) hbd (by have := hL.out; omega)
    clear hb hbd hT hL
    go_enter Tryd.func3, Tryd.ntmps3
    go_wp2_with fail
    refine hA.mono ?_
    rintro e w1 ⟨rfl, k1⟩
    clear hA
    go_wp2_with fail
    refine (J1.out _ k1).mono ?_
    rintro e w2 ⟨v2, rfl, r2, k2⟩
    go_wp2_with fail
    refine (J2.out _ (k1.trans k2)).mono ?_
    rintro e w3 ⟨v3, rfl, r3, k3⟩
    have hS := same12 v2 v3 _ _ w3 (r2.row.grew k3) r3 (sumM_digs false bs) (sumM_digs false bs)
    rw [decide_eq_true rfl] at hS
    have HK := toHid (k1.trans (k2.trans k3))
    clear r2 r3 k1 k2 k3 J1 J2
    go_wp2_with fail
    refine hS.mono ?_
    rintro e w4 ⟨rfl, rfl⟩
    clear hS
    go_wp2_with fail
    refine (J3.out _ HK.out).mono ?_
    rintro e w5 ⟨v5, rfl, r5, k5⟩
    go_wp2_with fail
    refine (J4.out _ (HK.out.trans k5)).mono ?_
    rintro e w6 ⟨v6, rfl, r6, k6⟩
    have hS := same12 v5 v6 _ _ w6 (r5.row.grew k6) r6 (sumM_digs true bs) (sumM_digs true bs)
    rw [decide_eq_true rfl] at hS
    have HK6 := toHid (HK.out.trans (k5.trans k6))
    clear r5 r6 k5 k6 J3 J4
    go_wp2_with fail
    refine hS.mono ?_
    rintro e w7 ⟨rfl, rfl⟩
    clear hS
    go_wp2_with fail
    go_ret
    exact ⟨rfl, below_kept HK6.out (Nat.le_refl _)⟩
  · have g1 : (n : Int) > 3000 := by omega
    clear hb hbd hT hL
    go_enter Tryd.func3, Tryd.ntmps3
    go_wp2_with fail
    refine hA.mono ?_
    rintro e w1 ⟨rfl, k1⟩
    have HK := toHid k1
    clear hA k1
    go_wp2_with fail
    go_ret
    exact ⟨rfl, below_kept HK.out (Nat.le_refl _)⟩

end Go.Proofs.YtjnmnkoajcibhaaDoor
