/- The law MgfMasks, walked. -/
import Derived.Test.YtglioppchhepmaaDoorMgf4
namespace Go.Proofs.YtglioppchhepmaaDoor
open Go.RowKit

set_option maxRecDepth 20000 in
set_option maxHeartbeats 2000000 in
theorem walkMgfMasks (h : Int) (v : Value) (bs : List Nat) (n : Int) (w : World) (hb : Row .u8 w v bs) (hbd : Digs 256 bs) (hT : TabH w) :
    Calls Tryd.prog 3 #[.int .i64 h, v, .int .i64 n] w fun e w' => e = .returned (.bool true) ∧ Below w.heap.size w w' := by
  have hA := awake14 w hT
  obtain ⟨ao, L, cap, rfl, hL, _, _, _, _⟩ := hb.open
  by_cases hL5 : L ≤ 500
  · have g1 : ¬ (L : Int) > 500 := by omega
    have gf1 : decide ((L : Int) > 500) = false := decide_eq_false g1
    have J1 : Hid (∀ W, Kept Nought w W → Calls Tryd.prog 7 #[.int .i64 h, .slice ao L cap, .int .i64 n] W fun e w' => ∃ v', e = .returned (.tuple #[v', .int .i64 (mskE h n : Nat)]) ∧ Row .u8 w' v' (mskA h bs n) ∧ Kept Nought W w') := fun W k => gMaskAny h _ bs n W (hT.grew k) (hb.grew k) hbd (by have := hL.out; omega)
    have J2 : Hid (∀ W, Kept Nought w W → Calls Tryd.prog 8 #[.int .i64 h, .slice ao L cap, .int .i64 n] W fun e w' => ∃ v', e = .returned (.tuple #[v', .int .i64 (mskE h n : Nat)]) ∧ Row .u8 w' v' (mskA h bs n) ∧ Kept Nought W w') := fun W k => rMaskAny h _ bs n W (hb.grew k) hbd (by have := hL.out; omega)
    have HD : Hid (Digs 256 (mskA h bs n)) := mskA_digs h bs n
    generalize mskA h bs n = zs at *
    generalize mskE h n = E at *
    clear hb hbd hT hL
    by_cases c1 : n > 1500
    · by_cases c2 : n ≤ 10000
      · have c1' : (1500 : Int) < n := c1
        go_enter Tryd.func3, Tryd.ntmps3
        go_wp2_with fail
        refine hA.mono ?_
        rintro e w1 ⟨rfl, k1⟩
        have HK := toHid k1
        clear hA k1 J1 J2
        go_wp2_with fail
        go_ret
        exact ⟨rfl, below_kept HK.out (Nat.le_refl _)⟩
      · have c1' : (1500 : Int) < n := c1
        go_enter Tryd.func3, Tryd.ntmps3
        go_wp2_with fail
        refine hA.mono ?_
        rintro e w1 ⟨rfl, k1⟩
        clear hA
        go_wp2_with fail
        refine (J1.out _ k1).mono ?_
        rintro e w2 ⟨v2, rfl, r2, k2⟩
        go_wp2_with fail
        refine (J2.out _ (k1.trans k2)).mono ?_
        rintro e w3 ⟨v3, rfl, r3, k3⟩
        have hS := toHid (r13Same v2 v3 _ _ w3 (r2.grew k3) r3 HD.out HD.out)
        rw [decide_eq_true rfl] at hS
        have HK := toHid (k1.trans (k2.trans k3))
        clear r2 r3 k1 k2 k3 J1 J2
        go_wp2_with fail
        refine hS.out.mono ?_
        rintro e w4 ⟨rfl, rfl⟩
        clear hS
        go_wp2_with fail
        go_ret
        exact ⟨rfl, below_kept HK.out (Nat.le_refl _)⟩
    · have c1' : ¬ (1500 : Int) < n := c1
      go_enter Tryd.func3, Tryd.ntmps3
      go_wp2_with fail
      refine hA.mono ?_
      rintro e w1 ⟨rfl, k1⟩
      clear hA
      go_wp2_with fail
      refine (J1.out _ k1).mono ?_
      rintro e w2 ⟨v2, rfl, r2, k2⟩
      go_wp2_with fail
      refine (J2.out _ (k1.trans k2)).mono ?_
      rintro e w3 ⟨v3, rfl, r3, k3⟩
      have hS := toHid (r13Same v2 v3 _ _ w3 (r2.grew k3) r3 HD.out HD.out)
      rw [decide_eq_true rfl] at hS
      have HK := toHid (k1.trans (k2.trans k3))
      clear r2 r3 k1 k2 k3 J1 J2
      go_wp2_with fail
      refine hS.out.mono ?_
      rintro e w4 ⟨rfl, rfl⟩
      clear hS
      go_wp2_with fail
      go_ret
      exact ⟨rfl, below_kept HK.out (Nat.le_refl _)⟩
  · have g1 : (L : Int) > 500 := by omega
    clear hb hbd hT hL
    go_enter Tryd.func3, Tryd.ntmps3
    go_wp2_with fail
    refine hA.mono ?_
    rintro e w1 ⟨rfl, k1⟩
    have HK := toHid k1
    clear hA k1
    go_wp2_with fail
    go_ret
    exact ⟨rfl, below_kept HK.out (Nat.le_refl _)⟩

end Go.Proofs.YtglioppchhepmaaDoor
