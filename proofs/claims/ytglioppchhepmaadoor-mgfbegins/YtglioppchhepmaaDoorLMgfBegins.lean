/- The law MgfBegins, walked. -/
import Derived.Test.YtglioppchhepmaaDoorMgf4
namespace Go.Proofs.YtglioppchhepmaaDoor
open Go.RowKit

set_option maxRecDepth 20000 in
set_option maxHeartbeats 2000000 in
/-- Where nothing is asked. -/
theorem beginsFree (h : Int) (ao : Option Addr) (L cap : Nat) (n more : Int) (w : World) (hT : TabH w) (hc : (L : Int) > 500 ∨ n < 0 ∨ more < 0 ∨ n > 700 ∨ more > 700) :
    Calls Tryd.prog 5 #[.int .i64 h, .slice ao L cap, .int .i64 n, .int .i64 more] w fun e w' => e = .returned (.bool true) ∧ Below w.heap.size w w' := by
  have hA := awake14 w hT
  clear hT
  by_cases c1 : (L : Int) > 500
  · clear hc
    go_enter Tryd.func5, Tryd.ntmps5
    go_wp2_with fail
    refine hA.mono ?_
    rintro e w1 ⟨rfl, k1⟩
    have HK := toHid k1
    clear hA k1
    go_wp2_with fail
    go_ret
    exact ⟨rfl, below_kept HK.out (Nat.le_refl _)⟩
  · have d1 : decide ((L : Int) > 500) = false := decide_eq_false c1
    by_cases c2 : n < 0
    · clear hc
      go_enter Tryd.func5, Tryd.ntmps5
      go_wp2_with fail
      refine hA.mono ?_
      rintro e w1 ⟨rfl, k1⟩
      have HK := toHid k1
      clear hA k1
      go_wp2_with fail
      go_ret
      exact ⟨rfl, below_kept HK.out (Nat.le_refl _)⟩
    · have d2 : decide (n < 0) = false := decide_eq_false c2
      by_cases c3 : more < 0
      · clear hc
        go_enter Tryd.func5, Tryd.ntmps5
        go_wp2_with fail
        refine hA.mono ?_
        rintro e w1 ⟨rfl, k1⟩
        have HK := toHid k1
        clear hA k1
        go_wp2_with fail
        go_ret
        exact ⟨rfl, below_kept HK.out (Nat.le_refl _)⟩
      · have d3 : decide (more < 0) = false := decide_eq_false c3
        by_cases c4 : n > 700
        · clear hc
          go_enter Tryd.func5, Tryd.ntmps5
          go_wp2_with fail
          refine hA.mono ?_
          rintro e w1 ⟨rfl, k1⟩
          have HK := toHid k1
          clear hA k1
          go_wp2_with fail
          go_ret
          exact ⟨rfl, below_kept HK.out (Nat.le_refl _)⟩
        · have d4 : decide (n > 700) = false := decide_eq_false c4
          have c5 : more > 700 := by omega
          clear hc
          go_enter Tryd.func5, Tryd.ntmps5
          go_wp2_with fail
          refine hA.mono ?_
          rintro e w1 ⟨rfl, k1⟩
          have HK := toHid k1
          clear hA k1
          go_wp2_with fail
          go_ret
          exact ⟨rfl, below_kept HK.out (Nat.le_refl _)⟩

set_option maxRecDepth 20000 in
set_option maxHeartbeats 2000000 in
theorem walkMgfBegins (h : Int) (v : Value) (bs : List Nat) (n more : Int) (w : World) (hb : Row .u8 w v bs) (hbd : Digs 256 bs) (hT : TabH w) :
    Calls Tryd.prog 5 #[.int .i64 h, v, .int .i64 n, .int .i64 more] w fun e w' => e = .returned (.bool true) ∧ Below w.heap.size w w' := by
  obtain ⟨ao, L, cap, rfl, hL, _, _, _, _⟩ := hb.open
  by_cases hc : (L : Int) > 500 ∨ n < 0 ∨ more < 0 ∨ n > 700 ∨ more > 700
  · exact beginsFree h ao L cap n more w hT hc
  · obtain ⟨n, rfl⟩ : ∃ m : Nat, n = (m : Int) := ⟨n.toNat, by omega⟩
    obtain ⟨more, rfl⟩ : ∃ m : Nat, more = (m : Int) := ⟨more.toNat, by omega⟩
    have c1 : ¬ (L : Int) > 500 := by omega
    have c2 : ¬ (n : Int) < 0 := by omega
    have c3 : ¬ (more : Int) < 0 := by omega
    have c4 : ¬ (n : Int) > 700 := by omega
    have c5 : ¬ (more : Int) > 700 := by omega
    have d1 : decide ((L : Int) > 500) = false := decide_eq_false c1
    have d2 : decide ((n : Int) < 0) = false := decide_eq_false c2
    have d3 : decide ((more : Int) < 0) = false := decide_eq_false c3
    have d4 : decide ((n : Int) > 700) = false := decide_eq_false c4
    have d5 : decide ((more : Int) > 700) = false := decide_eq_false c5
    obtain ⟨m, hm⟩ : ∃ m, m = n + more := ⟨_, rfl⟩
    have gm : (n : Int) + (more : Int) = (m : Int) := by omega
    have gnm : n ≤ m := by omega
    have gnm' : (n : Int) ≤ (m : Int) := by omega
    have hA := awake14 w hT
    have hLb : bs.length ≤ 900000 := by have := hL.out; omega
    have eE : mskE h m = mskE h n := by
      unfold mskE
      rw [if_neg (show ¬ (m : Int) < 0 by omega), if_neg (show ¬ (m : Int) > 10000 by omega), if_neg (show ¬ (n : Int) < 0 by omega), if_neg (show ¬ (n : Int) > 10000 by omega)]
    have J1 : Hid (∀ W, Kept Nought w W → Calls Tryd.prog 7 #[.int .i64 h, .slice ao L cap, .int .i64 (n : Int)] W fun e w' => ∃ v', e = .returned (.tuple #[v', .int .i64 (mskE h n : Nat)]) ∧ Row .u8 w' v' (mskA h bs n) ∧ Kept Nought W w') := fun W k => gMaskAny h _ bs n W (hT.grew k) (hb.grew k) hbd hLb
    have J2 : Hid (∀ W, Kept Nought w W → Calls Tryd.prog 7 #[.int .i64 h, .slice ao L cap, .int .i64 (m : Int)] W fun e w' => ∃ v', e = .returned (.tuple #[v', .int .i64 (mskE h n : Nat)]) ∧ Row .u8 w' v' (mskA h bs m) ∧ Kept Nought W w') := fun W k => by
      have := gMaskAny h _ bs m W (hT.grew k) (hb.grew k) hbd hLb
      rw [eE] at this
      exact this
    clear hc hb hbd hT hL hLb hm
    by_cases hE : mskE h n = 0
    · have L1 : Hid ((mskA h bs n).length = n) := mskA_length bs hE
      have L2 : Hid ((mskA h bs m).length = m) := mskA_length bs (eE.trans hE)
      have HB : Hid ((mskA h bs m).take n = mskA h bs n) := by
        unfold Hid
        rw [mskA_good bs hE, mskA_good bs (eE.trans hE)]
        exact mskN_begins bs (mskE_zero hE).1 gnm
      have HD : Hid (Digs 256 (mskA h bs n)) := mskA_digs h bs n
      rw [hE] at J1 J2
      generalize mskA h bs n = xs at *
      generalize mskA h bs m = ys at *
      clear hE eE
      go_enter Tryd.func5, Tryd.ntmps5
      go_wp2_with fail
      refine hA.mono ?_
      rintro e w1 ⟨rfl, k1⟩
      clear hA
      go_wp2_with fail
      refine (J1.out _ k1).mono ?_
      rintro e w2 ⟨v2, rfl, r2, k2⟩
      go_wp2_with fail
      refine (J2.out _ (k1.trans k2)).mono ?_
      rintro e w3 ⟨v3, rfl, r3, k3⟩
      obtain ⟨xo, xl, xc, rfl, hxl, _, _, _, _⟩ := r2.open
      obtain rfl : xl = n := hxl.out.symm.trans L1.out
      obtain ⟨yo, yl, yc, rfl, hyl, hyc, _, hyn, _⟩ := r3.open
      obtain rfl : yl = m := hyl.out.symm.trans L2.out
      have r4 := r3.cut (m := xl) (by rw [L2.out]; omega)
      rw [HB.out] at r4
      have hS := toHid (r13Same _ _ _ _ w3 (r2.grew k3) r4 HD.out HD.out)
      rw [decide_eq_true rfl] at hS
      have HK := toHid (k1.trans (k2.trans k3))
      clear r2 r3 r4 k1 k2 k3 J1 J2 hxl hyl
      go_wp2_with fail
      refine hS.out.mono ?_
      rintro e w4 ⟨rfl, rfl⟩
      clear hS
      go_wp2_with fail
      go_ret
      exact ⟨rfl, below_kept HK.out (Nat.le_refl _)⟩
    · have hE' : ¬ ((mskE h n : Nat) : Int) = 0 := by omega
      generalize mskE h n = E at *
      clear hE eE
      go_enter Tryd.func5, Tryd.ntmps5
      go_wp2_with fail
      refine hA.mono ?_
      rintro e w1 ⟨rfl, k1⟩
      clear hA
      go_wp2_with fail
      refine (J1.out _ k1).mono ?_
      rintro e w2 ⟨v2, rfl, r2, k2⟩
      go_wp2_with fail
      refine (J2.out _ (k1.trans k2)).mono ?_
      rintro e w3 ⟨v3, rfl, r3, k3⟩
      have HK := toHid (k1.trans (k2.trans k3))
      clear r2 r3 k1 k2 k3 J1 J2
      go_wp2_with fail
      go_ret
      exact ⟨rfl, below_kept HK.out (Nat.le_refl _)⟩

end Go.Proofs.YtglioppchhepmaaDoor
