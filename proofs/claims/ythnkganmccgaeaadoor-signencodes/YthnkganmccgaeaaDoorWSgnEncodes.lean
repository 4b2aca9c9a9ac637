/- The walk of the statement on what stands in a signature, of the landed contracts. -/
import Derived.Test.YthnkganmccgaeaaDoorLaw25
import Derived.Test.YthnkganmccgaeaaDoorOpenRow
namespace Go.Proofs.YthnkganmccgaeaaDoor
open Go.RowKit

set_option maxRecDepth 20000 in
set_option maxHeartbeats 1000000 in
theorem wSignEncodes {T : World → Prop} (hT : Stands T) (hE : SEnc T) (h : Int) (u : Value) (ms : List Nat) (k : Int) (w : World) (hu : Row .u8 w u ms) (dm : Digs 256 ms) (hh : (Lit.int .i64 h).wf = true) (hk : (Lit.int .i64 k).wf = true) (ht : T w) :
    Calls Tryd.prog 3 #[.int .i64 h, u, .int .i64 k] w fun e w' => e = .returned (.bool true) ∧ Below w.heap.size w w' := by
  obtain ⟨hh0, hh1⟩ := bounds_i64 hh
  obtain ⟨hk0, hk1⟩ := bounds_i64 hk
  obtain ⟨mo, M, mc, rfl, hM, _⟩ := hu.open
  have J0 := f25Awake hT hE w ht
  have JF := toHid fun W (kk : Kept Nought w W) (hm : M ≤ 10000) => hE h mo M mc ms k W (hT _ _ ht kk) hh0 hh1 hk0 hk1 (hu.grew kk) dm hm
  have JR := toHid fun W (kk : Kept Nought w W) (hm : M ≤ 10000) => r23Sign h (.slice mo M mc) ms k W (hu.grew kk) dm (by rw [hM.out]; omega)
  have HDG := toHid (siL_digs h ms k)
  generalize siE h ms k = E at *
  generalize siL h ms k = RL at *
  clear hu dm hM hE hT hh hk
  by_cases hf : M ≤ 1000
  · have g1 : ¬ (M : Int) > 1000 := by omega
    have g1' : ¬ (1000 : Int) < (M : Int) := by omega
    go_enter Tryd.func3, Tryd.ntmps3
    go_wp2_with fail
    refine J0.mono ?_
    rintro e w1 ⟨rfl, k1⟩
    have HK1 := toHid k1
    have J2 := JF.out w1 HK1.out (by omega)
    clear J0 k1
    go_wp2_with fail
    refine J2.mono ?_
    rintro e w4 ⟨v4, rfl, ⟨r4, _⟩, k4⟩
    obtain ⟨co, cn, cc, rfl, _⟩ := r4.open
    have HR4 := toHid r4
    have HK4 := toHid (HK1.out.trans k4)
    have J3 := JR.out w4 HK4.out (by omega)
    clear J2 r4 k4
    go_wp2_with fail
    refine J3.mono ?_
    rintro e w5 ⟨v5, rfl, o5, k5⟩
    have r5 := o5.row
    obtain ⟨fo, fn, fc, rfl, _⟩ := r5.open
    have HK5 := toHid (HK4.out.trans k5)
    have JM := r13Same _ _ _ _ w5 (HR4.out.grew k5) r5 HDG.out HDG.out
    rw [decide_eq_true rfl] at JM
    clear J3 r5 o5 k5
    go_wp2_with fail
    refine JM.mono ?_
    rintro e w6 ⟨rfl, rfl⟩
    clear JM
    go_wp2_with fail
    go_ret
    exact ⟨by first | rfl | simp, below_kept HK5.out (Nat.le_refl _)⟩
  · have g1 : (M : Int) > 1000 := by omega
    have g1' : (1000 : Int) < (M : Int) := by omega
    go_enter Tryd.func3, Tryd.ntmps3
    go_wp2_with fail
    refine J0.mono ?_
    rintro e w1 ⟨rfl, k1⟩
    have HK1 := toHid k1
    clear J0 k1 hf
    go_wp2_with fail
    go_ret
    exact ⟨rfl, below_kept HK1.out (Nat.le_refl _)⟩

end Go.Proofs.YthnkganmccgaeaaDoor
