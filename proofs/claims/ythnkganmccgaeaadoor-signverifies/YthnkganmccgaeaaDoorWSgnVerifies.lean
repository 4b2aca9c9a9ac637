/- The walk of the statement on signatures that verify, of the landed contracts. -/
import Derived.Test.YthnkganmccgaeaaDoorLaw25
import Derived.Test.YthnkganmccgaeaaDoorOpenRow
namespace Go.Proofs.YthnkganmccgaeaaDoor
open Go.RowKit

set_option maxRecDepth 20000 in
set_option maxHeartbeats 1000000 in
theorem wSignVerifies {T : World → Prop} (hT : Stands T) (hE : SEnc T) (hV : SVer T) (h : Int) (u : Value) (ms : List Nat) (x : Value) (em : List Nat) (w : World) (hu : Row .u8 w u ms) (hx : Row .u8 w x em) (dm : Digs 256 ms) (de : Digs 256 em) (hh : (Lit.int .i64 h).wf = true) (ht : T w) :
    Calls Tryd.prog 4 #[.int .i64 h, u, x] w fun e w' => e = .returned (.bool true) ∧ Below w.heap.size w w' := by
  obtain ⟨hh0, hh1⟩ := bounds_i64 hh
  obtain ⟨mo, M, mc, rfl, hM, _⟩ := hu.open
  obtain ⟨eo, L, ec, rfl, hL, _⟩ := hx.open
  have J0 := f25Awake hT hE w ht
  obtain ⟨R, hR⟩ : ∃ R : Bool, R = decide (siE h ms (L : Int) = 0 ∧ siL h ms (L : Int) = em) := ⟨_, rfl⟩
  have JF := toHid fun W (kk : Kept Nought w W) (hm : M ≤ 10000) (hl : L ≤ 10000) => hV h mo M mc ms eo L ec em R W hR (hT _ _ ht kk) hh0 hh1 (hu.grew kk) dm hm (hx.grew kk) de hl
  have JR := toHid fun W (kk : Kept Nought w W) (hm : M ≤ 10000) => r23Signed h (.slice mo M mc) ms eo L ec em R hR W (hu.grew kk) dm (by rw [hM.out]; omega) (hx.grew kk) de
  clear hu hx dm de hM hL hE hV hT hh hR
  by_cases hf : M ≤ 1000 ∧ L ≤ 1100
  · obtain ⟨hm, hl⟩ := hf
    have g1 : ¬ (M : Int) > 1000 := by omega
    have g1' : ¬ (1000 : Int) < (M : Int) := by omega
    have g2 : ¬ (L : Int) > 1100 := by omega
    have g2' : ¬ (1100 : Int) < (L : Int) := by omega
    go_enter Tryd.func4, Tryd.ntmps4
    go_wp2_with fail
    refine J0.mono ?_
    rintro e w1 ⟨rfl, k1⟩
    have HK1 := toHid k1
    have J2 := JF.out w1 HK1.out (by omega) (by omega)
    clear J0 k1
    go_wp2_with fail
    refine J2.mono ?_
    rintro e w4 ⟨rfl, k4⟩
    have HK4 := toHid (HK1.out.trans k4)
    have J3 := JR.out w4 HK4.out (by omega)
    clear J2 k4
    go_wp2_with fail
    refine J3.mono ?_
    rintro e w5 ⟨rfl, k5⟩
    have HK5 := toHid (HK4.out.trans k5)
    clear J3 k5
    go_wp2_with fail
    go_ret
    exact ⟨by first | rfl | simp | (cases R <;> rfl), below_kept HK5.out (Nat.le_refl _)⟩
  · by_cases h1 : M ≤ 1000
    · have g1 : ¬ (M : Int) > 1000 := by omega
      have g1' : ¬ (1000 : Int) < (M : Int) := by omega
      have g2 : (L : Int) > 1100 := by omega
      have g2' : (1100 : Int) < (L : Int) := by omega
      go_enter Tryd.func4, Tryd.ntmps4
      go_wp2_with fail
      refine J0.mono ?_
      rintro e w1 ⟨rfl, k1⟩
      have HK1 := toHid k1
      clear J0 k1 hf
      go_wp2_with fail
      go_ret
      exact ⟨rfl, below_kept HK1.out (Nat.le_refl _)⟩
    · have g1 : (M : Int) > 1000 := by omega
      have g1' : (1000 : Int) < (M : Int) := by omega
      go_enter Tryd.func4, Tryd.ntmps4
      go_wp2_with fail
      refine J0.mono ?_
      rintro e w1 ⟨rfl, k1⟩
      have HK1 := toHid k1
      clear J0 k1 hf
      go_wp2_with fail
      go_ret
      exact ⟨rfl, below_kept HK1.out (Nat.le_refl _)⟩

end Go.Proofs.YthnkganmccgaeaaDoor
