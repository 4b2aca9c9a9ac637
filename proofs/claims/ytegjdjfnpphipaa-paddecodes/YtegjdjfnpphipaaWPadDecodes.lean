/- The walk of the statement on bytes that are taken apart, of the landed contracts. -/
import Derived.Test.YtegjdjfnpphipaaLaw23
import Derived.Test.YtegjdjfnpphipaaOpenRow
namespace Go.Proofs.Ytegjdjfnpphipaa
open Go.RowKit

set_option maxRecDepth 100000 in
set_option maxHeartbeats 4000000 in
theorem wPadDecodes (hD : DDec) (u : Value) (ms : List Nat) (w : World) (hu : Row .u8 w u ms) (dm : Digs 256 ms) :
    Calls Try.prog 4 #[u] w fun e w' => e = .returned (.bool true) ∧ Below w.heap.size w w' := by
  obtain ⟨mo, M, mc, rfl, hM, _⟩ := hu.open
  have J0 := f23Awake hD w
  have JF := toHid fun W (k : Kept Nought w W) (hm : M ≤ 10000) => hD mo M mc ms W (hu.grew k) dm hm
  have JR := toHid fun W (k : Kept Nought w W) (hm : M ≤ 10000) => r23Unpad (.slice mo M mc) ms W (hu.grew k) (by rw [hM.out]; omega)
  have HDG := toHid (unL_digs dm)
  generalize unE ms = E at *
  generalize unL ms = RL at *
  clear hu dm hM hD
  by_cases hf : M ≤ 1200
  · have HFEW := toHid fun W => few23a mo M mc W true (iff_of_true rfl hf)
    go_enter Try.func4, Try.ntmps4
    go_wp2_with fail
    refine J0.mono ?_
    rintro e w1 ⟨rfl, k1⟩
    have HK2 := toHid (k1.alloc (.cells #[.slice mo M mc] 22))
    have J1 := HFEW.out w1
    clear J0 k1
    go_wp2_with fail
    refine J1.mono ?_
    rintro e w2 ⟨rfl, rfl⟩
    generalize w1.alloc (.cells #[.slice mo M mc] 22) = w3 at *
    have J2 := JF.out w3 HK2.out (by omega)
    clear J1
    go_wp2_with fail
    refine J2.mono ?_
    rintro e w4 ⟨v4, rfl, ⟨r4, _⟩, k4⟩
    obtain ⟨co, cn, cc, rfl, _⟩ := r4.open
    have HR4 := toHid r4
    have HK4 := toHid (HK2.out.trans k4)
    have J3 := JR.out w4 HK4.out (by omega)
    clear J2 r4 k4
    go_wp2_with fail
    refine J3.mono ?_
    rintro e w5 ⟨v5, rfl, o5, k5⟩
    have r5 := o5.row
    obtain ⟨fo, fn, fc, rfl, _⟩ := r5.open
    have HK5 := toHid (HK4.out.trans k5)
    have JM := r13Same _ _ _ _ w5 (HR4.out.grew k5) r5 HDG.out HDG.out
    rw [decide_eq_true rfl] at JM
    clear J3 r5 o5 k5
    go_wp2_with fail
    refine JM.mono ?_
    rintro e w6 ⟨rfl, rfl⟩
    clear JM
    go_wp2_with fail
    go_ret
    exact ⟨by first | rfl | simp, below_kept HK5.out (Nat.le_refl _)⟩
  · have HFEW := toHid fun W => few23a mo M mc W false (iff_of_false (by decide) hf)
    go_enter Try.func4, Try.ntmps4
    go_wp2_with fail
    refine J0.mono ?_
    rintro e w1 ⟨rfl, k1⟩
    have HK2 := toHid (k1.alloc (.cells #[.slice mo M mc] 22))
    have J1 := HFEW.out w1
    clear J0 k1 hf
    go_wp2_with fail
    refine J1.mono ?_
    rintro e w2 ⟨rfl, rfl⟩
    clear J1
    go_wp2_with fail
    go_ret
    exact ⟨rfl, below_kept HK2.out (Nat.le_refl _)⟩

end Go.Proofs.Ytegjdjfnpphipaa
