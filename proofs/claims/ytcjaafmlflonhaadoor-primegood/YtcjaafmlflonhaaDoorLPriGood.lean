/- The walk of the statement on which numbers may be primes: it returns true for any number and any exponent. -/
import Derived.Test.YtcjaafmlflonhaaDoorLaw18
import Derived.Test.YtcjaafmlflonhaaDoorOpenRow
import Derived.Test.YtcjaafmlflonhaaDoorNob1
namespace Go.Proofs.YtcjaafmlflonhaaDoor
open Go.RowKit

set_option maxRecDepth 20000 in
set_option maxHeartbeats 1000000 in
theorem walkPrimeGood (u : Value) (xs : List Nat) (e : Int) (w : World) (hu : Row .u64 w u xs) (hdx : Digs 18446744073709551616 xs) (he : (Lit.int .u64 e).wf = true) (_ : NoTab w) :
    Calls Tryd.prog 4 #[u, .int .u64 e] w fun e w' => e = .returned (.bool true) ∧ Below w.heap.size w w' := by
  obtain ⟨he0, he1⟩ := bounds_u64 he
  obtain ⟨e, rfl⟩ := Int.eq_ofNat_of_zero_le he0
  have heb : e < 18446744073709551616 := by omega
  obtain ⟨ao, L, cap, rfl, hL, _, _, _, _⟩ := hu.open
  obtain ⟨B, hB⟩ : ∃ B : Bool, B = true ↔ goodN (val 18446744073709551616 xs) e := by
    by_cases h : goodN (val 18446744073709551616 xs) e
    · exact ⟨true, fun _ => h, fun _ => rfl⟩
    · exact ⟨false, (fun e => by cases e), fun e => absurd e h⟩
  have hA := f18Awake w
  have JF := toHid fun W (k : Kept Nought w W) (hl : L ≤ 6) => pGood ao L cap xs e heb B hB W (hu.grew k) hdx (by omega)
  have JR := toHid fun W (k : Kept Nought w W) (hl : L ≤ 6) => r18Good ao L cap xs e heb B hB W (hu.grew k) hdx (by omega)
  clear hu hdx hL hB he
  by_cases hl : L ≤ 6
  · have g1 : ¬ (L : Int) > 6 := by omega
    have g1' : ¬ (6 : Int) < (L : Int) := by omega
    go_enter Tryd.func4, Tryd.ntmps4
    go_wp2_with fail
    refine hA.mono ?_
    rintro r w1 ⟨rfl, k1⟩
    have HK1 := toHid k1
    have hF := JF.out w1 HK1.out hl
    clear hA k1
    go_wp2_with fail
    refine hF.mono ?_
    rintro r w3 ⟨rfl, k3⟩
    have HK3 := toHid (HK1.out.trans k3)
    have hG := JR.out w3 HK3.out hl
    clear hF k3
    go_wp2_with fail
    refine hG.mono ?_
    rintro r w4 ⟨rfl, k4⟩
    have HK4 := toHid (HK3.out.trans k4)
    clear hG k4
    go_wp2_with fail
    go_ret
    exact ⟨by first | rfl | simp | (cases B <;> rfl), below_kept HK4.out (Nat.le_refl _)⟩
  · have g1 : (L : Int) > 6 := by omega
    have g1' : (6 : Int) < (L : Int) := by omega
    go_enter Tryd.func4, Tryd.ntmps4
    go_wp2_with fail
    refine hA.mono ?_
    rintro r w1 ⟨rfl, k1⟩
    have HK1 := toHid k1
    clear hA k1 JF JR
    go_wp2_with fail
    go_ret
    exact ⟨rfl, below_kept HK1.out (Nat.le_refl _)⟩

end Go.Proofs.YtcjaafmlflonhaaDoor
