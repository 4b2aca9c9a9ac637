/- The walk of the statement on public keys, of the landed contracts. -/
import Derived.Test.YtiljkgoafknefaaGreatLaw19
import Derived.Test.YtiljkgoafknefaaGreatOpenRow
namespace Go.Proofs.YtiljkgoafknefaaGreat
open Go.RowKit

set_option maxRecDepth 20000 in
set_option maxHeartbeats 1000000 in
theorem wKeyPublic (hC : KCom) (hS : KSiz) (hK : KChk) (hP : KPub) (u : Value) (xs : List Nat) (e : Int) (w : World) (hu : Row .u64 w u xs) (hdx : Digs 18446744073709551616 xs) (he : (Lit.int .u64 e).wf = true) :
    Calls Tryz.prog 3 #[u, .int .u64 e] w fun e w' => e = .returned (.bool true) ∧ Below w.heap.size w w' := by
  obtain ⟨he0, he1⟩ := bounds_u64 he
  obtain ⟨e, rfl⟩ := Int.eq_ofNat_of_zero_le he0
  have heb : e < 18446744073709551616 := by omega
  obtain ⟨ao, L, cap, rfl, hL, _, _, _, _⟩ := hu.open
  have hA := f19Awake hC hS hK w
  obtain ⟨E, hE⟩ : ∃ E, E = pubE xs e := ⟨_, rfl⟩
  have JF := toHid fun W (k : Kept Nought w W) (hl : L ≤ 1000) => hP ao L cap xs e W heb (hu.grew k) hdx hl
  have JR := toHid fun W (k : Kept Nought w W) (hl : L ≤ 1000) => r18Public ao L cap xs e heb E hE W (hu.grew k) hdx (by omega)
  rw [← hE] at JF
  clear hu hdx hL he hE hC hS hK hP
  by_cases hf : fewL L
  · have hl := hf.le
    have HF := toHid fun W => few19a ao L cap W true (iff_of_true rfl hf)
    clear hf
    go_enter Tryz.func3, Tryz.ntmps3
    go_wp2_with fail
    refine hA.mono ?_
    rintro r w1 ⟨rfl, k1⟩
    have HK2 := toHid (k1.alloc (.cells #[.slice ao L cap] 23))
    have J1 := HF.out w1
    clear hA k1
    go_wp2_with fail
    refine J1.mono ?_
    rintro r w2 ⟨rfl, rfl⟩
    generalize w1.alloc (.cells #[.slice ao L cap] 23) = w3 at *
    have J2 := JF.out w3 HK2.out (by omega)
    clear J1
    go_wp2_with fail
    refine J2.mono ?_
    rintro r w4 ⟨rfl, k4⟩
    have HK4 := toHid (HK2.out.trans k4)
    have J3 := JR.out w4 HK4.out (by omega)
    clear J2 k4
    go_wp2_with fail
    refine J3.mono ?_
    rintro r w5 ⟨rfl, k5⟩
    have HK5 := toHid (HK4.out.trans k5)
    clear J3 k5
    go_wp2_with fail
    go_ret
    exact ⟨by first | rfl | simp, below_kept HK5.out (Nat.le_refl _)⟩
  · have HF := toHid fun W => few19a ao L cap W false (iff_of_false (by decide) hf)
    go_enter Tryz.func3, Tryz.ntmps3
    go_wp2_with fail
    refine hA.mono ?_
    rintro r w1 ⟨rfl, k1⟩
    have HK2 := toHid (k1.alloc (.cells #[.slice ao L cap] 23))
    have J1 := HF.out w1
    clear hA k1
    go_wp2_with fail
    refine J1.mono ?_
    rintro r w2 ⟨rfl, rfl⟩
    clear J1 JF JR
    go_wp2_with fail
    go_ret
    exact ⟨rfl, below_kept HK2.out (Nat.le_refl _)⟩

end Go.Proofs.YtiljkgoafknefaaGreat
