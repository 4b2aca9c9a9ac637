/- The walk of the statement on Of, of the landed contracts. -/
import Derived.Test.YtiljkgoafknefaaGreatLaw19b
import Derived.Test.YtiljkgoafknefaaGreatOpenRow
namespace Go.Proofs.YtiljkgoafknefaaGreat
open Go.RowKit

set_option maxRecDepth 40000 in
set_option maxHeartbeats 2000000 in
theorem wKeyOf (hC : KCom) (hS : KSiz) (hK : KChk) (hO : KOfC) (u : Value) (xs : List Nat) (v : Value) (ys : List Nat) (e : Int) (w : World) (hu : Row .u64 w u xs) (hv : Row .u64 w v ys) (hdx : Digs 18446744073709551616 xs) (hdy : Digs 18446744073709551616 ys) (he : (Lit.int .u64 e).wf = true) :
    Calls Tryz.prog 4 #[u, v, .int .u64 e] w fun e w' => e = .returned (.bool true) ∧ Below w.heap.size w w' := by
  obtain ⟨he0, he1⟩ := bounds_u64 he
  obtain ⟨e, rfl⟩ := Int.eq_ofNat_of_zero_le he0
  have heb : e < 18446744073709551616 := by omega
  obtain ⟨ao, L, cap, rfl, hL, _, _, _, _⟩ := hu.open
  obtain ⟨bo, M, dap, rfl, hM, _, _, _, _⟩ := hv.open
  have hA := f19Awake hC hS hK w
  obtain ⟨P, hP⟩ : ∃ P, P = val 18446744073709551616 xs := ⟨_, rfl⟩
  obtain ⟨Q, hQ⟩ : ∃ Q, Q = val 18446744073709551616 ys := ⟨_, rfl⟩
  have JF := toHid fun W (k : Kept Nought w W) (hl : L ≤ 1000) (hm : M ≤ 1000) => (hO ao bo L M cap dap xs ys P Q e W hP hQ heb (hu.grew k) (hv.grew k) hdx hdy hl hm).mono fun _ _ h => of19 h
  have JR := toHid fun W (k : Kept Nought w W) (hl : L ≤ 1000) (hm : M ≤ 1000) => (r18Of ao bo L M cap dap xs ys P Q e hP hQ heb W (hu.grew k) (hv.grew k) hdx hdy (by omega) (by omega)).mono fun _ _ h => of19 h
  clear hu hv hdx hdy hL hM he hC hS hK hO hP hQ he0 he1 heb
  by_cases hf : fewL L ∧ fewL M
  · have hl := hf.1.le
    have hm := hf.2.le
    have HF := toHid fun W => few19b ao bo L M cap dap W true (iff_of_true rfl hf)
    clear hf
    go_enter Tryz.func4, Tryz.ntmps4
    go_wp2_with fail
    refine hA.mono ?_
    rintro r w1 ⟨rfl, k1⟩
    have HK2 := toHid (k1.alloc (.cells #[.slice ao L cap, .slice bo M dap] 23))
    have J1 := HF.out w1
    clear hA k1
    go_wp2_with fail
    refine J1.mono ?_
    rintro r w2 ⟨rfl, rfl⟩
    generalize w1.alloc (.cells #[.slice ao L cap, .slice bo M dap] 23) = w3 at *
    have J2 := JF.out w3 HK2.out (by omega) (by omega)
    clear J1
    go_wp2_with fail
    refine J2.mono ?_
    rintro r w4 ⟨t, E, rfl, l, hr4, hs4, _, k4⟩
    obtain ⟨W4, hW4⟩ : ∃ W4, W4 = w4.alloc (.cells t.v 32) := ⟨_, rfl⟩
    have kk4 : Kept Nought w4 W4 := by rw [hW4]; exact (Kept.refl Nought w4).alloc _
    have hx4 : W4.heap[w4.heap.size]? = some (.cells t.v 32 (0, 0)) := by rw [hW4]; exact heap_alloc_new _ _
    have HR4 := toHid (hr4.grew kk4)
    have HX4 := toHid hx4
    have HSA := toHid hs4
    have HK4 := toHid ((HK2.out.trans k4).trans kk4)
    have J3 := JR.out W4 HK4.out (by omega) (by omega)
    have HW4 := toHid hW4
    clear J2 k4 hr4 hs4 kk4 hx4 hW4
    unfold KS.v at HW4 ⊢
    go_wp2_with (rw [← HW4.out])
    refine J3.mono ?_
    rintro r w5 ⟨s, E', rfl, m, hr5, hs5, _, k5⟩
    obtain ⟨rfl, he2, rfl⟩ := HSA.out.uniq hs5
    obtain ⟨W5, hW5⟩ : ∃ W5, W5 = w5.alloc (.cells s.v 32) := ⟨_, rfl⟩
    have kk5 : Kept Nought w5 W5 := by rw [hW5]; exact (Kept.refl Nought w5).alloc _
    have hx5 : W5.heap[w5.heap.size]? = some (.cells s.v 32 (0, 0)) := by rw [hW5]; exact heap_alloc_new _ _
    have hx4 : W5.heap[w4.heap.size]? = some (.cells t.v 32 (0, 0)) := ((k5.trans kk5).block _ (lt_of_block HX4.out) (fun f => f)).trans HX4.out
    obtain ⟨c0, c1, c2, c3, c4, c5, c6, c7⟩ := cells8 hx4
    obtain ⟨d0, d1, d2, d3, d4, d5, d6, d7⟩ := cells8 hx5
    have HK5 := toHid ((HK4.out.trans k5).trans kk5)
    have JM := same19 t s m m true (iff_of_true rfl ⟨he2.symm, rfl⟩) W5 (HR4.out.grew (k5.trans kk5)) (hr5.grew kk5)
    have HW5 := toHid hW5
    clear J3 k5 hr5 hs5 kk5 hx5 hx4 hW5 he2 HR4 HX4
    unfold KS.v at HW5 JM ⊢
    go_wp2_with (rw [← HW5.out])
    refine JM.mono ?_
    rintro r w6 ⟨rfl, k6⟩
    have HK6 := toHid (HK5.out.trans k6)
    clear JM k6
    go_wp2_with fail
    go_ret
    exact ⟨by first | rfl | simp, below_kept HK6.out (Nat.le_refl _)⟩
  · have HF := toHid fun W => few19b ao bo L M cap dap W false (iff_of_false (by decide) hf)
    go_enter Tryz.func4, Tryz.ntmps4
    go_wp2_with fail
    refine hA.mono ?_
    rintro r w1 ⟨rfl, k1⟩
    have HK2 := toHid (k1.alloc (.cells #[.slice ao L cap, .slice bo M dap] 23))
    have J1 := HF.out w1
    clear hA k1
    go_wp2_with fail
    refine J1.mono ?_
    rintro r w2 ⟨rfl, rfl⟩
    clear J1 JF JR
    go_wp2_with fail
    go_ret
    exact ⟨rfl, below_kept HK2.out (Nat.le_refl _)⟩

end Go.Proofs.YtiljkgoafknefaaGreat
