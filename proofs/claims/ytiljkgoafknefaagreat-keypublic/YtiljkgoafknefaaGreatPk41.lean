/- Put together of: LKeyPublic WKeyOf LKeyOf WKeyChecks LKeyChecks WKeyNum. -/
import Derived.Test.YtiljkgoafknefaaGreatPk2
import Derived.Test.YtiljkgoafknefaaGreatPk8
import Derived.Test.YtiljkgoafknefaaGreatPk26
import Derived.Test.YtiljkgoafknefaaGreatPk40
import Derived.Deep.RegionHeld3

/- The walk of KeyPublic, the landed contracts paid. -/
namespace Go.Proofs.YtiljkgoafknefaaGreat
open Go.RowKit

theorem walkKeyPublic (u : Value) (xs : List Nat) (e : Int) (w : World) (hu : Row .u64 w u xs) (hdx : Digs 18446744073709551616 xs) (he : (Lit.int .u64 e).wf = true) :
    Calls Tryz.prog 3 #[u, .int .u64 e] w fun e w' => e = .returned (.bool true) ∧ Below w.heap.size w w' :=
  wKeyPublic kcCom kcSiz kcChk kcPub u xs e w hu hdx he

end Go.Proofs.YtiljkgoafknefaaGreat


/- The walk of the statement on Of, of the landed contracts. -/
namespace Go.Proofs.YtiljkgoafknefaaGreat
open Go.RowKit

set_option maxRecDepth 40000 in
set_option maxHeartbeats 2000000 in
theorem wKeyOf (hC : KCom) (hS : KSiz) (hK : KChk) (hO : KOfC) (u : Value) (xs : List Nat) (v : Value) (ys : List Nat) (e : Int) (w : World) (hu : Row .u64 w u xs) (hv : Row .u64 w v ys) (hdx : Digs 18446744073709551616 xs) (hdy : Digs 18446744073709551616 ys) (he : (Lit.int .u64 e).wf = true) :
    Calls Tryz.prog 4 #[u, v, .int .u64 e] w fun e w' => e = .returned (.bool true) ∧ Below w.heap.size w w' := by
  obtain ⟨he0, he1⟩ := bounds_u64 he
  obtain ⟨e, rfl⟩ := Int.eq_ofNat_of_zero_le he0
  have heb : e < 18446744073709551616 := by omega
  obtain ⟨ao, L, cap, rfl, hL, _, _, _, _⟩ := hu.open
  obtain ⟨bo, M, dap, rfl, hM, _, _, _, _⟩ := hv.open
  have hA := f19Awake hC hS hK w
  obtain ⟨P, hP⟩ : ∃ P, P = val 18446744073709551616 xs := ⟨_, rfl⟩
  obtain ⟨Q, hQ⟩ : ∃ Q, Q = val 18446744073709551616 ys := ⟨_, rfl⟩
  have JF := toHid fun W (k : Kept Nought w W) (hl : L ≤ 1000) (hm : M ≤ 1000) => (hO ao bo L M cap dap xs ys P Q e W hP hQ heb (hu.grew k) (hv.grew k) hdx hdy hl hm).mono fun _ _ h => of19 h
  have JR := toHid fun W (k : Kept Nought w W) (hl : L ≤ 1000) (hm : M ≤ 1000) => (r18Of ao bo L M cap dap xs ys P Q e hP hQ heb W (hu.grew k) (hv.grew k) hdx hdy (by omega) (by omega)).mono fun _ _ h => of19 h
  clear hu hv hdx hdy hL hM he hC hS hK hO hP hQ he0 he1 heb
  by_cases hf : fewL L ∧ fewL M
  · have hl := hf.1.le
    have hm := hf.2.le
    have HF := toHid fun W => few19b ao bo L M cap dap W true (iff_of_true rfl hf)
    clear hf
    go_enter Tryz.func4, Tryz.ntmps4
    go_wp2_with fail
    refine hA.mono ?_
    rintro r w1 ⟨rfl, k1⟩
    have HK2 := toHid (k1.alloc (.cells #[.slice ao L cap, .slice bo M dap] 23))
    have J1 := HF.out w1
    clear hA k1
    go_wp2_with fail
    refine J1.mono ?_
    rintro r w2 ⟨rfl, rfl⟩
    generalize w1.alloc (.cells #[.slice ao L cap, .slice bo M dap] 23) = w3 at *
    have J2 := JF.out w3 HK2.out (by omega) (by omega)
    clear J1
    go_wp2_with fail
    refine J2.mono ?_
    rintro r w4 ⟨t, E, rfl, l, hr4, hs4, _, k4⟩
    obtain ⟨W4, hW4⟩ : ∃ W4, W4 = w4.alloc (.cells t.v 32) := ⟨_, rfl⟩
    have kk4 : Kept Nought w4 W4 := by rw [hW4]; exact (Kept.refl Nought w4).alloc _
    have hx4 : W4.heap[w4.heap.size]? = some (.cells t.v 32 (0, 0)) := by rw [hW4]; exact heap_alloc_new _ _
    have HR4 := toHid (hr4.grew kk4)
    have HX4 := toHid hx4
    have HSA := toHid hs4
    have HK4 := toHid ((HK2.out.trans k4).trans kk4)
    have J3 := JR.out W4 HK4.out (by omega) (by omega)
    have HW4 := toHid hW4
    clear J2 k4 hr4 hs4 kk4 hx4 hW4
    unfold KS.v at HW4 ⊢
    go_wp2_with (rw [← HW4.out])
    refine J3.mono ?_
    rintro r w5 ⟨s, E', rfl, m, hr5, hs5, _, k5⟩
    obtain ⟨rfl, he2, rfl⟩ := HSA.out.uniq hs5
    obtain ⟨W5, hW5⟩ : ∃ W5, W5 = w5.alloc (.cells s.v 32) := ⟨_, rfl⟩
    have kk5 : Kept Nought w5 W5 := by rw [hW5]; exact (Kept.refl Nought w5).alloc _
    have hx5 : W5.heap[w5.heap.size]? = some (.cells s.v 32 (0, 0)) := by rw [hW5]; exact heap_alloc_new _ _
    have hx4 : W5.heap[w4.heap.size]? = some (.cells t.v 32 (0, 0)) := ((k5.trans kk5).block _ (lt_of_block HX4.out) (fun f => f)).trans HX4.out
    obtain ⟨c0, c1, c2, c3, c4, c5, c6, c7⟩ := cells8 hx4
    obtain ⟨d0, d1, d2, d3, d4, d5, d6, d7⟩ := cells8 hx5
    have HK5 := toHid ((HK4.out.trans k5).trans kk5)
    have JM := same19 t s m m true (iff_of_true rfl ⟨he2.symm, rfl⟩) W5 (HR4.out.grew (k5.trans kk5)) (hr5.grew kk5)
    have HW5 := toHid hW5
    clear J3 k5 hr5 hs5 kk5 hx5 hx4 hW5 he2 HR4 HX4
    unfold KS.v at HW5 JM ⊢
    go_wp2_with (rw [← HW5.out])
    refine JM.mono ?_
    rintro r w6 ⟨rfl, k6⟩
    have HK6 := toHid (HK5.out.trans k6)
    clear JM k6
    go_wp2_with fail
    go_ret
    exact ⟨by first | rfl | simp, below_kept HK6.out (Nat.le_refl _)⟩
  · have HF := toHid fun W => few19b ao bo L M cap dap W false (iff_of_false (by decide) hf)
    go_enter Tryz.func4, Tryz.ntmps4
    go_wp2_with fail
    refine hA.mono ?_
    rintro r w1 ⟨rfl, k1⟩
    have HK2 := toHid (k1.alloc (.cells #[.slice ao L cap, .slice bo M dap] 23))
    have J1 := HF.out w1
    clear hA k1
    go_wp2_with fail
    refine J1.mono ?_
    rintro r w2 ⟨rfl, rfl⟩
    clear J1 JF JR
    go_wp2_with fail
    go_ret
    exact ⟨rfl, below_kept HK2.out (Nat.le_refl _)⟩

end Go.Proofs.YtiljkgoafknefaaGreat


/- The walk of KeyOf, the landed contracts paid. -/
namespace Go.Proofs.YtiljkgoafknefaaGreat
open Go.RowKit

theorem walkKeyOf (u : Value) (xs : List Nat) (v : Value) (ys : List Nat) (e : Int) (w : World) (hu : Row .u64 w u xs) (hv : Row .u64 w v ys) (hdx : Digs 18446744073709551616 xs) (hdy : Digs 18446744073709551616 ys) (he : (Lit.int .u64 e).wf = true) :
    Calls Tryz.prog 4 #[u, v, .int .u64 e] w fun e w' => e = .returned (.bool true) ∧ Below w.heap.size w w' :=
  wKeyOf kcCom kcSiz kcChk kcOf u xs v ys e w hu hv hdx hdy he

end Go.Proofs.YtiljkgoafknefaaGreat


/- The walk of the statement on which keys may be, of the landed contracts. -/
namespace Go.Proofs.YtiljkgoafknefaaGreat
open Go.RowKit

/-- The lengths of a key that the laws ask. -/
def KS.few (t : KS) : Prop := fewL t.nl ∧ fewL t.dl ∧ fewL t.pl ∧ fewL t.ql ∧ fewL t.dpl ∧ fewL t.dql ∧ fewL t.qil

set_option maxRecDepth 20000 in
set_option maxHeartbeats 2000000 in
/-- Few. -/
theorem f19Few (t : KS) (R : Bool) (hR : R = true ↔ t.few) (w : World) :
    Calls Tryz.prog 15 #[.agg t.v] w fun r w' => r = .returned (.bool R) ∧ Kept Nought w w' := by
  obtain ⟨W1, hW1⟩ : ∃ W1, W1 = w.alloc (.cells t.v 32) := ⟨_, rfl⟩
  have k1 : Kept Nought w W1 := by rw [hW1]; exact (Kept.refl Nought w).alloc _
  have hx1 : W1.heap[w.heap.size]? = some (.cells t.v 32 (0, 0)) := by rw [hW1]; exact heap_alloc_new _ _
  obtain ⟨c0, c1, c2, c3, c4, c5, c6, c7⟩ := cells8 hx1
  have J1 : Calls Tryz.prog 9 #[.slice (some ⟨W1.heap.size, 0, none⟩) 7 7] (W1.alloc (.cells #[.slice t.no t.nl t.nc, .slice t.dO t.dl t.dc, .slice t.po t.pl t.pc, .slice t.qo t.ql t.qc, .slice t.dpo t.dpl t.dpc, .slice t.dqo t.dql t.dqc, .slice t.qio t.qil t.qic] 23)) fun r w' => r = .returned (.bool R) ∧ w' = W1.alloc (.cells #[.slice t.no t.nl t.nc, .slice t.dO t.dl t.dc, .slice t.po t.pl t.pc, .slice t.qo t.ql t.qc, .slice t.dpo t.dpl t.dpc, .slice t.dqo t.dql t.dqc, .slice t.qio t.qil t.qic] 23) := by
    refine f19few (some ⟨W1.heap.size, 0, none⟩) 7 7 (fun i => [t.no, t.dO, t.po, t.qo, t.dpo, t.dqo, t.qio].getD i none) (fun i => [t.nl, t.dl, t.pl, t.ql, t.dpl, t.dql, t.qil].getD i 0) (fun i => [t.nc, t.dc, t.pc, t.qc, t.dpc, t.dqc, t.qic].getD i 0) _ (by omega) R ?_ ?_
    · rw [hR]
      refine ⟨fun h i hi => ?_, fun h => ⟨h 0 (by omega), h 1 (by omega), h 2 (by omega), h 3 (by omega), h 4 (by omega), h 5 (by omega), h 6 (by omega)⟩⟩
      obtain ⟨h0, h1, h2, h3, h4, h5, h6⟩ := h
      have : i = 0 ∨ i = 1 ∨ i = 2 ∨ i = 3 ∨ i = 4 ∨ i = 5 ∨ i = 6 := by omega
      rcases this with rfl | rfl | rfl | rfl | rfl | rfl | rfl
      · exact h0
      · exact h1
      · exact h2
      · exact h3
      · exact h4
      · exact h5
      · exact h6
    · intro i hi
      refine ⟨_, _, rfl, ?_⟩
      have : i = 0 ∨ i = 1 ∨ i = 2 ∨ i = 3 ∨ i = 4 ∨ i = 5 ∨ i = 6 := by omega
      rcases this with rfl | rfl | rfl | rfl | rfl | rfl | rfl <;> exact (cell_of_row _ _ _ _ _ _ (heap_alloc_new W1 _)).trans rfl
  have HK2 := toHid (k1.alloc (.cells #[.slice t.no t.nl t.nc, .slice t.dO t.dl t.dc, .slice t.po t.pl t.pc, .slice t.qo t.ql t.qc, .slice t.dpo t.dpl t.dpc, .slice t.dqo t.dql t.dqc, .slice t.qio t.qil t.qic] 23))
  have HW1 := toHid hW1
  clear hR hx1 k1 hW1
  unfold KS.v at HW1 ⊢
  go_enter Tryz.func15, Tryz.ntmps15
  go_wp2_with (rw [← HW1.out])
  refine J1.mono ?_
  rintro r w3 ⟨rfl, rfl⟩
  clear J1 c0 c1 c2 c3 c4 c5 c6 c7
  go_wp2_with fail
  go_ret
  exact ⟨rfl, HK2.out⟩

set_option maxRecDepth 40000 in
set_option maxHeartbeats 4000000 in
theorem wKeyChecks (hC : KCom) (hS : KSiz) (hK : KChk) (t : KS) (l : KL) (he : t.en < 18446744073709551616) (w : World) (hr : t.Rows w l) (hd : l.Digs) :
    Calls Tryz.prog 5 #[.agg t.v] w fun e w' => e = .returned (.bool true) ∧ Below w.heap.size w w' := by
  obtain ⟨W1, hW1⟩ : ∃ W1, W1 = w.alloc (.cells t.v 32) := ⟨_, rfl⟩
  have k1 : Kept Nought w W1 := by rw [hW1]; exact (Kept.refl Nought w).alloc _
  have hx1 : W1.heap[w.heap.size]? = some (.cells t.v 32 (0, 0)) := by rw [hW1]; exact heap_alloc_new _ _
  have JC : Hid (∀ W, Kept Nought W1 W → W.cell? ⟨w.heap.size, 0, none⟩ = some (.slice t.no t.nl t.nc) ∧ W.cell? ⟨w.heap.size, 1, none⟩ = some (.int .u64 ((t.en : Nat) : Int)) ∧ W.cell? ⟨w.heap.size, 2, none⟩ = some (.slice t.dO t.dl t.dc) ∧ W.cell? ⟨w.heap.size, 3, none⟩ = some (.slice t.po t.pl t.pc) ∧ W.cell? ⟨w.heap.size, 4, none⟩ = some (.slice t.qo t.ql t.qc) ∧ W.cell? ⟨w.heap.size, 5, none⟩ = some (.slice t.dpo t.dpl t.dpc) ∧ W.cell? ⟨w.heap.size, 6, none⟩ = some (.slice t.dqo t.dql t.dqc) ∧ W.cell? ⟨w.heap.size, 7, none⟩ = some (.slice t.qio t.qil t.qic)) := fun W k => cells8 ((k.block _ (lt_of_block hx1) (fun f => f)).trans hx1)
  have hA := f19Awake hC hS hK W1
  obtain ⟨E, hE⟩ : ∃ E, (E = 0 ∧ KeyGood l.n l.d l.p l.q l.dp l.dq l.qi t.en) ∨ (E = 190 ∧ ¬ KeyGood l.n l.d l.p l.q l.dp l.dq l.qi t.en) := by
    by_cases h : KeyGood l.n l.d l.p l.q l.dp l.dq l.qi t.en
    · exact ⟨0, .inl ⟨rfl, h⟩⟩
    · exact ⟨190, .inr ⟨rfl, h⟩⟩
  have JF := toHid fun W (k : Kept Nought W1 W) (h1 : t.pl ≤ 1000) (h2 : t.ql ≤ 1000) => hK t.no t.dO t.po t.qo t.dpo t.dqo t.qio t.nl t.nc t.dl t.dc t.pl t.pc t.ql t.qc t.dpl t.dpc t.dql t.dqc t.qil t.qic t.en l.n l.d l.p l.q l.dp l.dq l.qi E W he hE (hr.n.grew (k1.trans k)) (hr.d.grew (k1.trans k)) (hr.p.grew (k1.trans k)) (hr.q.grew (k1.trans k)) (hr.dp.grew (k1.trans k)) (hr.dq.grew (k1.trans k)) (hr.qi.grew (k1.trans k)) hd.n hd.d hd.p hd.q hd.dp hd.dq hd.qi h1 h2
  have JR := toHid fun W (k : Kept Nought W1 W) (h1 : t.pl ≤ 1000) (h2 : t.ql ≤ 1000) => r18Check t.no t.dO t.po t.qo t.dpo t.dqo t.qio t.nl t.nc t.dl t.dc t.pl t.pc t.ql t.qc t.dpl t.dpc t.dql t.dqc t.qil t.qic t.en l.n l.d l.p l.q l.dp l.dq l.qi he E hE W (hr.n.grew (k1.trans k)) (hr.d.grew (k1.trans k)) (hr.p.grew (k1.trans k)) (hr.q.grew (k1.trans k)) (hr.dp.grew (k1.trans k)) (hr.dq.grew (k1.trans k)) (hr.qi.grew (k1.trans k)) hd.p hd.q (by omega) (by omega)
  have HK1 := toHid k1
  have HW1 := toHid hW1
  clear hC hS hK hr hd he hE hx1 k1 hW1
  by_cases hf : t.few
  · have HF := toHid fun W => f19Few t true (iff_of_true rfl hf) W
    have hpl := hf.2.2.1.le
    have hql := hf.2.2.2.1.le
    clear hf
    unfold KS.v at HW1 HF ⊢
    go_enter Tryz.func5, Tryz.ntmps5
    go_wp2_with (rw [← HW1.out])
    refine hA.mono ?_
    rintro r w2 ⟨rfl, k2⟩
    obtain ⟨c0, c1, c2, c3, c4, c5, c6, c7⟩ := JC.out _ k2
    have k2d : Kept Nought w2 w2.drew := (Kept.refl Nought w2).drew
    have J1 := HF.out w2.drew
    clear hA
    go_wp2_with fail
    go_region_held3 (fun w' => w'.cell? ⟨w.heap.size, 0, none⟩ = some (.slice t.no t.nl t.nc) ∧ w'.cell? ⟨w.heap.size, 1, none⟩ = some (.int .u64 ((t.en : Nat) : Int)) ∧ w'.cell? ⟨w.heap.size, 2, none⟩ = some (.slice t.dO t.dl t.dc) ∧ w'.cell? ⟨w.heap.size, 3, none⟩ = some (.slice t.po t.pl t.pc) ∧ w'.cell? ⟨w.heap.size, 4, none⟩ = some (.slice t.qo t.ql t.qc) ∧ w'.cell? ⟨w.heap.size, 5, none⟩ = some (.slice t.dpo t.dpl t.dpc) ∧ w'.cell? ⟨w.heap.size, 6, none⟩ = some (.slice t.dqo t.dql t.dqc) ∧ w'.cell? ⟨w.heap.size, 7, none⟩ = some (.slice t.qio t.qil t.qic))
      (((try dsimp only); (repeat' apply And.intro) <;> first | (go_keep; done) | assumption))
      (first
      | (go_at_call 17; refine (JR.out w4 K4 (by omega) (by omega)).mono ?_; rintro r w5 ⟨rfl, k5⟩; have K5 := K4.trans k5; obtain ⟨z0, z1, z2, z3, z4, z5, z6, z7⟩ := JC.out _ K5)
      | (go_at_call 16; refine (JF.out w3 K3 (by omega) (by omega)).mono ?_; rintro r w4 ⟨rfl, k4⟩; have K4 := K3.trans k4; obtain ⟨y0, y1, y2, y3, y4, y5, y6, y7⟩ := JC.out _ K4)
      | (go_at_call 15; refine J1.mono ?_; rintro r w3 ⟨rfl, k3⟩; have K3 := (k2.trans k2d).trans k3; obtain ⟨x0, x1, x2, x3, x4, x5, x6, x7⟩ := JC.out _ K3))
    have HK5 := toHid (HK1.out.trans K5)
    clear J1 k2 k2d k3 k4 k5 K3 K4 K5
    go_wp2_with fail
    go_ret
    exact ⟨by first | rfl | simp, below_kept HK5.out (Nat.le_refl _)⟩
  · have HF := toHid fun W => f19Few t false (iff_of_false (by decide) hf) W
    clear hf JF JR
    unfold KS.v at HW1 HF ⊢
    go_enter Tryz.func5, Tryz.ntmps5
    go_wp2_with (rw [← HW1.out])
    refine hA.mono ?_
    rintro r w2 ⟨rfl, k2⟩
    obtain ⟨c0, c1, c2, c3, c4, c5, c6, c7⟩ := JC.out _ k2
    have k2d : Kept Nought w2 w2.drew := (Kept.refl Nought w2).drew
    have J1 := HF.out w2.drew
    clear hA
    go_wp2_with fail
    have efn : ∀ args w, (callFunc 15 args).run Tryz.prog w = .ok (.enter 15 args) w := fun args w => by simp [go_sem]
    refine wp_region_held_drew (S := fun w' => w'.cell? ⟨w.heap.size, 0, none⟩ = some (.slice t.no t.nl t.nc) ∧ w'.cell? ⟨w.heap.size, 1, none⟩ = some (.int .u64 ((t.en : Nat) : Int)) ∧ w'.cell? ⟨w.heap.size, 2, none⟩ = some (.slice t.dO t.dl t.dc) ∧ w'.cell? ⟨w.heap.size, 3, none⟩ = some (.slice t.po t.pl t.pc) ∧ w'.cell? ⟨w.heap.size, 4, none⟩ = some (.slice t.qo t.ql t.qc) ∧ w'.cell? ⟨w.heap.size, 5, none⟩ = some (.slice t.dpo t.dpl t.dpc) ∧ w'.cell? ⟨w.heap.size, 6, none⟩ = some (.slice t.dqo t.dql t.dqc) ∧ w'.cell? ⟨w.heap.size, 7, none⟩ = some (.slice t.qio t.qil t.qic)) (by kernel_rfl) ⟨c0, c1, c2, c3, c4, c5, c6, c7⟩ (fun hS => ?_)
    refine takeH 0 (some 5) (.agg #[.slice t.no t.nl t.nc, .int .u64 ((t.en : Nat) : Int), .slice t.dO t.dl t.dc, .slice t.po t.pl t.pc, .slice t.qo t.ql t.qc, .slice t.dpo t.dpl t.dpc, .slice t.dqo t.dql t.dqc, .slice t.qio t.qil t.qic]) rfl rfl (by kernel_rfl) (by kernel_rfl) (by kernel_rfl) (fun _ _ _ h => h) (.inl ⟨by rfl, fun w h => by obtain ⟨h0, h1, h2, h3, h4, h5, h6, h7⟩ := h; simp [execOp, go_sem, h0, h1, h2, h3, h4, h5, h6, h7]⟩) hS ?_
    simp only [Act.put, List.setIfInBounds_toArray, List.set_cons_succ, List.set_cons_zero]
    refine callH 1 (some 6) (by kernel_rfl) rfl rfl rfl 15 _ _ [.agg #[.slice t.no t.nl t.nc, .int .u64 ((t.en : Nat) : Int), .slice t.dO t.dl t.dc, .slice t.po t.pl t.pc, .slice t.qo t.ql t.qc, .slice t.dpo t.dpl t.dpc, .slice t.dqo t.dql t.dqc, .slice t.qio t.qil t.qic]] rfl rfl efn J1 ?_
    rintro e w3 ⟨rfl, k3⟩
    have K3 := (k2.trans k2d).trans k3
    refine .inl ⟨_, rfl, JC.out _ K3, ?_⟩
    have hS3 := JC.out _ K3
    simp only [Act.put, List.setIfInBounds_toArray, List.set_cons_succ, List.set_cons_zero]
    refine takeH 2 (some 7) (.bool true) rfl rfl (by kernel_rfl) (by kernel_rfl) (by kernel_rfl) (fun _ _ _ h => h) (.inl ⟨by rfl, fun w h => by simp [execOp, go_sem]⟩) hS3 ?_
    simp only [Act.put, List.setIfInBounds_toArray, List.set_cons_succ, List.set_cons_zero]
    refine takeH 3 (some 8) (.bool true) rfl rfl (by kernel_rfl) (by kernel_rfl) (by kernel_rfl) (fun _ _ _ h => h) (.inl ⟨by rfl, fun w h => by simp [execOp, go_sem]⟩) hS3 ?_
    simp only [Act.put, List.setIfInBounds_toArray, List.set_cons_succ, List.set_cons_zero]
    refine takeH 4 (some 9) (undef) rfl rfl (by kernel_rfl) (by kernel_rfl) (by kernel_rfl) (fun _ _ _ h => h) (.inr ⟨by rfl, rfl⟩) hS3 ?_
    simp only [Act.put, List.setIfInBounds_toArray, List.set_cons_succ, List.set_cons_zero]
    refine takeH 6 (some 11) (undef) rfl rfl (by kernel_rfl) (by kernel_rfl) (by kernel_rfl) (fun _ _ _ h => h) (.inr ⟨by rfl, rfl⟩) hS3 ?_
    simp only [Act.put, List.setIfInBounds_toArray, List.set_cons_succ, List.set_cons_zero]
    refine skipH 5 (some 10) (by kernel_rfl) rfl rfl (by rfl) hS3 ?_
    simp only [Act.put, List.setIfInBounds_toArray, List.set_cons_succ, List.set_cons_zero]
    refine skipH 7 (some 12) (by kernel_rfl) rfl rfl (by rfl) hS3 ?_
    simp only [Act.put, List.setIfInBounds_toArray, List.set_cons_succ, List.set_cons_zero]
    refine takeH 8 (some 13) (undef) rfl rfl (by kernel_rfl) (by kernel_rfl) (by kernel_rfl) (fun _ _ _ h => h) (.inr ⟨by rfl, rfl⟩) hS3 ?_
    simp only [Act.put, List.setIfInBounds_toArray, List.set_cons_succ, List.set_cons_zero]
    refine takeH 9 (some 14) (.bool true) rfl rfl (by kernel_rfl) (by kernel_rfl) (by kernel_rfl) (fun _ _ _ h => h) (.inl ⟨by rfl, fun w h => by simp [execOp, go_sem]⟩) hS3 ?_
    simp only [Act.put, List.setIfInBounds_toArray, List.set_cons_succ, List.set_cons_zero]
    refine takeH 10 (some 2) (.bool true) rfl rfl (by kernel_rfl) (by kernel_rfl) (by kernel_rfl) (fun _ _ _ h => h) (.inl ⟨by rfl, fun w h => by simp [execOp, go_sem]⟩) hS3 ?_
    simp only [Act.put, List.setIfInBounds_toArray, List.set_cons_succ, List.set_cons_zero]
    refine wpAnyH_done (by kernel_rfl) ?_ _
    have HK5 := toHid (HK1.out.trans K3)
    clear J1 k2 k2d k3 K3
    go_wp2_with fail
    go_ret
    exact ⟨by first | rfl | simp, below_kept HK5.out (Nat.le_refl _)⟩

end Go.Proofs.YtiljkgoafknefaaGreat


/- The walk of KeyChecks, the landed contracts paid. -/
namespace Go.Proofs.YtiljkgoafknefaaGreat
open Go.RowKit

theorem walkKeyChecks (t : KS) (l : KL) (w : World) (hr : t.Rows w l) (hd : l.Digs) (he : t.en < 18446744073709551616) :
    Calls Tryz.prog 5 #[.agg t.v] w fun e w' => e = .returned (.bool true) ∧ Below w.heap.size w w' :=
  wKeyChecks kcCom kcSiz kcChk t l he w hr hd

end Go.Proofs.YtiljkgoafknefaaGreat


/- A key's equations, as numbers. -/
namespace Go.Proofs.YtiljkgoafknefaaGreat
open Go.RowKit

theorem com_dvd (P Q : Nat) : (P - 1) ∣ comN P Q ∧ (Q - 1) ∣ comN P Q := by
  unfold comN
  generalize P - 1 = a
  generalize Q - 1 = b
  refine ⟨?_, Nat.dvd_mul_left _ _⟩
  rcases Nat.eq_zero_or_pos (Nat.gcd a b) with h | h
  · rw [Nat.gcd_eq_zero_iff] at h
    rw [h.1, h.2]
    exact ⟨0, rfl⟩
  · obtain ⟨x, hx⟩ := Nat.gcd_dvd_left a b
    obtain ⟨y, hy⟩ := Nat.gcd_dvd_right a b
    generalize Nat.gcd a b = g at *
    subst hx
    subst hy
    rw [Nat.mul_div_cancel_left _ h]
    exact ⟨y, by rw [Nat.mul_left_comm, Nat.mul_assoc]⟩

theorem com_le (P Q : Nat) : comN P Q ≤ P * Q := by
  unfold comN
  exact Nat.mul_le_mul (Nat.le_trans (Nat.div_le_self _ _) (Nat.sub_le _ _)) (Nat.sub_le _ _)

theorem val_fit {X n : Nat} (h : wordsN X ≤ n) : val 18446744073709551616 (digs 18446744073709551616 X n) = X := by
  rw [val_digs, Nat.mod_eq_of_lt ((wordsN_le X n).1 h)]

theorem words_mono {X Y : Nat} (h : X ≤ Y) : wordsN X ≤ wordsN Y := (wordsN_le X _).2 (Nat.lt_of_le_of_lt h ((wordsN_le Y _).1 (Nat.le_refl _)))

/-- A key's numbers, and its equations. -/
structure KeyNums (P Q e d u : Nat) (l : KL) : Prop where
  vn : val 18446744073709551616 l.n = P * Q
  vd : val 18446744073709551616 l.d = d
  vp : val 18446744073709551616 l.p = P
  vq : val 18446744073709551616 l.q = Q
  vdp : val 18446744073709551616 l.dp = d % (P - 1)
  vdq : val 18446744073709551616 l.dq = d % (Q - 1)
  vqi : val 18446744073709551616 l.qi = u
  p3 : 3 ≤ P
  q3 : 3 ≤ Q
  ed : 1 ≤ d * e
  e1 : (d * e - 1) % (P - 1) = 0
  e2 : (d * e - 1) % (Q - 1) = 0
  u1 : u * Q % P = 1
  lp : dlen P ≤ 256
  lq : dlen Q ≤ 256
  ld : dlen d ≤ 512
  lu : dlen u ≤ 256
  lde : dlen (d * e) ≤ 514
  lde1 : dlen (d * e - 1) ≤ 514
  luq : dlen (u * Q) ≤ 512

theorem dlen19m {X Y n : Nat} (h : X ≤ Y) (hY : dlen Y ≤ n) : dlen X ≤ n := (dlen_le X n).2 (Nat.lt_of_le_of_lt h ((dlen_le Y n).1 hY))

theorem dlen19x {X Y n m : Nat} (hX : dlen X ≤ n) (hY : dlen Y ≤ m) : dlen (X * Y) ≤ n + m := (dlen_le _ _).2 (by
  rw [Nat.pow_add]
  exact Nat.mul_lt_mul'' ((dlen_le X n).1 hX) ((dlen_le Y m).1 hY))

theorem keyNums {L M P Q e d u : Nat} {l : KL} (he : e < 18446744073709551616) (hok : keyOk L M P Q e) (h : keyRows P Q e d u l.n l.d l.p l.q l.dp l.dq l.qi) : KeyNums P Q e d u l := by
  obtain ⟨h1, h2, h3, h4, a1, a2, a3, a4, a5, a6, a7⟩ := h
  obtain ⟨_, ⟨p3, _, pb⟩, ⟨q3, _, qb⟩, _, _, _⟩ := hok
  have hlp : dlen P ≤ 256 := dlen_of_bits (by omega)
  have hlq : dlen Q ≤ 256 := dlen_of_bits (by omega)
  have hpq := dlen19x hlp hlq
  have hdPQ : d ≤ P * Q := Nat.le_trans (Nat.le_of_lt h1) (com_le P Q)
  have hld : dlen d ≤ 512 := dlen19m hdPQ hpq
  have hle : dlen e ≤ 2 := (dlen_le e 2).2 he
  have hlde := dlen19x hld hle
  have hlen : (keyWords P Q).length = max (wordsN (P * Q)) 1 := digs_length _ _ _
  have hed : 1 ≤ d * e := by
    rcases Nat.eq_zero_or_pos (d * e) with h0 | h0
    · rw [Nat.mul_comm, h0, Nat.zero_mod] at h2
      omega
    · exact h0
  have hdv : ∀ m, m ∣ comN P Q → (d * e - 1) % m = 0 := fun m hm => by
    have h5 : comN P Q ∣ d * e - 1 := by
      rw [Nat.mul_comm e d] at h2
      exact ⟨d * e / comN P Q, by have := Nat.div_add_mod (d * e) (comN P Q); omega⟩
    exact Nat.mod_eq_zero_of_dvd (Nat.dvd_trans hm h5)
  have hu : u ≤ P := Nat.le_of_lt h3
  refine ⟨?_, ?_, ?_, ?_, ?_, ?_, ?_, p3, q3, hed, hdv _ (com_dvd P Q).1, hdv _ (com_dvd P Q).2, by rw [Nat.mul_comm]; exact h4, hlp, hlq, hld, dlen19m hu hlp, hlde, dlen19m (Nat.sub_le _ _) hlde, dlen19x (dlen19m hu hlp) hlq⟩
  · rw [a1]
    exact val_fit (by omega)
  · rw [a2, hlen]
    exact val_fit (Nat.le_trans (words_mono hdPQ) (by omega))
  · rw [a3]
    exact val_fit (by omega)
  · rw [a4]
    exact val_fit (by omega)
  · rw [a5]
    exact val_fit (Nat.le_trans (words_mono (Y := P) (by have := Nat.mod_lt d (show P - 1 > 0 by omega); omega)) (by omega))
  · rw [a6]
    exact val_fit (Nat.le_trans (words_mono (Y := Q) (by have := Nat.mod_lt d (show Q - 1 > 0 by omega); omega)) (by omega))
  · rw [a7]
    exact val_fit (Nat.le_trans (words_mono hu) (by omega))

/-- A key that Of answers is well formed. -/
theorem keyGood_of {L M P Q e d u : Nat} {l : KL} (he : e < 18446744073709551616) (hok : keyOk L M P Q e) (h : keyRows P Q e d u l.n l.d l.p l.q l.dp l.dq l.qi) : KeyGood l.n l.d l.p l.q l.dp l.dq l.qi e := by
  have hN := keyNums he hok h
  have hlen : ∀ X, blen X ≤ 8192 → wordsN X ≤ 128 := fun X hX => words_of_bits (by omega)
  have w1 := hlen P hok.2.1.2.2
  have w2 := hlen Q hok.2.2.1.2.2
  have l1 : l.p.length = max (wordsN P) (wordsN Q) := by rw [h.2.2.2.2.2.2.1]; exact digs_length _ _ _
  have l2 : l.q.length = max (wordsN P) (wordsN Q) := by rw [h.2.2.2.2.2.2.2.1]; exact digs_length _ _ _
  unfold KeyGood
  rw [hN.vp, hN.vq]
  exact ⟨⟨⟨by rw [l1]; omega, by rw [l2]; omega⟩, hok.2⟩, d, u, h⟩

end Go.Proofs.YtiljkgoafknefaaGreat

