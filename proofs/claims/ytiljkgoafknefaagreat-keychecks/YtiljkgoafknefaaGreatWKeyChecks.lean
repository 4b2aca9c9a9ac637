/- The walk of the statement on which keys may be, of the landed contracts. -/
import Derived.Test.YtiljkgoafknefaaGreatLaw19b
import Derived.Test.YtiljkgoafknefaaGreatHeld1
import Derived.Deep.RegionHeld3
namespace Go.Proofs.YtiljkgoafknefaaGreat
open Go.RowKit

/-- The lengths of a key that the laws ask. -/
def KS.few (t : KS) : Prop := fewL t.nl ∧ fewL t.dl ∧ fewL t.pl ∧ fewL t.ql ∧ fewL t.dpl ∧ fewL t.dql ∧ fewL t.qil

set_option maxRecDepth 20000 in
set_option maxHeartbeats 2000000 in
/-- Few. -/
theorem f19Few (t : KS) (R : Bool) (hR : R = true ↔ t.few) (w : World) :
    Calls Tryz.prog 15 #[.agg t.v] w fun r w' => r = .returned (.bool R) ∧ Kept Nought w w' := by
  obtain ⟨W1, hW1⟩ : ∃ W1, W1 = w.alloc (.cells t.v 32) := ⟨_, rfl⟩
  have k1 : Kept Nought w W1 := by rw [hW1]; exact (Kept.refl Nought w).alloc _
  have hx1 : W1.heap[w.heap.size]? = some (.cells t.v 32 (0, 0)) := by rw [hW1]; exact heap_alloc_new _ _
  obtain ⟨c0, c1, c2, c3, c4, c5, c6, c7⟩ := cells8 hx1
  have J1 : Calls Tryz.prog 9 #[.slice (some ⟨W1.heap.size, 0, none⟩) 7 7] (W1.alloc (.cells #[.slice t.no t.nl t.nc, .slice t.dO t.dl t.dc, .slice t.po t.pl t.pc, .slice t.qo t.ql t.qc, .slice t.dpo t.dpl t.dpc, .slice t.dqo t.dql t.dqc, .slice t.qio t.qil t.qic] 23)) fun r w' => r = .returned (.bool R) ∧ w' = W1.alloc (.cells #[.slice t.no t.nl t.nc, .slice t.dO t.dl t.dc, .slice t.po t.pl t.pc, .slice t.qo t.ql t.qc, .slice t.dpo t.dpl t.dpc, .slice t.dqo t.dql t.dqc, .slice t.qio t.qil t.qic] 23) := by
    refine f19few (some ⟨W1.heap.size, 0, none⟩) 7 7 (fun i => [t.no, t.dO, t.po, t.qo, t.dpo, t.dqo, t.qio].getD i none) (fun i => [t.nl, t.dl, t.pl, t.ql, t.dpl, t.dql, t.qil].getD i 0) (fun i => [t.nc, t.dc, t.pc, t.qc, t.dpc, t.dqc, t.qic].getD i 0) _ (by omega) R ?_ ?_
    · rw [hR]
      refine ⟨fun h i hi => ?_, fun h => ⟨h 0 (by omega), h 1 (by omega), h 2 (by omega), h 3 (by omega), h 4 (by omega), h 5 (by omega), h 6 (by omega)⟩⟩
      obtain ⟨h0, h1, h2, h3, h4, h5, h6⟩ := h
      have : i = 0 ∨ i = 1 ∨ i = 2 ∨ i = 3 ∨ i = 4 ∨ i = 5 ∨ i = 6 := by omega
      rcases this with rfl | rfl | rfl | rfl | rfl | rfl | rfl
      · exact h0
      · exact h1
      · exact h2
      · exact h3
      · exact h4
      · exact h5
      · exact h6
    · intro i hi
      refine ⟨_, _, rfl, ?_⟩
      have : i = 0 ∨ i = 1 ∨ i = 2 ∨ i = 3 ∨ i = 4 ∨ i = 5 ∨ i = 6 := by omega
      rcases this with rfl | rfl | rfl | rfl | rfl | rfl | rfl <;> exact (cell_of_row _ _ _ _ _ _ (heap_alloc_new W1 _)).trans rfl
  have HK2 := toHid (k1.alloc (.cells #[.slice t.no t.nl t.nc, .slice t.dO t.dl t.dc, .slice t.po t.pl t.pc, .slice t.qo t.ql t.qc, .slice t.dpo t.dpl t.dpc, .slice t.dqo t.dql t.dqc, .slice t.qio t.qil t.qic] 23))
  have HW1 := toHid hW1
  clear hR hx1 k1 hW1
  unfold KS.v at HW1 ⊢
  go_enter Tryz.func15, Tryz.ntmps15
  go_wp2_with (rw [← HW1.out])
  refine J1.mono ?_
  rintro r w3 ⟨rfl, rfl⟩
  clear J1 c0 c1 c2 c3 c4 c5 c6 c7
  go_wp2_with fail
  go_ret
  exact ⟨rfl, HK2.out⟩

set_option maxRecDepth 40000 in
set_option maxHeartbeats 4000000 in
theorem wKeyChecks (hC : KCom) (hS : KSiz) (hK : KChk) (t : KS) (l : KL) (he : t.en < 18446744073709551616) (w : World) (hr : t.Rows w l) (hd : l.Digs) :
    Calls Tryz.prog 5 #[.agg t.v] w fun e w' => e = .returned (.bool true) ∧ Below w.heap.size w w' := by
  obtain ⟨W1, hW1⟩ : ∃ W1, W1 = w.alloc (.cells t.v 32) := ⟨_, rfl⟩
  have k1 : Kept Nought w W1 := by rw [hW1]; exact (Kept.refl Nought w).alloc _
  have hx1 : W1.heap[w.heap.size]? = some (.cells t.v 32 (0, 0)) := by rw [hW1]; exact heap_alloc_new _ _
  have JC : Hid (∀ W, Kept Nought W1 W → W.cell? ⟨w.heap.size, 0, none⟩ = some (.slice t.no t.nl t.nc) ∧ W.cell? ⟨w.heap.size, 1, none⟩ = some (.int .u64 ((t.en : Nat) : Int)) ∧ W.cell? ⟨w.heap.size, 2, none⟩ = some (.slice t.dO t.dl t.dc) ∧ W.cell? ⟨w.heap.size, 3, none⟩ = some (.slice t.po t.pl t.pc) ∧ W.cell? ⟨w.heap.size, 4, none⟩ = some (.slice t.qo t.ql t.qc) ∧ W.cell? ⟨w.heap.size, 5, none⟩ = some (.slice t.dpo t.dpl t.dpc) ∧ W.cell? ⟨w.heap.size, 6, none⟩ = some (.slice t.dqo t.dql t.dqc) ∧ W.cell? ⟨w.heap.size, 7, none⟩ = some (.slice t.qio t.qil t.qic)) := fun W k => cells8 ((k.block _ (lt_of_block hx1) (fun f => f)).trans hx1)
  have hA := f19Awake hC hS hK W1
  obtain ⟨E, hE⟩ : ∃ E, (E = 0 ∧ KeyGood l.n l.d l.p l.q l.dp l.dq l.qi t.en) ∨ (E = 190 ∧ ¬ KeyGood l.n l.d l.p l.q l.dp l.dq l.qi t.en) := by
    by_cases h : KeyGood l.n l.d l.p l.q l.dp l.dq l.qi t.en
    · exact ⟨0, .inl ⟨rfl, h⟩⟩
    · exact ⟨190, .inr ⟨rfl, h⟩⟩
  have JF := toHid fun W (k : Kept Nought W1 W) (h1 : t.pl ≤ 1000) (h2 : t.ql ≤ 1000) => hK t.no t.dO t.po t.qo t.dpo t.dqo t.qio t.nl t.nc t.dl t.dc t.pl t.pc t.ql t.qc t.dpl t.dpc t.dql t.dqc t.qil t.qic t.en l.n l.d l.p l.q l.dp l.dq l.qi E W he hE (hr.n.grew (k1.trans k)) (hr.d.grew (k1.trans k)) (hr.p.grew (k1.trans k)) (hr.q.grew (k1.trans k)) (hr.dp.grew (k1.trans k)) (hr.dq.grew (k1.trans k)) (hr.qi.grew (k1.trans k)) hd.n hd.d hd.p hd.q hd.dp hd.dq hd.qi h1 h2
  have JR := toHid fun W (k : Kept Nought W1 W) (h1 : t.pl ≤ 1000) (h2 : t.ql ≤ 1000) => r18Check t.no t.dO t.po t.qo t.dpo t.dqo t.qio t.nl t.nc t.dl t.dc t.pl t.pc t.ql t.qc t.dpl t.dpc t.dql t.dqc t.qil t.qic t.en l.n l.d l.p l.q l.dp l.dq l.qi he E hE W (hr.n.grew (k1.trans k)) (hr.d.grew (k1.trans k)) (hr.p.grew (k1.trans k)) (hr.q.grew (k1.trans k)) (hr.dp.grew (k1.trans k)) (hr.dq.grew (k1.trans k)) (hr.qi.grew (k1.trans k)) hd.p hd.q (by omega) (by omega)
  have HK1 := toHid k1
  have HW1 := toHid hW1
  clear hC hS hK hr hd he hE hx1 k1 hW1
  by_cases hf : t.few
  · have HF := toHid fun W => f19Few t true (iff_of_true rfl hf) W
    have hpl := hf.2.2.1.le
    have hql := hf.2.2.2.1.le
    clear hf
    unfold KS.v at HW1 HF ⊢
    go_enter Tryz.func5, Tryz.ntmps5
    go_wp2_with (rw [← HW1.out])
    refine hA.mono ?_
    rintro r w2 ⟨rfl, k2⟩
    obtain ⟨c0, c1, c2, c3, c4, c5, c6, c7⟩ := JC.out _ k2
    have k2d : Kept Nought w2 w2.drew := (Kept.refl Nought w2).drew
    have J1 := HF.out w2.drew
    clear hA
    go_wp2_with fail
    go_region_held3 (fun w' => w'.cell? ⟨w.heap.size, 0, none⟩ = some (.slice t.no t.nl t.nc) ∧ w'.cell? ⟨w.heap.size, 1, none⟩ = some (.int .u64 ((t.en : Nat) : Int)) ∧ w'.cell? ⟨w.heap.size, 2, none⟩ = some (.slice t.dO t.dl t.dc) ∧ w'.cell? ⟨w.heap.size, 3, none⟩ = some (.slice t.po t.pl t.pc) ∧ w'.cell? ⟨w.heap.size, 4, none⟩ = some (.slice t.qo t.ql t.qc) ∧ w'.cell? ⟨w.heap.size, 5, none⟩ = some (.slice t.dpo t.dpl t.dpc) ∧ w'.cell? ⟨w.heap.size, 6, none⟩ = some (.slice t.dqo t.dql t.dqc) ∧ w'.cell? ⟨w.heap.size, 7, none⟩ = some (.slice t.qio t.qil t.qic))
      (((try dsimp only); (repeat' apply And.intro) <;> first | (go_keep; done) | assumption))
      (first
      | (go_at_call 17; refine (JR.out w4 K4 (by omega) (by omega)).mono ?_; rintro r w5 ⟨rfl, k5⟩; have K5 := K4.trans k5; obtain ⟨z0, z1, z2, z3, z4, z5, z6, z7⟩ := JC.out _ K5)
      | (go_at_call 16; refine (JF.out w3 K3 (by omega) (by omega)).mono ?_; rintro r w4 ⟨rfl, k4⟩; have K4 := K3.trans k4; obtain ⟨y0, y1, y2, y3, y4, y5, y6, y7⟩ := JC.out _ K4)
      | (go_at_call 15; refine J1.mono ?_; rintro r w3 ⟨rfl, k3⟩; have K3 := (k2.trans k2d).trans k3; obtain ⟨x0, x1, x2, x3, x4, x5, x6, x7⟩ := JC.out _ K3))
    have HK5 := toHid (HK1.out.trans K5)
    clear J1 k2 k2d k3 k4 k5 K3 K4 K5
    go_wp2_with fail
    go_ret
    exact ⟨by first | rfl | simp, below_kept HK5.out (Nat.le_refl _)⟩
  · have HF := toHid fun W => f19Few t false (iff_of_false (by decide) hf) W
    clear hf JF JR
    unfold KS.v at HW1 HF ⊢
    go_enter Tryz.func5, Tryz.ntmps5
    go_wp2_with (rw [← HW1.out])
    refine hA.mono ?_
    rintro r w2 ⟨rfl, k2⟩
    obtain ⟨c0, c1, c2, c3, c4, c5, c6, c7⟩ := JC.out _ k2
    have k2d : Kept Nought w2 w2.drew := (Kept.refl Nought w2).drew
    have J1 := HF.out w2.drew
    clear hA
    go_wp2_with fail
    have efn : ∀ args w, (callFunc 15 args).run Tryz.prog w = .ok (.enter 15 args) w := fun args w => by simp [go_sem]
    refine wp_region_held_drew (S := fun w' => w'.cell? ⟨w.heap.size, 0, none⟩ = some (.slice t.no t.nl t.nc) ∧ w'.cell? ⟨w.heap.size, 1, none⟩ = some (.int .u64 ((t.en : Nat) : Int)) ∧ w'.cell? ⟨w.heap.size, 2, none⟩ = some (.slice t.dO t.dl t.dc) ∧ w'.cell? ⟨w.heap.size, 3, none⟩ = some (.slice t.po t.pl t.pc) ∧ w'.cell? ⟨w.heap.size, 4, none⟩ = some (.slice t.qo t.ql t.qc) ∧ w'.cell? ⟨w.heap.size, 5, none⟩ = some (.slice t.dpo t.dpl t.dpc) ∧ w'.cell? ⟨w.heap.size, 6, none⟩ = some (.slice t.dqo t.dql t.dqc) ∧ w'.cell? ⟨w.heap.size, 7, none⟩ = some (.slice t.qio t.qil t.qic)) (by kernel_rfl) ⟨c0, c1, c2, c3, c4, c5, c6, c7⟩ (fun hS => ?_)
    refine takeH 0 (some 5) (.agg #[.slice t.no t.nl t.nc, .int .u64 ((t.en : Nat) : Int), .slice t.dO t.dl t.dc, .slice t.po t.pl t.pc, .slice t.qo t.ql t.qc, .slice t.dpo t.dpl t.dpc, .slice t.dqo t.dql t.dqc, .slice t.qio t.qil t.qic]) rfl rfl (by kernel_rfl) (by kernel_rfl) (by kernel_rfl) (fun _ _ _ h => h) (.inl ⟨by rfl, fun w h => by obtain ⟨h0, h1, h2, h3, h4, h5, h6, h7⟩ := h; simp [execOp, go_sem, h0, h1, h2, h3, h4, h5, h6, h7]⟩) hS ?_
    simp only [Act.put, List.setIfInBounds_toArray, List.set_cons_succ, List.set_cons_zero]
    refine callH 1 (some 6) (by kernel_rfl) rfl rfl rfl 15 _ _ [.agg #[.slice t.no t.nl t.nc, .int .u64 ((t.en : Nat) : Int), .slice t.dO t.dl t.dc, .slice t.po t.pl t.pc, .slice t.qo t.ql t.qc, .slice t.dpo t.dpl t.dpc, .slice t.dqo t.dql t.dqc, .slice t.qio t.qil t.qic]] rfl rfl efn J1 ?_
    rintro e w3 ⟨rfl, k3⟩
    have K3 := (k2.trans k2d).trans k3
    refine .inl ⟨_, rfl, JC.out _ K3, ?_⟩
    have hS3 := JC.out _ K3
    simp only [Act.put, List.setIfInBounds_toArray, List.set_cons_succ, List.set_cons_zero]
    refine takeH 2 (some 7) (.bool true) rfl rfl (by kernel_rfl) (by kernel_rfl) (by kernel_rfl) (fun _ _ _ h => h) (.inl ⟨by rfl, fun w h => by simp [execOp, go_sem]⟩) hS3 ?_
    simp only [Act.put, List.setIfInBounds_toArray, List.set_cons_succ, List.set_cons_zero]
    refine takeH 3 (some 8) (.bool true) rfl rfl (by kernel_rfl) (by kernel_rfl) (by kernel_rfl) (fun _ _ _ h => h) (.inl ⟨by rfl, fun w h => by simp [execOp, go_sem]⟩) hS3 ?_
    simp only [Act.put, List.setIfInBounds_toArray, List.set_cons_succ, List.set_cons_zero]
    refine takeH 4 (some 9) (undef) rfl rfl (by kernel_rfl) (by kernel_rfl) (by kernel_rfl) (fun _ _ _ h => h) (.inr ⟨by rfl, rfl⟩) hS3 ?_
    simp only [Act.put, List.setIfInBounds_toArray, List.set_cons_succ, List.set_cons_zero]
    refine takeH 6 (some 11) (undef) rfl rfl (by kernel_rfl) (by kernel_rfl) (by kernel_rfl) (fun _ _ _ h => h) (.inr ⟨by rfl, rfl⟩) hS3 ?_
    simp only [Act.put, List.setIfInBounds_toArray, List.set_cons_succ, List.set_cons_zero]
    refine skipH 5 (some 10) (by kernel_rfl) rfl rfl (by rfl) hS3 ?_
    simp only [Act.put, List.setIfInBounds_toArray, List.set_cons_succ, List.set_cons_zero]
    refine skipH 7 (some 12) (by kernel_rfl) rfl rfl (by rfl) hS3 ?_
    simp only [Act.put, List.setIfInBounds_toArray, List.set_cons_succ, List.set_cons_zero]
    refine takeH 8 (some 13) (undef) rfl rfl (by kernel_rfl) (by kernel_rfl) (by kernel_rfl) (fun _ _ _ h => h) (.inr ⟨by rfl, rfl⟩) hS3 ?_
    simp only [Act.put, List.setIfInBounds_toArray, List.set_cons_succ, List.set_cons_zero]
    refine takeH 9 (some 14) (.bool true) rfl rfl (by kernel_rfl) (by kernel_rfl) (by kernel_rfl) (fun _ _ _ h => h) (.inl ⟨by rfl, fun w h => by simp [execOp, go_sem]⟩) hS3 ?_
    simp only [Act.put, List.setIfInBounds_toArray, List.set_cons_succ, List.set_cons_zero]
    refine takeH 10 (some 2) (.bool true) rfl rfl (by kernel_rfl) (by kernel_rfl) (by kernel_rfl) (fun _ _ _ h => h) (.inl ⟨by rfl, fun w h => by simp [execOp, go_sem]⟩) hS3 ?_
    simp only [Act.put, List.setIfInBounds_toArray, List.set_cons_succ, List.set_cons_zero]
    refine wpAnyH_done (by kernel_rfl) ?_ _
    have HK5 := toHid (HK1.out.trans K3)
    clear J1 k2 k2d k3 K3
    go_wp2_with fail
    go_ret
    exact ⟨by first | rfl | simp, below_kept HK5.out (Nat.le_refl _)⟩

end Go.Proofs.YtiljkgoafknefaaGreat
