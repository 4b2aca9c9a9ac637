/- Package pad: head, lengthened. -/
import Derived.Test.YtegjdjfnpphipaaByt1
import Derived.Test.YtegjdjfnpphipaaSrc1
namespace Go.Proofs.Ytegjdjfnpphipaa
open Go.RowKit

set_option maxHeartbeats 400000 in
/-- head. -/
theorem kHead (w : World) : Calls Try.prog 25 #[] w fun e w' => e = .returned (.slice (some ⟨w.heap.size, 0, none⟩) 2 2) ∧ w' = w.alloc (.cells #[.int .u8 0, .int .u8 2] 5) := by
  go_enter Try.func25, Try.ntmps25
  go_wp2_with fail
  go_ret
  exact ⟨rfl, rfl⟩

set_option maxRecDepth 20000 in
set_option maxHeartbeats 1000000 in
/-- lengthened. -/
theorem kLen (v : Value) (bs : List Nat) (n : Nat) (w : World) (h : Row .u8 w v bs) (hl : bs.length ≤ n) (hn : n ≤ 1000000) :
    Calls Try.prog 28 #[v, .int .i64 (n : Int)] w fun e w' => ∃ u, e = .returned u ∧ OwnB w' w.heap.size u (bs ++ List.replicate (n - bs.length) 0) ∧ Kept Nought w w' := by
  obtain ⟨i0, hi0, hz0, hz1, hz2⟩ := info_parts Try.info8s
  have HX := toHid h
  obtain ⟨ao, na, ca, rfl, hLa, hac, ham, _⟩ := h.open
  obtain ⟨CS, hCS⟩ : ∃ CS, CS = bs.map fun z : Nat => Value.int .u8 (z : Int) := ⟨_, rfl⟩
  have HC := toHid hCS
  have HLC : Hid (CS.length = na) := by unfold Hid; rw [hCS, List.length_map]; exact hLa.out
  have HSRC : Hid (∀ W, Kept Nought w W → 0 < CS.length → ∃ ad, ao = some ad ∧ ∀ j u, CS[j]? = some u → W.cell? (ad.add j) = some u) := by rw [hCS]; exact fun W k hp => row_src HX.out k hp
  have HO1 : Hid (∀ u ∈ CS, u.oneCell' = true) := by rw [hCS]; exact ones8 _ _
  have hna : na ≤ n := by have := hLa.out; omega
  have HL := toHid hl
  clear h hCS hl
  go_enter Try.func28, Try.ntmps28
  go_wp2_with (at_make; refine wpList_make_full _ rfl _ _ 22 rfl w.heap.size 5 i0 _ 1 Try.underlying22 hi0 hz0 hz1 _ _ _ _ n rfl rfl rfl rfl (by rw [hz2]; omega) (by unfold maxLen; omega) (Nat.le_refl _) ?_; intro w1 ho1 hg1; rw [zeros_map] at ho1; have k1 := grown_kept hg1; obtain ⟨w2, hrun, hb2, k2⟩ := run_copy_part (P := Try.prog) 22 22 3 5 w.heap.size 0 n n (some ⟨w.heap.size, 0, none⟩) ao na ca _ 5 CS Try.underlying22 (by rw [hi0]; simp [hz1]) (own_block ho1) (by rw [HLC.out]; exact (Nat.min_eq_left hna).symm) (fun hp => ⟨rfl, HSRC.out _ k1 hp⟩) (by have := HLC.out; simp; omega) HO1.out; have HB2 : Hid _ := hb2; have HK2 := toHid (kept_new k1 k2 (Nat.le_refl _)); clear hb2 ho1 hg1 k1 k2)
  have hA := HB2.out
  rw [HC.out, splice_fill] at hA
  go_ret
  exact ⟨_, rfl, OwnB.of (own_of_block hA (by have := HL.out; simp; omega) (by unfold maxLen; omega) (Nat.le_refl _)), HK2.out⟩

end Go.Proofs.Ytegjdjfnpphipaa
