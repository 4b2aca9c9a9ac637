/- The law Sha512Blocks, walked. -/
import Derived.Test.YtjnmnkoajcibhaaDoorShc9
namespace Go.Proofs.YtjnmnkoajcibhaaDoor
open Go.RowKit

set_option maxRecDepth 40000 in
set_option maxHeartbeats 4000000 in
theorem walkSha512Blocks (s : List Nat) (v : Value) (bs : List Nat) (w : World) (hs : s.length = 8) (hsd : Digs 18446744073709551616 s) (hb : Row .u8 w v bs) (hbd : Digs 256 bs) (hT : Tab12 w) :
    Calls Tryd.prog 4 #[.agg (s.map fun z => Value.int .u64 (z : Nat)).toArray, v] w fun e w' => e = .returned (.bool true) ∧ Below w.heap.size w w' := by
  obtain ⟨s0, s1, s2, s3, s4, s5, s6, s7, rfl⟩ : ∃ s0 s1 s2 s3 s4 s5 s6 s7, s = [s0, s1, s2, s3, s4, s5, s6, s7] := by
    match s, hs with
    | [a, b, c, d, e, f, g, h], _ => exact ⟨a, b, c, d, e, f, g, h, rfl⟩
  rw [show ([s0, s1, s2, s3, s4, s5, s6, s7].map fun z => Value.int .u64 (z : Nat)).toArray = #[.int .u64 (s0 : Nat), .int .u64 (s1 : Nat), .int .u64 (s2 : Nat), .int .u64 (s3 : Nat), .int .u64 (s4 : Nat), .int .u64 (s5 : Nat), .int .u64 (s6 : Nat), .int .u64 (s7 : Nat)] from rfl]
  obtain ⟨ao, n, cap, rfl, hL, _, _, _, _⟩ := hb.open
  obtain ⟨W, hW⟩ : ∃ W, W = w.alloc (.cells #[.int .u64 (s0 : Nat), .int .u64 (s1 : Nat), .int .u64 (s2 : Nat), .int .u64 (s3 : Nat), .int .u64 (s4 : Nat), .int .u64 (s5 : Nat), .int .u64 (s6 : Nat), .int .u64 (s7 : Nat)] 29) := ⟨_, rfl⟩
  have k0 : Kept Nought w W := by rw [hW]; exact (Kept.refl Nought w).alloc _
  have hS0 : Arr .u64 29 W w.heap.size [s0, s1, s2, s3, s4, s5, s6, s7] := by rw [hW]; exact heap_alloc_new w _
  have JC : Hid (∀ w', Kept Nought W w' → w'.cell? ⟨w.heap.size, 0, none⟩ = some (.int .u64 (s0 : Int)) ∧ w'.cell? ⟨w.heap.size, 1, none⟩ = some (.int .u64 (s1 : Int)) ∧ w'.cell? ⟨w.heap.size, 2, none⟩ = some (.int .u64 (s2 : Int)) ∧ w'.cell? ⟨w.heap.size, 3, none⟩ = some (.int .u64 (s3 : Int)) ∧ w'.cell? ⟨w.heap.size, 4, none⟩ = some (.int .u64 (s4 : Int)) ∧ w'.cell? ⟨w.heap.size, 5, none⟩ = some (.int .u64 (s5 : Int)) ∧ w'.cell? ⟨w.heap.size, 6, none⟩ = some (.int .u64 (s6 : Int)) ∧ w'.cell? ⟨w.heap.size, 7, none⟩ = some (.int .u64 (s7 : Int))) := fun w' k => by
    have h := hS0.grew k
    exact ⟨h.cell 0 (by simp), h.cell 1 (by simp), h.cell 2 (by simp), h.cell 3 (by simp), h.cell 4 (by simp), h.cell 5 (by simp), h.cell 6 (by simp), h.cell 7 (by simp)⟩
  have hA := awake12 W (hT.grew k0)
  have HW := toHid hW
  have HK0 := toHid k0
  by_cases hn : n ≤ 400
  · have g1 : ¬ (n : Int) > 400 := by omega
    by_cases h64 : n = 128
    · subst h64
      obtain ⟨z0, z1, z2, z3, z4, z5, z6, z7, hzz⟩ : ∃ z0 z1 z2 z3 z4 z5 z6 z7, blkM [s0, s1, s2, s3, s4, s5, s6, s7] bs = [z0, z1, z2, z3, z4, z5, z6, z7] := by
        match h : blkM [s0, s1, s2, s3, s4, s5, s6, s7] bs, (blkM_digs (s := [s0, s1, s2, s3, s4, s5, s6, s7]) (bs := bs)).2 with
        | [a, b, c, d, e, f, g, h'], _ => exact ⟨a, b, c, d, e, f, g, h', rfl⟩
      have J1 : Hid (∀ W', Kept Nought W W' → Calls Tryd.prog 12 #[.agg #[.int .u64 (s0 : Nat), .int .u64 (s1 : Nat), .int .u64 (s2 : Nat), .int .u64 (s3 : Nat), .int .u64 (s4 : Nat), .int .u64 (s5 : Nat), .int .u64 (s6 : Nat), .int .u64 (s7 : Nat)], .slice ao 128 cap] W' fun e w' => e = .returned (.tuple #[.agg #[.int .u64 (z0 : Int), .int .u64 (z1 : Int), .int .u64 (z2 : Int), .int .u64 (z3 : Int), .int .u64 (z4 : Int), .int .u64 (z5 : Int), .int .u64 (z6 : Int), .int .u64 (z7 : Int)], .bool true]) ∧ Kept Nought W w') := fun W' k => by
        refine (mBlock ao cap [s0, s1, s2, s3, s4, s5, s6, s7] bs _ rfl W' (hT.grew (k0.trans k)) rfl hsd (hb.grew (k0.trans k)) hbd).mono ?_
        rintro e w' ⟨rfl, k'⟩
        rw [hzz]
        exact ⟨rfl, k.trans k'⟩
      have J2 : Hid (∀ W', Kept Nought W W' → Calls Tryd.prog 13 #[.agg #[.int .u64 (s0 : Nat), .int .u64 (s1 : Nat), .int .u64 (s2 : Nat), .int .u64 (s3 : Nat), .int .u64 (s4 : Nat), .int .u64 (s5 : Nat), .int .u64 (s6 : Nat), .int .u64 (s7 : Nat)], .slice ao 128 cap] W' fun e w' => e = .returned (.tuple #[.agg #[.int .u64 (z0 : Int), .int .u64 (z1 : Int), .int .u64 (z2 : Int), .int .u64 (z3 : Int), .int .u64 (z4 : Int), .int .u64 (z5 : Int), .int .u64 (z6 : Int), .int .u64 (z7 : Int)], .bool true]) ∧ Kept Nought W w' ∧ Kept Nought W' w') := fun W' k => by
        refine (r12Block ao cap [s0, s1, s2, s3, s4, s5, s6, s7] bs _ rfl W' rfl hsd (hb.grew (k0.trans k)) hbd).mono ?_
        rintro e w' ⟨rfl, k'⟩
        rw [hzz]
        exact ⟨rfl, k.trans k', k'⟩
      have hq := fun w => arr8_alikeM w (z0 : Int) (z1 : Int) (z2 : Int) (z3 : Int) (z4 : Int) (z5 : Int) (z6 : Int) (z7 : Int)
      have hgd := Tryd.noGuardB
      clear hb hbd hT hL hsd hW k0 hS0 hzz
      go_enter Tryd.func4, Tryd.ntmps4
      go_wp2_with (rw [← HW.out])
      refine hA.mono ?_
      rintro e w1 ⟨rfl, k1⟩
      obtain ⟨p0, p1, p2, p3, p4, p5, p6, p7⟩ := JC.out _ k1
      clear hA
      go_wp2_with fail
      refine (J1.out _ k1).mono ?_
      rintro e w2 ⟨rfl, k2⟩
      clear p0 p1 p2 p3 p4 p5 p6 p7
      have k3 : Kept Nought W (w2.alloc (.cells #[.int .u64 (z0 : Int), .int .u64 (z1 : Int), .int .u64 (z2 : Int), .int .u64 (z3 : Int), .int .u64 (z4 : Int), .int .u64 (z5 : Int), .int .u64 (z6 : Int), .int .u64 (z7 : Int)] 29)) := k2.alloc _
      obtain ⟨p0, p1, p2, p3, p4, p5, p6, p7⟩ := JC.out _ k3
      go_wp2_with fail
      refine (J2.out _ k3).mono ?_
      rintro e w4 ⟨rfl, k4, kl4⟩
      have h5 : Arr .u64 29 (w2.alloc (.cells #[.int .u64 (z0 : Int), .int .u64 (z1 : Int), .int .u64 (z2 : Int), .int .u64 (z3 : Int), .int .u64 (z4 : Int), .int .u64 (z5 : Int), .int .u64 (z6 : Int), .int .u64 (z7 : Int)] 29)) w2.heap.size [z0, z1, z2, z3, z4, z5, z6, z7] := heap_alloc_new w2 _
      have h6 := (h5.grew kl4).grew ((Kept.refl Nought w4).alloc (.cells #[.int .u64 (z0 : Int), .int .u64 (z1 : Int), .int .u64 (z2 : Int), .int .u64 (z3 : Int), .int .u64 (z4 : Int), .int .u64 (z5 : Int), .int .u64 (z6 : Int), .int .u64 (z7 : Int)] 29))
      have c0 := h6.cell 0 (by simp); have c1 := h6.cell 1 (by simp); have c2 := h6.cell 2 (by simp); have c3 := h6.cell 3 (by simp); have c4 := h6.cell 4 (by simp); have c5 := h6.cell 5 (by simp); have c6 := h6.cell 6 (by simp); have c7 := h6.cell 7 (by simp)
      have HK := toHid ((HK0.out.trans k4).alloc (.cells #[.int .u64 (z0 : Int), .int .u64 (z1 : Int), .int .u64 (z2 : Int), .int .u64 (z3 : Int), .int .u64 (z4 : Int), .int .u64 (z5 : Int), .int .u64 (z6 : Int), .int .u64 (z7 : Int)] 29))
      clear h5 h6 k1 k2 k3 k4 kl4 p0 p1 p2 p3 p4 p5 p6 p7
      go_wp2_with fail
      go_ret
      exact ⟨rfl, below_kept HK.out (Nat.le_refl _)⟩
    · have J1 : Hid (∀ W', Kept Nought W W' → Calls Tryd.prog 12 #[.agg #[.int .u64 (s0 : Nat), .int .u64 (s1 : Nat), .int .u64 (s2 : Nat), .int .u64 (s3 : Nat), .int .u64 (s4 : Nat), .int .u64 (s5 : Nat), .int .u64 (s6 : Nat), .int .u64 (s7 : Nat)], .slice ao n cap] W' fun e w' => e = .returned (.tuple #[.agg #[.int .u64 0, .int .u64 0, .int .u64 0, .int .u64 0, .int .u64 0, .int .u64 0, .int .u64 0, .int .u64 0], .bool false]) ∧ Kept Nought W w') := fun W' k => by
        refine (mBlockBad ao n cap s0 s1 s2 s3 s4 s5 s6 s7 W' h64).mono ?_
        rintro e w' ⟨rfl, k'⟩
        exact ⟨rfl, k.trans k'⟩
      have J2 : Hid (∀ W', Kept Nought W W' → Calls Tryd.prog 13 #[.agg #[.int .u64 (s0 : Nat), .int .u64 (s1 : Nat), .int .u64 (s2 : Nat), .int .u64 (s3 : Nat), .int .u64 (s4 : Nat), .int .u64 (s5 : Nat), .int .u64 (s6 : Nat), .int .u64 (s7 : Nat)], .slice ao n cap] W' fun e w' => e = .returned (.tuple #[.agg #[.int .u64 0, .int .u64 0, .int .u64 0, .int .u64 0, .int .u64 0, .int .u64 0, .int .u64 0, .int .u64 0], .bool false]) ∧ Kept Nought W w' ∧ Kept Nought W' w') := fun W' k => by
        refine (r12BlockBad ao n cap s0 s1 s2 s3 s4 s5 s6 s7 W' h64).mono ?_
        rintro e w' ⟨rfl, k'⟩
        exact ⟨rfl, k.trans k', k'⟩
      have hq := fun w => arr8_alikeM w 0 0 0 0 0 0 0 0
      have hgd := Tryd.noGuardB
      clear hb hbd hT hL hsd hW k0 hS0
      go_enter Tryd.func4, Tryd.ntmps4
      go_wp2_with (rw [← HW.out])
      refine hA.mono ?_
      rintro e w1 ⟨rfl, k1⟩
      obtain ⟨p0, p1, p2, p3, p4, p5, p6, p7⟩ := JC.out _ k1
      clear hA
      go_wp2_with fail
      refine (J1.out _ k1).mono ?_
      rintro e w2 ⟨rfl, k2⟩
      clear p0 p1 p2 p3 p4 p5 p6 p7
      have k3 : Kept Nought W (w2.alloc (.cells #[.int .u64 0, .int .u64 0, .int .u64 0, .int .u64 0, .int .u64 0, .int .u64 0, .int .u64 0, .int .u64 0] 29)) := k2.alloc _
      obtain ⟨p0, p1, p2, p3, p4, p5, p6, p7⟩ := JC.out _ k3
      go_wp2_with fail
      refine (J2.out _ k3).mono ?_
      rintro e w4 ⟨rfl, k4, kl4⟩
      have h5 : Arr .u64 29 (w2.alloc (.cells #[.int .u64 0, .int .u64 0, .int .u64 0, .int .u64 0, .int .u64 0, .int .u64 0, .int .u64 0, .int .u64 0] 29)) w2.heap.size [0, 0, 0, 0, 0, 0, 0, 0] := heap_alloc_new w2 _
      have h6 := (h5.grew kl4).grew ((Kept.refl Nought w4).alloc (.cells #[.int .u64 0, .int .u64 0, .int .u64 0, .int .u64 0, .int .u64 0, .int .u64 0, .int .u64 0, .int .u64 0] 29))
      have c0 := h6.cell 0 (by simp); have c1 := h6.cell 1 (by simp); have c2 := h6.cell 2 (by simp); have c3 := h6.cell 3 (by simp); have c4 := h6.cell 4 (by simp); have c5 := h6.cell 5 (by simp); have c6 := h6.cell 6 (by simp); have c7 := h6.cell 7 (by simp)
      have HK := toHid ((HK0.out.trans k4).alloc (.cells #[.int .u64 0, .int .u64 0, .int .u64 0, .int .u64 0, .int .u64 0, .int .u64 0, .int .u64 0, .int .u64 0] 29))
      clear h5 h6 k1 k2 k3 k4 kl4 p0 p1 p2 p3 p4 p5 p6 p7
      go_wp2_with fail
      go_ret
      exact ⟨rfl, below_kept HK.out (Nat.le_refl _)⟩
  · have g1 : (n : Int) > 400 := by omega
    clear hb hbd hT hL hsd hW k0 hS0
    go_enter Tryd.func4, Tryd.ntmps4
    go_wp2_with (rw [← HW.out])
    refine hA.mono ?_
    rintro e w1 ⟨rfl, k1⟩
    have HK := toHid (HK0.out.trans k1)
    clear hA k1
    go_wp2_with fail
    go_ret
    exact ⟨rfl, below_kept HK.out (Nat.le_refl _)⟩

end Go.Proofs.YtjnmnkoajcibhaaDoor
