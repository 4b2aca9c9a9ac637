/- slices.Concat of two rows of bytes, and slices.Grow of nil, which it calls. -/
import Derived.Test.YthnkganmccgaeaaDoorByt1
import Derived.Lib.AppendZeros
namespace Go.Proofs.YthnkganmccgaeaaDoor
open Go.RowKit

set_option maxRecDepth 20000 in
set_option maxHeartbeats 2000000 in
/-- slices.Grow of nil: a new row with room. -/
theorem sGrow (n : Nat) (hn0 : 0 < n) (hn : n ≤ 100000000) (w : World) :
    Calls Tryd.prog 33 #[.slice none 0 0, .int .i64 (n : Int)] w fun e w' => ∃ v', e = .returned v' ∧ OwnB w' w.heap.size v' [] ∧ Kept Nought w w' := by
  obtain ⟨i0, hi0, hz0, hz1, hz2⟩ := info_parts Tryd.info8s
  have h0 : ¬ (n : Int) < 0 := by omega
  have h1 : (n : Int) > 0 := by omega
  have hrz := fun ty => Lib.run_append_nil_zeros (P := Tryd.prog) w 22 3 ty 5 i0 (.int .u8 0) .i64 .i64 Tryd.underlying22 Tryd.underlying3 hi0 hz0 n hn0 (by omega) (by omega) (by rw [hz2]; omega)
  have hGn : n ≤ grownCap w n 0 5 := grownCap_ge w _ _ _
  have hGm : grownCap w n 0 5 ≤ maxLen := grownCap_le_maxLen w n 0 5 (by unfold maxLen; omega)
  obtain ⟨G, hG⟩ : ∃ G, G = grownCap w n 0 5 := ⟨_, rfl⟩
  rw [← hG] at hrz hGn hGm
  obtain ⟨cs, hcs⟩ : ∃ cs, cs = Builtin.zeroCells (Value.int .u8 0).cells n ++ Builtin.zeroCells (Value.int .u8 0).cells (G - n) := ⟨_, rfl⟩
  have hsz : cs.size = G := by
    rw [hcs, Array.size_append, size_zeroCells, size_zeroCells]
    show n * 1 + (G - n) * 1 = G
    omega
  rw [← hcs] at hrz
  have HO : Hid (OwnB (w.drew.alloc (.cells cs 5)) w.heap.size (.slice (some ⟨w.heap.size, 0, none⟩) 0 G) []) := by
    refine ⟨rfl, .inr ⟨w.heap.size, G, cs, rfl, Nat.le_refl _, heap_alloc_new w.drew _, Nat.zero_le _, hGm, by omega, ?_⟩⟩
    simp
  have HK : Hid (Kept Nought w (w.drew.alloc (.cells cs 5))) := ((Kept.refl Nought w).drew).alloc _
  have hG63 : G ≤ 9223372036854775807 := by unfold maxLen at hGm; omega
  clear hG hcs hsz hGm
  go_enter Tryd.func33, Tryd.ntmps33
  go_wp2_with (at_builtin; refine Lib.wpList_append_run _ rfl _ _ _ _ rfl _ _ rfl rfl _ _ (hrz _) ?_)
  all_goals
    go_ret
    exact ⟨_, rfl, HO.out, HK.out⟩

/-- The first t of two numbers, added up. -/
def sum2 (n m : Nat) : Nat → Nat
  | 0 => 0
  | 1 => n
  | _ => n + m

/-- The first t of two rows, one behind the other. -/
def cat2 (xs ys : List Nat) : Nat → List Nat
  | 0 => []
  | 1 => xs
  | _ => xs ++ ys

set_option maxRecDepth 20000 in
set_option maxHeartbeats 2000000 in
/-- slices.Concat of two rows. -/
theorem sConcat (lb n m : Nat) (a1 a2 : Option Addr) (c1 c2 : Nat) (xs ys : List Nat) (w : World) (hc0 : w.cell? ⟨lb, 0, none⟩ = some (.slice a1 n c1)) (hc1 : w.cell? ⟨lb, 1, none⟩ = some (.slice a2 m c2)) (hx : Row .u8 w (.slice a1 n c1) xs) (hy : Row .u8 w (.slice a2 m c2) ys) (h0 : 0 < n + m) (hl : n + m ≤ 10000000) :
    Calls Tryd.prog 22 #[.slice (some ⟨lb, 0, none⟩) 2 2] w fun e w' => ∃ v', e = .returned v' ∧ OwnB w' w.heap.size v' (xs ++ ys) ∧ Kept Nought w w' := by
  obtain ⟨_, _, _, e1, hLx, _, _, _, _⟩ := hx.open
  cases e1
  obtain ⟨_, _, _, e1, hLy, _, _, _, _⟩ := hy.open
  cases e1
  obtain ⟨N, hN⟩ : ∃ N, N = n + m := ⟨_, rfl⟩
  have gN : (n : Int) + (m : Int) = (N : Int) := by omega
  have JG := toHid (fun W => sGrow N (by omega) (by omega) W)
  have JC : Hid (∀ W, Kept Nought w W → W.cell? ⟨lb, 0, none⟩ = some (.slice a1 n c1) ∧ W.cell? ⟨lb, 1, none⟩ = some (.slice a2 m c2)) := fun W k => ⟨k.cellN hc0, k.cellN hc1⟩
  have JX : Hid (∀ W, Kept Nought w W → Row .u8 W (.slice a1 n c1) xs) := fun W k => hx.grew k
  have JY : Hid (∀ W, Kept Nought w W → Row .u8 W (.slice a2 m c2) ys) := fun W k => hy.grew k
  have HN := toHid hN
  have gn : ¬ (n : Int) < 0 := by omega
  have gNN : ¬ (N : Int) < 0 := by omega
  have hNb : N ≤ 10000000 := by omega
  clear hx hy hN
  go_enter Tryd.func22, Tryd.ntmps22
  go_wp2_with fail
  go_loopw [3, 11] (fun sv iv wr => ∃ t : Nat, t ≤ 2 ∧ iv = .int .i64 (t : Int) ∧ sv = .int .i64 ((sum2 n m t : Nat) : Int) ∧ Hid (Kept Nought w wr)) (fun _ iv _ => 2 - (intOf iv).toNat)
  case atStart => exact ⟨0, by omega, rfl, rfl, Kept.refl _ _⟩
  case round =>
    obtain ⟨t, ht, rfl, rfl, HK0⟩ := hrel
    obtain ⟨d0, d1⟩ := JC.out _ HK0.out
    have h3 : t = 0 ∨ t = 1 ∨ t = 2 := by omega
    rcases h3 with rfl | rfl | rfl
    · rw [show sum2 n m 0 = 0 from rfl]
      go_wp2_with fail
      go_roundw
      case rel => exact ⟨1, by omega, by go_num, by first | rfl | simp [sum2], HK0.out⟩
      case measure => simp [intOf]
    · rw [show sum2 n m 1 = n from rfl]
      go_wp2_with fail
      go_roundw
      case rel => exact ⟨2, by omega, by go_num, by first | rfl | (rw [show sum2 n m 2 = N from HN.out.symm]), HK0.out⟩
      case measure => simp [intOf]
    · rw [show sum2 n m 2 = N from HN.out.symm]
      go_wp2_with fail
      refine (JG.out _).mono ?_
      rintro e w1 ⟨v1, rfl, o1, k1⟩
      obtain ⟨vo1, vc1, rfl⟩ := own_slice o1
      have HO1 := toHid (OwnB.base o1 HK0.out.size)
      have HK1 := toHid (HK0.out.trans k1)
      clear o1 k1 hc0 hc1 d0 d1 HK0
      go_wp2_with fail
      go_loopw [6, 27] (fun ov iv wr => ∃ (t : Nat) (ao : Option Addr) (cc : Nat), t ≤ 2 ∧ iv = .int .i64 (t : Int) ∧ ov = .slice ao (sum2 n m t) cc ∧ Hid (OwnB wr w.heap.size (.slice ao (sum2 n m t) cc) (cat2 xs ys t)) ∧ Hid (Kept Nought w wr)) (fun _ iv _ => 2 - (intOf iv).toNat)
      case atStart => exact ⟨0, _, _, by omega, rfl, rfl, HO1.out, HK1.out⟩
      case round =>
        obtain ⟨t, ao, cc, ht, rfl, rfl, HO, HK⟩ := hrel
        have h3 : t = 0 ∨ t = 1 ∨ t = 2 := by omega
        rcases h3 with rfl | rfl | rfl
        · rw [show sum2 n m 0 = 0 from rfl, show cat2 xs ys 0 = [] from rfl] at HO
          rw [show sum2 n m 0 = 0 from rfl]
          obtain ⟨d0, d1⟩ := JC.out _ HK.out
          have hsz := HK.out.size
          go_wp2_with (at_builtin; refine wpList_append_row rfl _ _ rfl w.heap.size _ [] rfl HO.out _ rfl xs (JX.out _ HK.out) ?qc ?qd ?_)
          case qc => have := hLx.out; simp only [List.length_nil]; omega
          case qd => exact hsz
          intro v4 w4 ho4 hg4
          have k4 : Kept Nought w w4 := HK.out.grown hg4 (fun k hk hlt => by have := (HO.out.lt k hk).1; omega)
          have hl4 : xs.length = n := hLx.out
          obtain ⟨vo, vc, rfl⟩ := own_slice ho4
          rw [hl4] at ho4 ⊢
          have HO4 : Hid (OwnB w4 w.heap.size (.slice vo n vc) xs) := OwnB.of ho4
          have HK4 := toHid k4
          clear ho4 hg4 k4 HO HK d0 d1 hsz hl4
          go_wp2_with fail
          go_roundw
          case rel => exact ⟨1, _, _, by omega, by go_num, rfl, HO4.out, HK4.out⟩
          case measure => simp [intOf]
        · rw [show sum2 n m 1 = n from rfl, show cat2 xs ys 1 = xs from rfl] at HO
          rw [show sum2 n m 1 = n from rfl]
          obtain ⟨d0, d1⟩ := JC.out _ HK.out
          have hsz := HK.out.size
          go_wp2_with (at_builtin; refine wpList_append_row rfl _ _ rfl w.heap.size _ xs rfl HO.out _ rfl ys (JY.out _ HK.out) ?qc ?qd ?_)
          case qc => have := hLx.out; have := hLy.out; omega
          case qd => exact hsz
          intro v4 w4 ho4 hg4
          have k4 : Kept Nought w w4 := HK.out.grown hg4 (fun k hk hlt => by have := (HO.out.lt k hk).1; omega)
          have hl4 : (xs ++ ys).length = n + m := by rw [List.length_append, hLx.out, hLy.out]
          obtain ⟨vo, vc, rfl⟩ := own_slice ho4
          rw [hl4] at ho4 ⊢
          have HO4 : Hid (OwnB w4 w.heap.size (.slice vo (n + m) vc) (xs ++ ys)) := OwnB.of ho4
          have HK4 := toHid k4
          clear ho4 hg4 k4 HO HK d0 d1 hsz hl4
          go_wp2_with fail
          go_roundw
          case rel => exact ⟨2, _, _, by omega, by go_num, rfl, HO4.out, HK4.out⟩
          case measure => simp [intOf]
        · go_wp2_with fail
          go_ret
          exact ⟨_, rfl, HO.out, HK.out⟩

end Go.Proofs.YthnkganmccgaeaaDoor
