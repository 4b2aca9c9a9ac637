/- Put together of: Sha3. -/
import Derived.Test.YthnkganmccgaeaaDoorPk2
import Derived.BigRegion
import Derived.Deep.RegionHeld3

/- The plain side of layer 11: Block. -/
namespace Go.Proofs.YthnkganmccgaeaaDoor
open Go.RowKit

/-- One word of the schedule more. -/
theorem wl_set {bs : List Nat} {t z : Nat} (ht : t < 64) (hz : (if t < 16 then w4N (bs.getD (4 * t) 0) (bs.getD (4 * t + 1) 0) (bs.getD (4 * t + 2) 0) (bs.getD (4 * t + 3) 0) else
      ((wlN bs t).getD (t - 16) 0 + s0N ((wlN bs t).getD (t - 15) 0) + (wlN bs t).getD (t - 7) 0 + s1N ((wlN bs t).getD (t - 2) 0)) % 4294967296) = z) :
    (wlN bs t ++ List.replicate (64 - t) 0).set t z = wlN bs (t + 1) ++ List.replicate (64 - (t + 1)) 0 := by
  have e : List.replicate (64 - t) 0 = 0 :: List.replicate (64 - (t + 1)) 0 := by rw [show 64 - t = (64 - (t + 1)) + 1 by omega, List.replicate_succ]
  rw [List.set_append_right _ _ (by rw [wlN_length]; omega), wlN_length, Nat.sub_self, e, List.set_cons_zero]
  show _ = (wlN bs t ++ [_]) ++ _
  rw [hz, List.append_assoc]
  rfl

set_option maxRecDepth 40000 in
set_option maxHeartbeats 4000000 in
/-- Block of 64 bytes. -/
theorem r11Block (ao : Option Addr) (cap : Nat) (s bs : List Nat) (sv : Array Value) (hsv : sv = (s.map fun z => Value.int .u32 (z : Nat)).toArray) (w : World) (hs : s.length = 8) (hsd : Digs 4294967296 s) (hb : Row .u8 w (.slice ao 64 cap) bs) (hbd : Digs 256 bs) :
    Calls Tryd.prog 38 #[.agg sv, .slice ao 64 cap] w fun e w' => e = .returned (.tuple #[.agg ((blkN s bs).map fun z => Value.int .u32 (z : Nat)).toArray, .bool true]) ∧ Kept Nought w w' := by
  obtain ⟨s0, s1, s2, s3, s4, s5, s6, s7, rfl⟩ : ∃ s0 s1 s2 s3 s4 s5 s6 s7, s = [s0, s1, s2, s3, s4, s5, s6, s7] := by
    match s, hs with
    | [a, b, c, d, e, f, g, h], _ => exact ⟨a, b, c, d, e, f, g, h, rfl⟩
  have e0 : sv = #[.int .u32 (s0 : Nat), .int .u32 (s1 : Nat), .int .u32 (s2 : Nat), .int .u32 (s3 : Nat), .int .u32 (s4 : Nat), .int .u32 (s5 : Nat), .int .u32 (s6 : Nat), .int .u32 (s7 : Nat)] := by rw [hsv]; rfl
  subst e0
  clear hsv
  obtain ⟨_, _, _, e1, hLb, _, _, _, hnum⟩ := hb.open
  cases e1
  obtain ⟨bb, off, e1, _⟩ := hnum 0 (by omega)
  cases e1
  have hne : bs ≠ [] := fun e => by have := hLb.out; rw [e] at this; simp at this
  have hbl : bb < w.heap.size := hb.lt hne bb rfl
  obtain ⟨W, hW⟩ : ∃ W, W = ((w.alloc (.cells #[.int .u32 (s0 : Nat), .int .u32 (s1 : Nat), .int .u32 (s2 : Nat), .int .u32 (s3 : Nat), .int .u32 (s4 : Nat), .int .u32 (s5 : Nat), .int .u32 (s6 : Nat), .int .u32 (s7 : Nat)] 45)).alloc (.cells #[.int .u32 0, .int .u32 0, .int .u32 0, .int .u32 0, .int .u32 0, .int .u32 0, .int .u32 0, .int .u32 0] 45)).alloc (.cells ((List.replicate 64 0).map fun z : Nat => Value.int .u32 (z : Int)).toArray 65) := ⟨_, rfl⟩
  have k0 : Kept Nought w W := by rw [hW]; exact (((Kept.refl Nought w).alloc _).alloc _).alloc _
  have hS0 : Arr .u32 45 W w.heap.size [s0, s1, s2, s3, s4, s5, s6, s7] := by
    rw [hW]
    exact heapAt_alloc (heapAt_alloc (heap_alloc_new w _))
  have hO0 : Arr .u32 45 W (w.heap.size + 1) [0, 0, 0, 0, 0, 0, 0, 0] := by
    rw [hW]
    refine heapAt_alloc ?_
    have := heap_alloc_new (w.alloc (.cells #[.int .u32 (s0 : Nat), .int .u32 (s1 : Nat), .int .u32 (s2 : Nat), .int .u32 (s3 : Nat), .int .u32 (s4 : Nat), .int .u32 (s5 : Nat), .int .u32 (s6 : Nat), .int .u32 (s7 : Nat)] 45)) (.cells #[.int .u32 0, .int .u32 0, .int .u32 0, .int .u32 0, .int .u32 0, .int .u32 0, .int .u32 0, .int .u32 0] 45)
    simpa using this
  have hA0 : Arr .u32 65 W (w.heap.size + 1 + 1) (List.replicate 64 0) := by
    rw [hW]
    have := heap_alloc_new ((w.alloc (.cells #[.int .u32 (s0 : Nat), .int .u32 (s1 : Nat), .int .u32 (s2 : Nat), .int .u32 (s3 : Nat), .int .u32 (s4 : Nat), .int .u32 (s5 : Nat), .int .u32 (s6 : Nat), .int .u32 (s7 : Nat)] 45)).alloc (.cells #[.int .u32 0, .int .u32 0, .int .u32 0, .int .u32 0, .int .u32 0, .int .u32 0, .int .u32 0, .int .u32 0] 45)) (.cells ((List.replicate 64 0).map fun z : Nat => Value.int .u32 (z : Int)).toArray 65)
    rwa [show ((w.alloc (.cells #[.int .u32 (s0 : Nat), .int .u32 (s1 : Nat), .int .u32 (s2 : Nat), .int .u32 (s3 : Nat), .int .u32 (s4 : Nat), .int .u32 (s5 : Nat), .int .u32 (s6 : Nat), .int .u32 (s7 : Nat)] 45)).alloc (.cells #[.int .u32 0, .int .u32 0, .int .u32 0, .int .u32 0, .int .u32 0, .int .u32 0, .int .u32 0, .int .u32 0] 45)).heap.size = w.heap.size + 1 + 1 by simp] at this
  have JB : Hid (∀ wr, Kept (fun b => b = w.heap.size + 1 + 1) W wr → ∀ i, i < 64 → wr.cell? ⟨bb, off + i, none⟩ = some (.int .u8 (bs.getD i 0 : Nat))) := fun wr k i hi => by
    have hr := (hb.grew k0).kept k (fun b hb' e => by
      cases hb'
      have e' : bb = w.heap.size + 1 + 1 := e
      omega)
    obtain ⟨_, _, _, e1, _, _, _, _, hn⟩ := hr.open
    cases e1
    obtain ⟨_, _, e2, hc⟩ := hn i hi
    cases e2
    exact hc
  have HBD := toHid hbd
  have HS0 := toHid hS0
  have HO0 := toHid hO0
  have HA0 := toHid hA0
  have HK0 := toHid k0
  have HW : Hid (W = ((w.alloc (.cells #[.int .u32 (s0 : Nat), .int .u32 (s1 : Nat), .int .u32 (s2 : Nat), .int .u32 (s3 : Nat), .int .u32 (s4 : Nat), .int .u32 (s5 : Nat), .int .u32 (s6 : Nat), .int .u32 (s7 : Nat)] 45)).alloc (.cells #[.int .u32 0, .int .u32 0, .int .u32 0, .int .u32 0, .int .u32 0, .int .u32 0, .int .u32 0, .int .u32 0] 45)).alloc (.cells (#[.int .u32 0, .int .u32 0, .int .u32 0, .int .u32 0, .int .u32 0, .int .u32 0, .int .u32 0, .int .u32 0, .int .u32 0, .int .u32 0, .int .u32 0, .int .u32 0, .int .u32 0, .int .u32 0, .int .u32 0, .int .u32 0, .int .u32 0, .int .u32 0, .int .u32 0, .int .u32 0, .int .u32 0, .int .u32 0, .int .u32 0, .int .u32 0, .int .u32 0, .int .u32 0, .int .u32 0, .int .u32 0, .int .u32 0, .int .u32 0, .int .u32 0, .int .u32 0, .int .u32 0, .int .u32 0, .int .u32 0, .int .u32 0, .int .u32 0, .int .u32 0, .int .u32 0, .int .u32 0, .int .u32 0, .int .u32 0, .int .u32 0, .int .u32 0, .int .u32 0, .int .u32 0, .int .u32 0, .int .u32 0, .int .u32 0, .int .u32 0, .int .u32 0, .int .u32 0, .int .u32 0, .int .u32 0, .int .u32 0, .int .u32 0, .int .u32 0, .int .u32 0, .int .u32 0, .int .u32 0, .int .u32 0, .int .u32 0, .int .u32 0, .int .u32 0] : Array Value) 65)) := hW
  clear hW hS0 hO0 hA0 k0 hb hbd hnum hLb hne hs
  go_enter Tryd.func38, Tryd.ntmps38
  go_wp2_with fail
  rw [← HW.out]
  go_loopw [25] (fun i wr => ∃ t : Nat, t ≤ 64 ∧ i = .int .i64 (t : Int) ∧ Hid (Arr .u32 65 wr (w.heap.size + 1 + 1) (wlN bs t ++ List.replicate (64 - t) 0)) ∧ Hid (Kept (fun b => b = w.heap.size + 1 + 1) W wr)) (fun i _ => 64 - (intOf i).toNat)
  case atStart => exact ⟨0, by omega, rfl, HA0.out, Kept.refl _ _⟩
  case round =>
    obtain ⟨t, ht, rfl, HA, HK⟩ := hrel
    by_cases ht6 : t < 64
    · have g1 : (t : Int) < 64 := by omega
      have g0 : (0 : Int) ≤ (t : Int) := by omega
      have hlen : (wlN bs t ++ List.replicate (64 - t) 0).length = 64 := by rw [List.length_append, wlN_length, List.length_replicate]; omega
      have hct := HA.out.cell t (by omega)
      have hft := HA.out.free t
      by_cases ht1 : t < 16
      · have g2 : (t : Int) < 16 := by omega
        obtain ⟨j0, hj0⟩ : ∃ j, j = 4 * t := ⟨_, rfl⟩
        obtain ⟨j1, hj1⟩ : ∃ j, j = 4 * t + 1 := ⟨_, rfl⟩
        obtain ⟨j2, hj2⟩ : ∃ j, j = 4 * t + 2 := ⟨_, rfl⟩
        obtain ⟨j3, hj3⟩ : ∃ j, j = 4 * t + 3 := ⟨_, rfl⟩
        have w0 : IntKind.i64.wrap (4 * (t : Int)) = (j0 : Int) := by rw [IntKind.wrap_i64]; omega
        have w1 : IntKind.i64.wrap ((j0 : Int) + 1) = (j1 : Int) := by rw [IntKind.wrap_i64]; omega
        have w2 : IntKind.i64.wrap ((j0 : Int) + 2) = (j2 : Int) := by rw [IntKind.wrap_i64]; omega
        have w3 : IntKind.i64.wrap ((j0 : Int) + 3) = (j3 : Int) := by rw [IntKind.wrap_i64]; omega
        have b0 : (j0 : Int) < 64 := by omega
        have b1 : (j1 : Int) < 64 := by omega
        have b2 : (j2 : Int) < 64 := by omega
        have b3 : (j3 : Int) < 64 := by omega
        have c0 := JB.out wr HK.out j0 (by omega)
        have c1 := JB.out wr HK.out j1 (by omega)
        have c2 := JB.out wr HK.out j2 (by omega)
        have c3 := JB.out wr HK.out j3 (by omega)
        have HJ := toHid (show j0 = 4 * t ∧ j1 = 4 * t + 1 ∧ j2 = 4 * t + 2 ∧ j3 = 4 * t + 3 from ⟨hj0, hj1, hj2, hj3⟩)
        have x0 : bs.getD j0 0 < 256 := HBD.out.getD (by omega) _
        have x1 : bs.getD j1 0 < 256 := HBD.out.getD (by omega) _
        have x2 : bs.getD j2 0 < 256 := HBD.out.getD (by omega) _
        have x3 : bs.getD j3 0 < 256 := HBD.out.getD (by omega) _
        clear hj0 hj1 hj2 hj3
        generalize hy0 : bs.getD j0 0 = y0 at *
        generalize hy1 : bs.getD j1 0 = y1 at *
        generalize hy2 : bs.getD j2 0 = y2 at *
        generalize hy3 : bs.getD j3 0 = y3 at *
        have HY := toHid (show bs.getD j0 0 = y0 ∧ bs.getD j1 0 = y1 ∧ bs.getD j2 0 = y2 ∧ bs.getD j3 0 = y3 from ⟨hy0, hy1, hy2, hy3⟩)
        clear hy0 hy1 hy2 hy3 hlen
        generalize (wlN bs t ++ List.replicate (64 - t) 0).getD t 0 = old at *
        obtain ⟨z, hz⟩ : ∃ z, z = w4N y0 y1 y2 y3 := ⟨_, rfl⟩
        have hw : bits .or .u32 (bits .or .u32 (bits .or .u32 ((y0 : Int) * 16777216) ((y1 : Int) * 65536)) ((y2 : Int) * 256)) (y3 : Int) = (z : Int) := by
          have h1 := u32_or_nat (y0 * 16777216) (y1 * 65536) (by omega) (by omega)
          have h2 := u32_or_nat (y0 * 16777216 ||| y1 * 65536) (y2 * 256) (or32 (by omega) (by omega)) (by omega)
          have h3 := u32_or_nat (y0 * 16777216 ||| y1 * 65536 ||| y2 * 256) y3 (or32 (or32 (by omega) (by omega)) (by omega)) (by omega)
          rw [hz]
          unfold w4N
          rw [← h3, ← h2, ← h1]
          simp
        have HN : Hid ((wlN bs t ++ List.replicate (64 - t) 0).set t z = wlN bs (t + 1) ++ List.replicate (64 - (t + 1)) 0) := by
          obtain ⟨q0, q1, q2, q3⟩ := HJ.out
          obtain ⟨v0, v1, v2, v3⟩ := HY.out
          refine wl_set ht6 ?_
          rw [if_pos ht1, ← q3, ← q2, ← q1, ← q0, v0, v1, v2, v3, hz]
        clear hz
        go_wp2_with fail
        go_region
        all_goals
          go_wp2_with fail
          go_roundw
          case rel => exact ⟨t + 1, by omega, by go_num, by unfold Hid; rw [← HN.out]; exact (HA.out.set t z), HK.out.next ((Kept.refl (fun b => b = w.heap.size + 1 + 1) wr).setCell ⟨w.heap.size + 1 + 1, t, none⟩ (fun _ => rfl) (.int .u32 (z : Nat))).drew (fun x _ h => h)⟩
          case measure => simp [intOf]; omega
      · have g2 : ¬ (t : Int) < 16 := by omega
        obtain ⟨i16, hi16⟩ : ∃ j, j = t - 16 := ⟨_, rfl⟩
        obtain ⟨i15, hi15⟩ : ∃ j, j = t - 15 := ⟨_, rfl⟩
        obtain ⟨i7, hi7⟩ : ∃ j, j = t - 7 := ⟨_, rfl⟩
        obtain ⟨i2, hi2⟩ : ∃ j, j = t - 2 := ⟨_, rfl⟩
        have w16 : IntKind.i64.wrap ((t : Int) - 16) = (i16 : Int) := by rw [IntKind.wrap_i64]; omega
        have w15 : IntKind.i64.wrap ((t : Int) - 15) = (i15 : Int) := by rw [IntKind.wrap_i64]; omega
        have w7 : IntKind.i64.wrap ((t : Int) - 7) = (i7 : Int) := by rw [IntKind.wrap_i64]; omega
        have w2 : IntKind.i64.wrap ((t : Int) - 2) = (i2 : Int) := by rw [IntKind.wrap_i64]; omega
        have b16 : (i16 : Int) < 64 := by omega
        have b15 : (i15 : Int) < 64 := by omega
        have b7 : (i7 : Int) < 64 := by omega
        have b2 : (i2 : Int) < 64 := by omega
        have n16 : ¬ i16 = t := by omega
        have n7 : ¬ i7 = t := by omega
        have hcell : ∀ i, i < t → wr.cell? ⟨w.heap.size + 1 + 1, i, none⟩ = some (.int .u32 ((wlN bs t).getD i 0 : Nat)) := fun i hi => by
          rw [HA.out.cell i (by omega), List.getD_eq_getElem?_getD, List.getElem?_append_left (by rw [wlN_length]; exact hi), ← List.getD_eq_getElem?_getD]
        have c16 := hcell i16 (by omega)
        have c15 := hcell i15 (by omega)
        have c7 := hcell i7 (by omega)
        have c2 := hcell i2 (by omega)
        have hlt : ∀ i, (wlN bs t).getD i 0 < 4294967296 := fun i => (wlN_digs HBD.out t).getD (by omega) i
        obtain ⟨X, hX⟩ : ∃ X, X = (wlN bs t).getD i15 0 := ⟨_, rfl⟩
        obtain ⟨Y, hY⟩ : ∃ Y, Y = (wlN bs t).getD i2 0 := ⟨_, rfl⟩
        obtain ⟨P, hP⟩ : ∃ P, P = (wlN bs t).getD i16 0 := ⟨_, rfl⟩
        obtain ⟨Q, hQ⟩ : ∃ Q, Q = (wlN bs t).getD i7 0 := ⟨_, rfl⟩
        have lX : X < 4294967296 := by rw [hX]; exact hlt _
        have lY : Y < 4294967296 := by rw [hY]; exact hlt _
        have lP : P < 4294967296 := by rw [hP]; exact hlt _
        have lQ : Q < 4294967296 := by rw [hQ]; exact hlt _
        rw [← hX] at c15
        rw [← hY] at c2
        rw [← hP] at c16
        rw [← hQ] at c7
        obtain ⟨z, hz⟩ : ∃ z, z = (P + s0N X + Q + s1N Y) % 4294967296 := ⟨_, rfl⟩
        have HN : Hid ((wlN bs t ++ List.replicate (64 - t) 0).set t z = wlN bs (t + 1) ++ List.replicate (64 - (t + 1)) 0) := by
          refine wl_set ht6 ?_
          rw [if_neg ht1, ← hi16, ← hi15, ← hi7, ← hi2, ← hX, ← hY, ← hP, ← hQ, hz]
        have T7 : ∀ W', Calls Tryd.prog 47 #[.int .u32 (X : Int), .int .i64 7] W' fun e w' => e = .returned (.int .u32 ((rot32 X 7 : Nat) : Int)) ∧ w' = W' := fun W' => r11Turn X 7 lX (by omega) W'
        have T18 : ∀ W', Calls Tryd.prog 47 #[.int .u32 (X : Int), .int .i64 18] W' fun e w' => e = .returned (.int .u32 ((rot32 X 18 : Nat) : Int)) ∧ w' = W' := fun W' => r11Turn X 18 lX (by omega) W'
        have T17 : ∀ W', Calls Tryd.prog 47 #[.int .u32 (Y : Int), .int .i64 17] W' fun e w' => e = .returned (.int .u32 ((rot32 Y 17 : Nat) : Int)) ∧ w' = W' := fun W' => r11Turn Y 17 lY (by omega) W'
        have T19 : ∀ W', Calls Tryd.prog 47 #[.int .u32 (Y : Int), .int .i64 19] W' fun e w' => e = .returned (.int .u32 ((rot32 Y 19 : Nat) : Int)) ∧ w' = W' := fun W' => r11Turn Y 19 lY (by omega) W'
        have hx0 : bits .xor .u32 (bits .xor .u32 ((rot32 X 7 : Nat) : Int) ((rot32 X 18 : Nat) : Int)) ((X : Int) / 8) = ((s0N X : Nat) : Int) := by
          have h1 := u32_xor_nat (rot32 X 7) (rot32 X 18) (rot32_lt _ _ lX) (rot32_lt _ _ lX)
          have h2 := u32_xor_nat (rot32 X 7 ^^^ rot32 X 18) (X / 8) (xor32 (rot32_lt _ _ lX) (rot32_lt _ _ lX)) (by omega)
          unfold s0N
          rw [← h2, ← h1]
          simp
        have hx1 : bits .xor .u32 (bits .xor .u32 ((rot32 Y 17 : Nat) : Int) ((rot32 Y 19 : Nat) : Int)) ((Y : Int) / 1024) = ((s1N Y : Nat) : Int) := by
          have h1 := u32_xor_nat (rot32 Y 17) (rot32 Y 19) (rot32_lt _ _ lY) (rot32_lt _ _ lY)
          have h2 := u32_xor_nat (rot32 Y 17 ^^^ rot32 Y 19) (Y / 1024) (xor32 (rot32_lt _ _ lY) (rot32_lt _ _ lY)) (by omega)
          unfold s1N
          rw [← h2, ← h1]
          simp
        generalize rot32 X 7 = r7 at *
        generalize rot32 X 18 = r18 at *
        generalize rot32 Y 17 = r17 at *
        generalize rot32 Y 19 = r19 at *
        generalize s0N X = a0 at *
        generalize s1N Y = a1 at *
        have J7 := toHid T7
        have J18 := toHid T18
        have J17 := toHid T17
        have J19 := toHid T19
        have HZ := toHid hz
        clear hz hX hY hP hQ hi16 hi15 hi7 hi2 hcell hlt hlen T7 T18 T17 T19
        generalize (wlN bs t ++ List.replicate (64 - t) 0).getD t 0 = old at *
        go_wp2_with fail
        go_quiet (fail)
        have kq : Kept Nought wr (wr.drewN nq) := (Kept.refl _ _).drewN nq
        have d16 := kq.cellN c16
        have d7 := kq.cellN c7
        have dt := kq.cellN hct
        have HA8 := toHid (HA.out.grew kq)
        have HK8 := toHid (HK.out.next kq (fun x _ f => f.elim))
        have ft := HA8.out.free t
        clear c16 c7 c15 c2 hct hft HA HK
        generalize wr.drewN nq = w8 at *
        have e1 : IntKind.u32.wrap ((P : Int) + (a0 : Int)) = ((P + a0) % 4294967296 : Nat) := by rw [IntKind.wrap_u32]; omega
        generalize hq1 : (P + a0) % 4294967296 = q1 at *
        have e2 : IntKind.u32.wrap ((q1 : Int) + (Q : Int)) = ((q1 + Q) % 4294967296 : Nat) := by rw [IntKind.wrap_u32]; omega
        generalize hq2 : (q1 + Q) % 4294967296 = q2 at *
        have e3 : IntKind.u32.wrap ((q2 : Int) + (a1 : Int)) = (z : Int) := by rw [IntKind.wrap_u32, HZ.out]; omega
        clear hq1 hq2
        have m16 : (w8.setCell ⟨w.heap.size + 1 + 1, t, none⟩ (.int .u32 (z : Int))).drew.cell? ⟨w.heap.size + 1 + 1, i16, none⟩ = some (.int .u32 (P : Int)) := by
          have := World.cell?_setCell_other (w := w8) (a := ⟨w.heap.size + 1 + 1, t, none⟩) (b := ⟨w.heap.size + 1 + 1, i16, none⟩) (v := .int .u32 (z : Int)) (fun e => n16 (by cases e; rfl))
          exact this.trans d16
        have m7 : (w8.setCell ⟨w.heap.size + 1 + 1, t, none⟩ (.int .u32 (z : Int))).drew.cell? ⟨w.heap.size + 1 + 1, i7, none⟩ = some (.int .u32 (Q : Int)) := by
          have := World.cell?_setCell_other (w := w8) (a := ⟨w.heap.size + 1 + 1, t, none⟩) (b := ⟨w.heap.size + 1 + 1, i7, none⟩) (v := .int .u32 (z : Int)) (fun e => n7 (by cases e; rfl))
          exact this.trans d7
        go_wp2_with fail
        go_region_held3 (fun w' => w'.cell? ⟨w.heap.size + 1 + 1, i16, none⟩ = some (.int .u32 (P : Int)) ∧ w'.cell? ⟨w.heap.size + 1 + 1, i7, none⟩ = some (.int .u32 (Q : Int)))
          (((try dsimp only); (repeat' apply And.intro) <;> first | (go_keep; done) | assumption))
          (first
          | (go_at_call_of 47 (Value.int IntKind.i64 7); refine (J7.out _).mono ?_; rintro e w9 ⟨rfl, rfl⟩)
          | (go_at_call_of 47 (Value.int IntKind.i64 18); refine (J18.out _).mono ?_; rintro e w9 ⟨rfl, rfl⟩)
          | (go_at_call_of 47 (Value.int IntKind.i64 17); refine (J17.out _).mono ?_; rintro e w9 ⟨rfl, rfl⟩)
          | (go_at_call_of 47 (Value.int IntKind.i64 19); refine (J19.out _).mono ?_; rintro e w9 ⟨rfl, rfl⟩))
        all_goals
          go_wp2_with fail
          go_roundw
          case rel => exact ⟨t + 1, by omega, by go_num, by unfold Hid; rw [← HN.out]; exact (HA8.out.set t z), HK8.out.next ((Kept.refl (fun b => b = w.heap.size + 1 + 1) w8).setCell ⟨w.heap.size + 1 + 1, t, none⟩ (fun _ => rfl) (.int .u32 (z : Nat))).drew (fun x _ h => h)⟩
          case measure => simp [intOf]; omega
    · have g1 : ¬ (t : Int) < 64 := by omega
      have hA := HA.out
      rw [show t = 64 by omega, Nat.sub_self, List.replicate_zero, List.append_nil] at hA
      obtain ⟨ws, hws⟩ : ∃ ws, ws = wlN bs 64 := ⟨_, rfl⟩
      rw [← hws] at hA
      have hwl : ws.length = 64 := by rw [hws]; exact wlN_length _ _
      have hwd : Digs 4294967296 ws := by rw [hws]; exact wlN_digs HBD.out _
      have hS := HS0.out.kept HK.out (by omega)
      have hO := HO0.out.kept HK.out (by omega)
      have KW := toHid (HK0.out.next HK.out (fun x hx e => by have e' : x = w.heap.size + 1 + 1 := e; omega))
      have a0 := hS.cell 0 (by simp)
      have a1 := hS.cell 1 (by simp)
      have a2 := hS.cell 2 (by simp)
      have a3 := hS.cell 3 (by simp)
      have a4 := hS.cell 4 (by simp)
      have a5 := hS.cell 5 (by simp)
      have a6 := hS.cell 6 (by simp)
      have a7 := hS.cell 7 (by simp)
      have HWS := toHid hws
      have HSA := toHid hS
      have HOA := toHid hO
      have HAA := toHid hA
      clear hA hS hO HA HK hws JB HA0 HS0 HO0 HW HK0 ht
      go_wp2_with fail
      obtain ⟨R, hR⟩ : ∃ R, R = wr.heap.size := ⟨_, rfl⟩
      obtain ⟨W2, hW2⟩ : ∃ W2, W2 = wr.alloc (.cells #[.int .u32 (s0 : Int), .int .u32 (s1 : Int), .int .u32 (s2 : Int), .int .u32 (s3 : Int), .int .u32 (s4 : Int), .int .u32 (s5 : Int), .int .u32 (s6 : Int), .int .u32 (s7 : Int)] 45) := ⟨_, rfl⟩
      have k2 : Kept Nought wr W2 := by rw [hW2]; exact (Kept.refl _ _).alloc _
      have hR2 : Arr .u32 45 W2 R [s0, s1, s2, s3, s4, s5, s6, s7] := by rw [hW2, hR]; exact heap_alloc_new _ _
      have hS2 := HSA.out.grew k2
      have hO2 := HOA.out.grew k2
      have hA2 := HAA.out.grew k2
      have KW2 := toHid (KW.out.trans k2)
      have hRg : w.heap.size + 1 + 1 < R := by rw [hR]; exact lt_of_block HAA.out
      rw [← hW2, ← hR]
      have HR2 := toHid hR2
      have HS2 := toHid hS2
      have HO2 := toHid hO2
      have HA2 := toHid hA2
      clear hR hW2 k2 hR2 hS2 hO2 hA2 a0 a1 a2 a3 a4 a5 a6 a7 HSA HOA HAA KW
      go_loopw [11] (fun i wr2 => ∃ u : Nat, u ≤ 64 ∧ i = .int .i64 (u : Int) ∧ Hid (Arr .u32 45 wr2 R (rndsN ws [s0, s1, s2, s3, s4, s5, s6, s7] u)) ∧ Hid (Kept (fun b => b = R) W2 wr2)) (fun i _ => 64 - (intOf i).toNat)
      case atStart => exact ⟨0, by omega, rfl, HR2.out, Kept.refl _ _⟩
      case round =>
        obtain ⟨u, hu, rfl, HR, HK⟩ := hrel
        by_cases hu6 : u < 64
        · have v1 : (u : Int) < 64 := by omega
          have v0 : (0 : Int) ≤ (u : Int) := by omega
          obtain ⟨r, hr⟩ : ∃ r, r = rndsN ws [s0, s1, s2, s3, s4, s5, s6, s7] u := ⟨_, rfl⟩
          have hrl : r.length = 8 := by rw [hr]; exact rndsN_length _ _ rfl _
          have hrd : Digs 4294967296 r := by rw [hr]; exact rndsN_digs hsd _
          have hRR := HR.out
          rw [← hr] at hRR
          have HNX : Hid (rndsN ws [s0, s1, s2, s3, s4, s5, s6, s7] (u + 1) = rndN r (K256.getD u 0) (ws.getD u 0)) := by rw [hr]; rfl
          have c0 := hRR.cell 0 (by omega)
          have c1 := hRR.cell 1 (by omega)
          have c2 := hRR.cell 2 (by omega)
          have c3 := hRR.cell 3 (by omega)
          have c4 := hRR.cell 4 (by omega)
          have c5 := hRR.cell 5 (by omega)
          have c6 := hRR.cell 6 (by omega)
          have c7 := hRR.cell 7 (by omega)
          have hl : ∀ i, r.getD i 0 < 4294967296 := fun i => hrd.getD (by omega) i
          have l0 := hl 0
          have l1 := hl 1
          have l2 := hl 2
          have l3 := hl 3
          have l4 := hl 4
          have l5 := hl 5
          have l6 := hl 6
          have l7 := hl 7
          have hAu := HA2.out.kept HK.out (by have := hRg; omega)
          have cw := hAu.cell u (by omega)
          have lw : ws.getD u 0 < 4294967296 := hwd.getD (by omega) _
          have HRR := toHid hRR
          have HRL := toHid hrl
          unfold rndN at HNX
          generalize r.getD 0 0 = A at *
          generalize r.getD 1 0 = B at *
          generalize r.getD 2 0 = C at *
          generalize r.getD 3 0 = D at *
          generalize r.getD 4 0 = E at *
          generalize r.getD 5 0 = F at *
          generalize r.getD 6 0 = G at *
          generalize r.getD 7 0 = H at *
          generalize ws.getD u 0 = wt at *
          have T6 : ∀ W', Calls Tryd.prog 47 #[.int .u32 (E : Int), .int .i64 6] W' fun e w' => e = .returned (.int .u32 ((rot32 E 6 : Nat) : Int)) ∧ w' = W' := fun W' => r11Turn E 6 l4 (by omega) W'
          have T11 : ∀ W', Calls Tryd.prog 47 #[.int .u32 (E : Int), .int .i64 11] W' fun e w' => e = .returned (.int .u32 ((rot32 E 11 : Nat) : Int)) ∧ w' = W' := fun W' => r11Turn E 11 l4 (by omega) W'
          have T25 : ∀ W', Calls Tryd.prog 47 #[.int .u32 (E : Int), .int .i64 25] W' fun e w' => e = .returned (.int .u32 ((rot32 E 25 : Nat) : Int)) ∧ w' = W' := fun W' => r11Turn E 25 l4 (by omega) W'
          have T2 : ∀ W', Calls Tryd.prog 47 #[.int .u32 (A : Int), .int .i64 2] W' fun e w' => e = .returned (.int .u32 ((rot32 A 2 : Nat) : Int)) ∧ w' = W' := fun W' => r11Turn A 2 l0 (by omega) W'
          have T13 : ∀ W', Calls Tryd.prog 47 #[.int .u32 (A : Int), .int .i64 13] W' fun e w' => e = .returned (.int .u32 ((rot32 A 13 : Nat) : Int)) ∧ w' = W' := fun W' => r11Turn A 13 l0 (by omega) W'
          have T22 : ∀ W', Calls Tryd.prog 47 #[.int .u32 (A : Int), .int .i64 22] W' fun e w' => e = .returned (.int .u32 ((rot32 A 22 : Nat) : Int)) ∧ w' = W' := fun W' => r11Turn A 22 l0 (by omega) W'
          have TK : ∀ W', Calls Tryd.prog 48 #[.int .i64 (u : Int)] W' fun e w' => e = .returned (.int .u32 ((K256.getD u 0 : Nat) : Int)) ∧ Kept Nought W' w' := fun W' => r11K u hu6 W'
          obtain ⟨kt, hkt⟩ : ∃ kt, kt = K256.getD u 0 := ⟨_, rfl⟩
          rw [← hkt] at TK HNX
          have lk : kt < 4294967296 := by rw [hkt]; exact K256_lt.getD (by omega) u
          have f1 := xor3 (rot32_lt E 6 l4) (rot32_lt E 11 l4) (rot32_lt E 25 l4)
          have f2 := ch_bits l4 l5 l6
          have f3 := xor3 (rot32_lt A 2 l0) (rot32_lt A 13 l0) (rot32_lt A 22 l0)
          have f4 := maj_bits l0 l1 l2
          rw [show rot32 E 6 ^^^ rot32 E 11 ^^^ rot32 E 25 = S1N E from rfl] at f1
          rw [show rot32 A 2 ^^^ rot32 A 13 ^^^ rot32 A 22 = S0N A from rfl] at f3
          generalize rot32 E 6 = x6 at *
          generalize rot32 E 11 = x11 at *
          generalize rot32 E 25 = x25 at *
          generalize rot32 A 2 = x2 at *
          generalize rot32 A 13 = x13 at *
          generalize rot32 A 22 = x22 at *
          generalize S1N E = σ1 at *
          generalize chN E F G = ch at *
          generalize S0N A = σ0 at *
          generalize majN A B C = mj at *
          obtain ⟨t1, ht1⟩ : ∃ t1, t1 = (H + σ1 + ch + kt + wt) % 4294967296 := ⟨_, rfl⟩
          obtain ⟨t2, ht2⟩ : ∃ t2, t2 = (σ0 + mj) % 4294967296 := ⟨_, rfl⟩
          obtain ⟨nA, hnA⟩ : ∃ nA, nA = (t1 + t2) % 4294967296 := ⟨_, rfl⟩
          obtain ⟨nE, hnE⟩ : ∃ nE, nE = (D + t1) % 4294967296 := ⟨_, rfl⟩
          have HNX' : Hid (rndsN ws [s0, s1, s2, s3, s4, s5, s6, s7] (u + 1) = [nA, A, B, C, nE, E, F, G]) := by
            unfold Hid
            rw [HNX.out, show (H + σ1 + ch + kt + wt + (σ0 + mj)) % 4294967296 = nA by omega, show (D + (H + σ1 + ch + kt + wt)) % 4294967296 = nE by omega]
          have q4 : IntKind.u32.wrap (IntKind.u32.wrap (IntKind.u32.wrap (IntKind.u32.wrap ((H : Int) + (σ1 : Int)) + (ch : Int)) + (kt : Int)) + (wt : Int)) = (t1 : Int) := by simp only [IntKind.wrap_u32]; omega
          have q5 : ((σ0 : Int) + (mj : Int)) % 4294967296 = (t2 : Int) := by omega
          have q6 : ((t1 : Int) + (t2 : Int)) % 4294967296 = (nA : Int) := by omega
          have q7 : ((D : Int) + (t1 : Int)) % 4294967296 = (nE : Int) := by omega
          clear hkt ht1 ht2 hnA hnE HNX
          have J6 := toHid T6
          have J11 := toHid T11
          have J25 := toHid T25
          have J2 := toHid T2
          have J13 := toHid T13
          have J22 := toHid T22
          have JK := toHid TK
          clear T6 T11 T25 T2 T13 T22 TK hl hr hrl hrd hRR HR hAu
          go_wp2_with fail
          go_quiet (fail)
          have kq : Kept Nought wr (wr.drewN nq) := (Kept.refl _ _).drewN nq
          have d7 := kq.cellN c7
          have d3 := kq.cellN c3
          have dw := kq.cellN cw
          have HR8 := toHid (HRR.out.grew kq)
          have HK8 := toHid (HK.out.next kq (fun x _ f => f.elim))
          clear c0 c1 c2 c3 c4 c5 c6 c7 cw HRR HK
          generalize wr.drewN nq = w8 at *
          go_wp2_with fail
          go_region_held3 (fun w' => w'.cell? ⟨R, 7, none⟩ = some (.int .u32 (H : Int)) ∧ w'.cell? ⟨w.heap.size + 1 + 1, u, none⟩ = some (.int .u32 (wt : Int)))
            (((try dsimp only); (repeat' apply And.intro) <;> first | (go_keep; done) | assumption))
            (first
            | (go_at_call_of 47 (Value.int IntKind.i64 6); refine (J6.out _).mono ?_; rintro e w9 ⟨rfl, rfl⟩)
            | (go_at_call_of 47 (Value.int IntKind.i64 11); refine (J11.out _).mono ?_; rintro e w9 ⟨rfl, rfl⟩)
            | (go_at_call_of 47 (Value.int IntKind.i64 25); refine (J25.out _).mono ?_; rintro e w9 ⟨rfl, rfl⟩)
            | (go_at_call 48; refine (JK.out _).mono ?_; rintro e w10 ⟨rfl, k10⟩; have k10' := (Kept.refl Nought w8).drew.trans k10; have m7 := k10'.cellN d7; have mw := k10'.cellN dw))
          all_goals
            have n3 := k10'.cellN d3
            have HR9 := toHid (HR8.out.grew k10')
            have HK9 := toHid (HK8.out.next k10' (fun x _ f => f.elim))
            have n0' := HR9.out.cell 0 (by have := HRL.out; omega)
            have n1' := HR9.out.cell 1 (by have := HRL.out; omega)
            have n2' := HR9.out.cell 2 (by have := HRL.out; omega)
            have n4' := HR9.out.cell 4 (by have := HRL.out; omega)
            have n5' := HR9.out.cell 5 (by have := HRL.out; omega)
            have n6' := HR9.out.cell 6 (by have := HRL.out; omega)
            have n7' := HR9.out.cell 7 (by have := HRL.out; omega)
            have o0 := HR9.out.free 0
            have o1 := HR9.out.free 1
            have o2 := HR9.out.free 2
            have o3 := HR9.out.free 3
            have o4 := HR9.out.free 4
            have o5 := HR9.out.free 5
            have o6 := HR9.out.free 6
            have o7 := HR9.out.free 7
            clear d7 dw d3 k10 k10' m7 mw HR8 HK8
            go_wp2_with fail
            refine (J2.out _).mono ?_
            rintro e w11 ⟨rfl, rfl⟩
            go_wp2_with fail
            refine (J13.out _).mono ?_
            rintro e w11 ⟨rfl, rfl⟩
            go_wp2_with fail
            refine (J22.out _).mono ?_
            rintro e w11 ⟨rfl, rfl⟩
            go_wp2_with fail
            go_roundw
            case rel => exact ⟨u + 1, by omega, by go_num, by unfold Hid; rw [HNX'.out]; exact HR9.out.put8 HRL.out _ _ _ _ _ _ _ _, HK9.out.next (kept8 _ R _ _ _ _ _ _ _ _) (fun x _ h => h)⟩
            case measure => simp [intOf]; omega
        · have v1 : ¬ (u : Int) < 64 := by omega
          have hRR := HR.out
          rw [show u = 64 by omega] at hRR
          obtain ⟨r, hr⟩ : ∃ r, r = rndsN ws [s0, s1, s2, s3, s4, s5, s6, s7] 64 := ⟨_, rfl⟩
          rw [← hr] at hRR
          have hrl : r.length = 8 := by rw [hr]; exact rndsN_length _ _ rfl _
          have hrd : Digs 4294967296 r := by rw [hr]; exact rndsN_digs hsd _
          have HFin : Hid (blkN [s0, s1, s2, s3, s4, s5, s6, s7] bs = (List.range 8).map fun i => (r.getD i 0 + [s0, s1, s2, s3, s4, s5, s6, s7].getD i 0) % 4294967296) := by
            unfold Hid blkN
            rw [hr, HWS.out]
          have hS3 := HS2.out.kept HK.out (by have := hRg; omega)
          have hO3 := HO2.out.kept HK.out (by have := hRg; omega)
          have HS3 := toHid hS3
          have HO3 := toHid hO3
          have HR3 := toHid hRR
          have KW3 := toHid (KW2.out.next HK.out (fun x hx e => by have e' : x = R := e; have := hRg; omega))
          clear hr hRR hS3 hO3 HR HK HR2 HS2 HO2 HA2 KW2 HWS
          obtain ⟨sl, hsl⟩ : ∃ sl, sl = [s0, s1, s2, s3, s4, s5, s6, s7] := ⟨_, rfl⟩
          have hsll : sl.length = 8 := by rw [hsl]; rfl
          have hsdl : Digs 4294967296 sl := by rw [hsl]; exact hsd
          rw [← hsl] at HS3 HFin
          have HSL := toHid hsl
          obtain ⟨W3, hW3⟩ : ∃ W3, W3 = wr := ⟨_, rfl⟩
          have HW3 := toHid hW3
          rw [← hW3] at HS3 HO3 HR3 KW3
          clear hW3 hsl
          go_wp2_with fail
          go_loopw [181] (fun iv wr3 => ∃ i : Nat, i ≤ 8 ∧ iv = .int .i64 (i : Int) ∧ Hid (Arr .u32 45 wr3 R (adN r sl i)) ∧ Hid (Kept (fun b => b = R) W3 wr3)) (fun iv _ => 8 - (intOf iv).toNat)
          case atStart => exact ⟨0, by omega, rfl, by unfold Hid; rw [show adN r sl 0 = r from rfl, ← HW3.out]; exact HR3.out, by rw [← HW3.out]; exact Kept.refl _ _⟩
          case round =>
            obtain ⟨i, hi, rfl, HR, HK⟩ := hrel
            by_cases hi8 : i < 8
            · have y1 : (i : Int) < 8 := by omega
              have y0 : (0 : Int) ≤ (i : Int) := by omega
              have cR := HR.out.cell i (by rw [adN_length hrl hi]; exact hi8)
              have oR := HR.out.free i
              have hSi := HS3.out.kept HK.out (by have := hRg; omega)
              have cS := hSi.cell i (by rw [hsll]; exact hi8)
              rw [adN_at] at cR
              have lr : r.getD i 0 < 4294967296 := hrd.getD (by omega) _
              have ls : sl.getD i 0 < 4294967296 := hsdl.getD (by omega) _
              obtain ⟨z, hz⟩ : ∃ z, z = (r.getD i 0 + sl.getD i 0) % 4294967296 := ⟨_, rfl⟩
              have HN := toHid (adN_set (s := sl) hrl hi8 hz)
              generalize r.getD i 0 = xr at *
              generalize sl.getD i 0 = xs at *
              have e1 : IntKind.u32.wrap ((xr : Int) + (xs : Int)) = (z : Int) := by rw [IntKind.wrap_u32]; omega
              have e2 : ((xr : Int) + (xs : Int)) % 4294967296 = (z : Int) := by omega
              clear hz hSi
              go_wp2_with fail
              go_region
              all_goals
                go_wp2_with fail
                go_roundw
                case rel => exact ⟨i + 1, by omega, by go_num, by unfold Hid; rw [← HN.out]; exact (HR.out.set i z), HK.out.next ((Kept.refl (fun b => b = R) wr).setCell ⟨R, i, none⟩ (fun _ => rfl) (.int .u32 (z : Nat))).drew (fun x _ h => h)⟩
                case measure => simp [intOf]; omega
            · have y1 : ¬ (i : Int) < 8 := by omega
              have hRR := HR.out
              rw [show i = 8 by omega] at hRR
              have e8 : adN r sl 8 = blkN sl bs := by
                rw [HFin.out]
                unfold adN
                rw [List.drop_of_length_le (by omega), List.append_nil]
              rw [e8] at hRR
              have hL8 : (blkN sl bs).length = 8 := by rw [HFin.out]; simp
              obtain ⟨z0, z1, z2, z3, z4, z5, z6, z7, hzz⟩ : ∃ z0 z1 z2 z3 z4 z5 z6 z7, blkN sl bs = [z0, z1, z2, z3, z4, z5, z6, z7] := by
                match h : blkN sl bs, hL8 with
                | [a, b, c, d, e, f, g, h'], _ => exact ⟨a, b, c, d, e, f, g, h', rfl⟩
              rw [hzz] at hRR
              have HZZ := toHid hzz
              have hOO := HO3.out.kept HK.out (by have := hRg; omega)
              have r0 := hRR.cell 0 (by simp)
              have r1 := hRR.cell 1 (by simp)
              have r2 := hRR.cell 2 (by simp)
              have r3 := hRR.cell 3 (by simp)
              have r4 := hRR.cell 4 (by simp)
              have r5 := hRR.cell 5 (by simp)
              have r6 := hRR.cell 6 (by simp)
              have r7 := hRR.cell 7 (by simp)
              have p0 := hOO.cell 0 (by simp)
              have p1 := hOO.cell 1 (by simp)
              have p2 := hOO.cell 2 (by simp)
              have p3 := hOO.cell 3 (by simp)
              have p4 := hOO.cell 4 (by simp)
              have p5 := hOO.cell 5 (by simp)
              have p6 := hOO.cell 6 (by simp)
              have p7 := hOO.cell 7 (by simp)
              have o0 := hOO.free 0
              have o1 := hOO.free 1
              have o2 := hOO.free 2
              have o3 := hOO.free 3
              have o4 := hOO.free 4
              have o5 := hOO.free 5
              have o6 := hOO.free 6
              have o7 := hOO.free 7
              have hF := hOO.put8 rfl z0 z1 z2 z3 z4 z5 z6 z7
              have x0 := hF.cell 0 (by simp)
              have x1 := hF.cell 1 (by simp)
              have x2 := hF.cell 2 (by simp)
              have x3 := hF.cell 3 (by simp)
              have x4 := hF.cell 4 (by simp)
              have x5 := hF.cell 5 (by simp)
              have x6 := hF.cell 6 (by simp)
              have x7 := hF.cell 7 (by simp)
              have KF := toHid ((KW3.out.next HK.out (fun x hx e => by have e' : x = R := e; have := hRg; omega)).next (kept8 wr (w.heap.size + 1) (.int .u32 (z0 : Nat)) (.int .u32 (z1 : Nat)) (.int .u32 (z2 : Nat)) (.int .u32 (z3 : Nat)) (.int .u32 (z4 : Nat)) (.int .u32 (z5 : Nat)) (.int .u32 (z6 : Nat)) (.int .u32 (z7 : Nat))) (fun x hx e => by have e' : x = w.heap.size + 1 := e; omega))
              clear hRR hOO hF e8 hL8 hzz HR HK HS3 HO3 HR3 KW3 HFin
              go_wp2_with fail
              rw [← HSL.out, HZZ.out]
              exact bodyPost_ret (v := .tuple #[.agg #[.int .u32 (z0 : Nat), .int .u32 (z1 : Nat), .int .u32 (z2 : Nat), .int .u32 (z3 : Nat), .int .u32 (z4 : Nat), .int .u32 (z5 : Nat), .int .u32 (z6 : Nat), .int .u32 (z7 : Nat)], .bool true]) (by simp [results, Tryd.results38, go_sem, x0, x1, x2, x3, x4, x5, x6, x7]) rfl ⟨rfl, KF.out⟩

end Go.Proofs.YthnkganmccgaeaaDoor

