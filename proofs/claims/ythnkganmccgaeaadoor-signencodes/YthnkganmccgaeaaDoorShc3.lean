/- Package sha512: expand: a block's words. -/
import Derived.Test.YthnkganmccgaeaaDoorShc1
import Derived.Test.YthnkganmccgaeaaDoorShb3
import Derived.BigRegion
namespace Go.Proofs.YthnkganmccgaeaaDoor
open Go.RowKit

set_option maxRecDepth 40000 in
set_option maxHeartbeats 4000000 in
/-- expand of 128 bytes. -/
theorem mExpand (ao : Option Addr) (cap : Nat) (bs : List Nat) (w : World) (hb : Row .u8 w (.slice ao 128 cap) bs) (hbd : Digs 256 bs) :
    Calls Tryd.prog 57 #[.slice ao 128 cap] w fun e w' => e = .returned (.agg ((wlM bs 80).map fun z => Value.int .u64 (z : Nat)).toArray) ∧ Kept Nought w w' := by
  obtain ⟨_, _, _, e1, hLb, _, _, _, hnum⟩ := hb.open
  cases e1
  obtain ⟨bb, off, e1, _⟩ := hnum 0 (by omega)
  cases e1
  have hne : bs ≠ [] := fun e => by have := hLb.out; rw [e] at this; simp at this
  have hbl : bb < w.heap.size := hb.lt hne bb rfl
  obtain ⟨W, hW⟩ : ∃ W, W = (w.alloc (.cells ((List.replicate 80 0).map fun z : Nat => Value.int .u64 (z : Int)).toArray 68)).alloc (.cells ((List.replicate 80 0).map fun z : Nat => Value.int .u64 (z : Int)).toArray 68) := ⟨_, rfl⟩
  have k0 : Kept Nought w W := by rw [hW]; exact ((Kept.refl Nought w).alloc _).alloc _
  have hO0 : Arr .u64 68 W w.heap.size (List.replicate 80 0) := by rw [hW]; exact heapAt_alloc (heap_alloc_new w _)
  have hA0 : Arr .u64 68 W (w.heap.size + 1) (List.replicate 80 0) := by
    rw [hW]
    have := heap_alloc_new (w.alloc (.cells ((List.replicate 80 0).map fun z : Nat => Value.int .u64 (z : Int)).toArray 68)) (.cells ((List.replicate 80 0).map fun z : Nat => Value.int .u64 (z : Int)).toArray 68)
    rwa [show (w.alloc (.cells ((List.replicate 80 0).map fun z : Nat => Value.int .u64 (z : Int)).toArray 68)).heap.size = w.heap.size + 1 by simp] at this
  have JB : Hid (∀ wr, Kept (fun b => b = w.heap.size + 1) W wr → ∀ i, i < 128 → wr.cell? ⟨bb, off + i, none⟩ = some (.int .u8 (bs.getD i 0 : Nat))) := fun wr k i hi => by
    have hr := (hb.grew k0).kept k (fun b hb' e => by
      cases hb'
      have e' : bb = w.heap.size + 1 := e
      omega)
    obtain ⟨_, _, _, e1, _, _, _, _, hn⟩ := hr.open
    cases e1
    obtain ⟨_, _, e2, hc⟩ := hn i hi
    cases e2
    exact hc
  have HBD := toHid hbd
  have HO0 := toHid hO0
  have HA0 := toHid hA0
  have HK0 := toHid k0
  have HW : Hid (W = (w.alloc (.cells Tryd.zeroCells68 68)).alloc (.cells Tryd.zeroCells68 68)) := hW
  clear hW hO0 hA0 k0 hb hbd hnum hLb hne
  go_enter Tryd.func57, Tryd.ntmps57
  go_wp2_with fail
  first
    | (rw [zero80]; go_wp2_with fail; rw [zero80]; go_wp2_with fail)
    | skip
  rw [← HW.out]
  go_loopw [10] (fun i wr => ∃ t : Nat, t ≤ 128 ∧ i = .int .i64 (t : Int) ∧ Hid (Arr .u64 68 wr (w.heap.size + 1) (exM bs t)) ∧ Hid (Kept (fun b => b = w.heap.size + 1) W wr)) (fun i _ => 128 - (intOf i).toNat)
  case atStart => exact ⟨0, by omega, rfl, by unfold Hid; rw [exM_zero]; exact HA0.out, Kept.refl _ _⟩
  case round =>
    obtain ⟨t, ht, rfl, HA, HK⟩ := hrel
    by_cases ht6 : t < 128
    · have g1 : (t : Int) < 128 := by omega
      have g0 : (0 : Int) ≤ (t : Int) := by omega
      obtain ⟨q, hq⟩ : ∃ q, q = t / 8 := ⟨_, rfl⟩
      have gq : (t : Int).tdiv 8 = (q : Int) := by rw [Int.tdiv_eq_ediv_of_nonneg g0]; omega
      have gq' : (t : Int) / 8 = (q : Int) := by omega
      have gq0 : (0 : Int) ≤ (q : Int) := by omega
      have gq1 : (q : Int) < 80 := by omega
      have hct := HA.out.cell q (by rw [exM_length]; omega)
      have hft := HA.out.free q
      rw [hq, exM_at ht6, ← hq] at hct
      have cb := JB.out wr HK.out t ht6
      have x0 : bs.getD t 0 < 256 := HBD.out.getD (by omega) _
      have x1 : pwM bs q (t % 8) < 72057594037927936 := by
        have := pwM_lt HBD.out q (t % 8)
        have h3 : 256 ^ (t % 8) ≤ 256 ^ 7 := Nat.pow_le_pow_right (by omega) (by omega)
        omega
      obtain ⟨z, hz⟩ : ∃ z, z = pwM bs q (t % 8) * 256 + bs.getD t 0 := ⟨_, rfl⟩
      have HN : Hid ((exM bs t).set q z = exM bs (t + 1)) := by rw [hq]; exact exM_set (by rw [← hq]; exact hz)
      generalize bs.getD t 0 = y at *
      generalize pwM bs q (t % 8) = p at *
      have e1 : IntKind.u64.wrap ((p : Int) * 256) = ((p * 256 : Nat) : Int) := by rw [IntKind.wrap_u64]; omega
      have e2 := u64_or_nat (p * 256) y (by omega) (by omega)
      have h2 := Nat.two_pow_add_eq_or_of_lt (i := 8) (b := y) (by omega) p
      rw [show p * 256 ||| y = z by rw [hz, show p * 256 = 2 ^ 8 * p by omega, ← h2]] at e2
      generalize hcs : p * 256 = cs at *
      clear hz hq h2 hcs
      go_wp2_with fail
      go_region
      all_goals
        go_wp2_with fail
        go_roundw
        case rel => exact ⟨t + 1, by omega, by go_num, by unfold Hid; rw [← HN.out]; exact (HA.out.set q z), HK.out.next ((Kept.refl (fun b => b = w.heap.size + 1) wr).setCell ⟨w.heap.size + 1, q, none⟩ (fun _ => rfl) (.int .u64 (z : Nat))).drew (fun x _ h => h)⟩
        case measure => simp [intOf]; omega
    · have g1 : ¬ (t : Int) < 128 := by omega
      have hA := HA.out
      rw [show t = 128 by omega, exM_end HBD.out] at hA
      have hO := HO0.out.kept HK.out (by omega)
      have KW1 := toHid (HK0.out.next HK.out (fun x hx e => by have e' : x = w.heap.size + 1 := e; omega))
      have HO1 := toHid hO
      have HA1 := toHid hA
      clear hA hO HA HK JB HA0 HO0 HW HK0 ht
      obtain ⟨w2, hw2⟩ : ∃ w2, w2 = wr := ⟨_, rfl⟩
      have HW2 := toHid hw2
      rw [← hw2] at HO1 HA1 KW1
      clear hw2
      go_wp2_with fail
      go_loopw [5] (fun i wr => ∃ t : Nat, 16 ≤ t ∧ t ≤ 80 ∧ i = .int .i64 (t : Int) ∧ Hid (Arr .u64 68 wr (w.heap.size + 1) (wlM bs t ++ List.replicate (80 - t) 0)) ∧ Hid (Kept (fun b => b = w.heap.size + 1) w2 wr)) (fun i _ => 80 - (intOf i).toNat)
      case atStart => exact ⟨16, by omega, by omega, rfl, by rw [← HW2.out]; exact HA1.out, by rw [← HW2.out]; exact Kept.refl _ _⟩
      case round =>
        obtain ⟨t, ht16, ht, rfl, HA, HK⟩ := hrel
        by_cases ht6 : t < 80
        · have g1 : (t : Int) < 80 := by omega
          have g0 : (0 : Int) ≤ (t : Int) := by omega
          obtain ⟨i16, hi16⟩ : ∃ j, j = t - 16 := ⟨_, rfl⟩
          obtain ⟨i15, hi15⟩ : ∃ j, j = t - 15 := ⟨_, rfl⟩
          obtain ⟨i7, hi7⟩ : ∃ j, j = t - 7 := ⟨_, rfl⟩
          obtain ⟨i2, hi2⟩ : ∃ j, j = t - 2 := ⟨_, rfl⟩
          have w16 : IntKind.i64.wrap ((t : Int) - 16) = (i16 : Int) := by rw [IntKind.wrap_i64]; omega
          have w15 : IntKind.i64.wrap ((t : Int) - 15) = (i15 : Int) := by rw [IntKind.wrap_i64]; omega
          have w7 : IntKind.i64.wrap ((t : Int) - 7) = (i7 : Int) := by rw [IntKind.wrap_i64]; omega
          have w2' : IntKind.i64.wrap ((t : Int) - 2) = (i2 : Int) := by rw [IntKind.wrap_i64]; omega
          have b16 : (i16 : Int) < 80 := by omega
          have b15 : (i15 : Int) < 80 := by omega
          have b7 : (i7 : Int) < 80 := by omega
          have b2 : (i2 : Int) < 80 := by omega
          have hlen : (wlM bs t ++ List.replicate (80 - t) 0).length = 80 := by rw [List.length_append, wlM_length, List.length_replicate]; omega
          have hlt : ∀ i, (wlM bs t).getD i 0 < 18446744073709551616 := fun i => (wlM_digs HBD.out t).getD (by omega) i
          have hcell : ∀ i, i < t → wr.cell? ⟨w.heap.size + 1, i, none⟩ = some (.int .u64 ((wlM bs t).getD i 0 : Nat)) := fun i hi => by
            rw [HA.out.cell i (by omega), List.getD_eq_getElem?_getD, List.getElem?_append_left (by rw [wlM_length]; exact hi), ← List.getD_eq_getElem?_getD]
          have c16 := hcell i16 (by omega)
          have c15 := hcell i15 (by omega)
          have c7 := hcell i7 (by omega)
          have c2 := hcell i2 (by omega)
          have hct := HA.out.cell t (by omega)
          have hft := HA.out.free t
          obtain ⟨X, hX⟩ : ∃ X, X = (wlM bs t).getD i15 0 := ⟨_, rfl⟩
          obtain ⟨Y, hY⟩ : ∃ Y, Y = (wlM bs t).getD i2 0 := ⟨_, rfl⟩
          obtain ⟨P, hP⟩ : ∃ P, P = (wlM bs t).getD i16 0 := ⟨_, rfl⟩
          obtain ⟨Q, hQ⟩ : ∃ Q, Q = (wlM bs t).getD i7 0 := ⟨_, rfl⟩
          have lX : X < 18446744073709551616 := by rw [hX]; exact hlt _
          have lY : Y < 18446744073709551616 := by rw [hY]; exact hlt _
          have lP : P < 18446744073709551616 := by rw [hP]; exact hlt _
          have lQ : Q < 18446744073709551616 := by rw [hQ]; exact hlt _
          rw [← hX] at c15
          rw [← hY] at c2
          rw [← hP] at c16
          rw [← hQ] at c7
          obtain ⟨z, hz⟩ : ∃ z, z = (P + s0M X + Q + s1M Y) % 18446744073709551616 := ⟨_, rfl⟩
          have HN : Hid ((wlM bs t ++ List.replicate (80 - t) 0).set t z = wlM bs (t + 1) ++ List.replicate (80 - (t + 1)) 0) := by
            refine wl_setM ht6 ?_
            rw [if_neg (by omega), ← hi16, ← hi15, ← hi7, ← hi2, ← hX, ← hY, ← hP, ← hQ, hz]
          have l0 := s0M_lt lX
          have l1 := s1M_lt lY
          have J1 : Hid (∀ W, Calls Tryd.prog 61 #[.int .u64 (X : Nat), .int .i64 1] W fun e w' => e = .returned (.int .u64 (rot64 X 1 : Nat)) ∧ w' = W) := fun W => mRight X 1 lX (by omega) (by omega) W
          have J2 : Hid (∀ W, Calls Tryd.prog 61 #[.int .u64 (X : Nat), .int .i64 8] W fun e w' => e = .returned (.int .u64 (rot64 X 8 : Nat)) ∧ w' = W) := fun W => mRight X 8 lX (by omega) (by omega) W
          have J3 : Hid (∀ W, Calls Tryd.prog 61 #[.int .u64 (Y : Nat), .int .i64 19] W fun e w' => e = .returned (.int .u64 (rot64 Y 19 : Nat)) ∧ w' = W) := fun W => mRight Y 19 lY (by omega) (by omega) W
          have J4 : Hid (∀ W, Calls Tryd.prog 61 #[.int .u64 (Y : Nat), .int .i64 61] W fun e w' => e = .returned (.int .u64 (rot64 Y 61 : Nat)) ∧ w' = W) := fun W => mRight Y 61 lY (by omega) (by omega) W
          have hx0 := xor3M (rot64_lt X 1 lX) (rot64_lt X 8 lX) (show X / 128 < 18446744073709551616 by omega)
          have hx1 := xor3M (rot64_lt Y 19 lY) (rot64_lt Y 61 lY) (show Y / 64 < 18446744073709551616 by omega)
          rw [show ((X / 128 : Nat) : Int) = (X : Int) / 128 by omega, show rot64 X 1 ^^^ rot64 X 8 ^^^ X / 128 = s0M X from rfl] at hx0
          rw [show ((Y / 64 : Nat) : Int) = (Y : Int) / 64 by omega, show rot64 Y 19 ^^^ rot64 Y 61 ^^^ Y / 64 = s1M Y from rfl] at hx1
          generalize rot64 X 1 = r1 at *
          generalize rot64 X 8 = r2 at *
          generalize rot64 Y 19 = r3 at *
          generalize rot64 Y 61 = r4 at *
          generalize s0M X = a0 at *
          generalize s1M Y = a1 at *
          have e1 : IntKind.u64.wrap ((P : Int) + (a0 : Int)) = ((P + a0) % 18446744073709551616 : Nat) := by rw [IntKind.wrap_u64]; omega
          generalize hq1 : (P + a0) % 18446744073709551616 = q1 at *
          have e2 : IntKind.u64.wrap ((q1 : Int) + (Q : Int)) = ((q1 + Q) % 18446744073709551616 : Nat) := by rw [IntKind.wrap_u64]; omega
          generalize hq2 : (q1 + Q) % 18446744073709551616 = q2 at *
          have e3 : IntKind.u64.wrap ((q2 : Int) + (a1 : Int)) = (z : Int) := by rw [IntKind.wrap_u64]; omega
          clear hq1 hq2 hz hX hY hP hQ hi16 hi15 hi7 hi2 hlt hlen hcell
          go_wp2_with fail
          go_region
          all_goals
            go_wp2_with fail
            refine (J1.out _).mono ?_
            rintro e w3 ⟨rfl, rfl⟩
            go_wp2_with fail
            refine (J2.out _).mono ?_
            rintro e w3 ⟨rfl, rfl⟩
            go_wp2_with fail
            refine (J3.out _).mono ?_
            rintro e w3 ⟨rfl, rfl⟩
            go_wp2_with fail
            refine (J4.out _).mono ?_
            rintro e w3 ⟨rfl, rfl⟩
            go_wp2_with fail
            go_region
            all_goals
              go_wp2_with fail
              go_roundw
              case rel => exact ⟨t + 1, by omega, by omega, by go_num, by unfold Hid; rw [← HN.out]; exact ((HA.out.grew (Kept.refl Nought wr).drew).set t z), HK.out.next (((Kept.refl (fun b => b = w.heap.size + 1) wr).drew.setCell ⟨w.heap.size + 1, t, none⟩ (fun _ => rfl) (.int .u64 (z : Nat))).drew) (fun x _ h => h)⟩
              case measure => simp [intOf]; omega
        · have g1 : ¬ (t : Int) < 80 := by omega
          have hA := HA.out
          rw [show t = 80 by omega, Nat.sub_self, List.replicate_zero, List.append_nil] at hA
          have hO := HO1.out.kept HK.out (by omega)
          have KW := KW1.out.next HK.out (fun x hx e => by have e' : x = w.heap.size + 1 := e; omega)
          obtain ⟨ws, hws⟩ : ∃ ws, ws = wlM bs 80 := ⟨_, rfl⟩
          have hwl : ws.length = 80 := by rw [hws]; exact wlM_length _ _
          rw [← hws] at hA
          have HWS := toHid hws
          have hi64 : (Tryd.prog.info? 68).map (·.size) = some ((ws.map fun z => Value.int .u64 (z : Nat)).toArray).size := by
            rw [List.size_toArray, List.length_map, hwl]
            kernel_rfl
          have hsz : ((List.replicate 80 0).map fun z : Nat => Value.int .u64 (z : Int)).toArray.size = ((ws.map fun z => Value.int .u64 (z : Nat)).toArray).size := by
            rw [List.size_toArray, List.length_map, List.size_toArray, List.length_map, hwl, List.length_replicate]
          have hone : ((ws.map fun z => Value.int .u64 (z : Nat)).toArray).all (·.oneCell') = true := all_one _ _
          have hfin : Arr .u64 68 (wr.setRow w.heap.size (ws.map fun z => Value.int .u64 (z : Nat)).toArray) w.heap.size ws := setRow_heap wr w.heap.size _ _ _ _ hO
          have KF := KW.next (kept_setRow wr w.heap.size (ws.map fun z => Value.int .u64 (z : Nat)).toArray) (fun x hx e => by have e' : x = w.heap.size := e; omega)
          have HA9 := toHid hA
          have HO9 := toHid hO
          have H64 := toHid hi64
          have HSZ := toHid hsz
          have HON := toHid hone
          have HFI := toHid hfin
          have HKF := toHid KF
          clear hws hA hO hi64 hsz hone hfin KF KW HA HK HO1 HA1 KW1
          go_wp2_with (first
            | refine wpList_load_row rfl 68 _ rfl (w.heap.size + 1) rfl 68 _ (0, 0) _ HA9.out Tryd.underlying68 rfl H64.out ?_
            | refine wpList_store_row rfl 68 _ _ rfl w.heap.size _ rfl rfl 68 _ HO9.out H64.out HSZ.out HON.out ?_)
          rw [← HWS.out]
          exact bodyPost_ret (v := .agg (ws.map fun z => Value.int .u64 (z : Nat)).toArray) (results_cell_row Tryd.results57 _ _ w.heap.size 68 _ (0, 0) _ rfl HFI.out Tryd.underlying68 rfl H64.out) rfl ⟨rfl, HKF.out⟩

end Go.Proofs.YthnkganmccgaeaaDoor
