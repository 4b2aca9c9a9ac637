/- bytes.Repeat of one byte, bytes.Equal. -/
import Derived.Test.YthnkganmccgaeaaDoorCat2
import Derived.Test.YthnkganmccgaeaaDoorShc6
import Derived.Lib.MakeNoZero
namespace Go.Proofs.YthnkganmccgaeaaDoor
open Go.RowKit

set_option maxHeartbeats 1000000 in
/-- bits.Mul64 of one and a small number. -/
theorem sgMul64 (n : Nat) (hn : n < 4294967296) (w : World) :
    Calls Tryd.prog 46 #[.int .u64 1, .int .u64 (n : Nat)] w fun e w' => e = .returned (.tuple #[.int .u64 0, .int .u64 (n : Nat)]) ∧ w' = w := by
  have h1 : bits .and .u64 1 4294967295 = 1 := mask32N 1 (by omega)
  have h2 : bits .and .u64 (n : Int) 4294967295 = (n : Int) := by
    rw [mask32N n (by omega), Nat.mod_eq_of_lt hn]
  have h3 : (n : Int) / 4294967296 = 0 := by omega
  go_enter Tryd.func46, Tryd.ntmps46
  go_wp2_with fail
  go_ret2
  exact ⟨by first | rfl | simp, rfl⟩

set_option maxHeartbeats 400000 in
/-- bits.Mul, of one and a number. -/
theorem sgMul (n : Nat) (hn : n < 4294967296) (w : World) :
    Calls Tryd.prog 34 #[.int .u64 1, .int .u64 (n : Nat)] w fun e w' => e = .returned (.tuple #[.int .u64 0, .int .u64 (n : Nat)]) ∧ w' = w := by
  have h := sgMul64 n hn w
  go_enter Tryd.func34, Tryd.ntmps34
  go_wp2_with fail
  refine h.mono ?_
  rintro e w' ⟨rfl, rfl⟩
  go_wp2
  go_ret2
  exact ⟨rfl, rfl⟩

/-- A block of C cells whose first k hold the byte M. -/
def FillB (w : World) (g M k C : Nat) : Prop := ∃ ts : List Value, w.heap[g]? = some (.cells (((List.replicate k M).map fun z : Nat => Value.int .u8 (z : Int)) ++ ts).toArray 5 (0, 0)) ∧ k + ts.length = C

theorem fillB_step {M k c : Nat} (ts : List Value) (f : Nat → Value) : splice ((List.replicate k M).map f ++ ts) k ((List.replicate c M).map f) = (List.replicate (k + c) M).map f ++ ts.drop c := by
  unfold splice
  simp only [List.map_replicate, List.length_replicate]
  rw [List.take_left' (by simp), List.drop_append, List.drop_eq_nil_of_le (by simp), List.nil_append, List.length_replicate, show k + c - k = c by omega, ← List.append_assoc, List.replicate_append_replicate]

/-- A part that is filled is copied behind itself. -/
theorem FillB.copy {w : World} {g M k C : Nat} (h : FillB w g M k C) (n c m : Nat) (hn : n ≤ C) (hk : k ≤ n) (hc : c = min m (n - k)) (hm : m ≤ k) (ty : TypeId) :
    ∃ w', (Builtin.copy_ #[22, 22] ty #[.slice (some ⟨g, k, none⟩) (n - k) (n - k), .slice (some ⟨g, 0, none⟩) m n]).run Tryd.prog w = .ok (goInt c) w' ∧ FillB w' g M (k + c) C ∧ Kept (fun b => b = g) w w' := by
  obtain ⟨i0, hi0, hz0, hz1, hz2⟩ := info_parts Tryd.info8s
  obtain ⟨ts, hb, hl⟩ := h
  have hlen : ((List.replicate c M).map fun z : Nat => Value.int .u8 (z : Int)).length = c := by rw [List.length_map, List.length_replicate]
  obtain ⟨w3, hrun, hb3, k3⟩ := run_copy_part (P := Tryd.prog) (w := w) 22 22 ty 5 g k (n - k) (n - k) (some ⟨g, k, none⟩) (some ⟨g, 0, none⟩) m n (((List.replicate k M).map fun z : Nat => Value.int .u8 (z : Int)) ++ ts) 5 ((List.replicate c M).map fun z : Nat => Value.int .u8 (z : Int)) Tryd.underlying22 (by rw [hi0]; simp [hz1]) hb (by rw [hlen, hc]) (fun _ => ⟨rfl, _, rfl, fun j u hj => by
      have hjc : j < c := by
        have := (List.getElem?_eq_some_iff.1 hj).1
        rwa [hlen] at this
      rw [List.getElem?_map, List.getElem?_replicate, if_pos hjc] at hj
      rw [show (⟨g, 0, none⟩ : Addr).add j = ⟨g, j, none⟩ by unfold Addr.add; split <;> simp_all, cell_of_row w g j _ _ _ hb, List.getElem?_toArray, List.getElem?_append_left (by rw [List.length_map, List.length_replicate]; omega), List.getElem?_map, List.getElem?_replicate, if_pos (by omega)]
      exact hj⟩) (by rw [hlen, List.length_append, List.length_map, List.length_replicate]; omega) (ones8 .u8 _)
  rw [hlen] at hrun
  rw [fillB_step] at hb3
  exact ⟨w3, hrun, ⟨_, hb3, by rw [List.length_drop]; omega⟩, k3⟩

/-- A block that is filled, as a row. -/
theorem FillB.row {w : World} {g M n C : Nat} (h : FillB w g M n C) (hn : n ≤ maxLen) : Row .u8 w (.slice (some ⟨g, 0, none⟩) n n) (List.replicate n M) := by
  obtain ⟨ts, h1, h2⟩ := h
  refine ⟨some ⟨g, 0, none⟩, n, by rw [List.length_replicate], by rw [List.length_replicate]; exact Nat.le_refl _, hn, (fun e => by cases e), fun i hi => ⟨g, 0, rfl, ?_⟩⟩
  have hi' : i < n := by simpa using hi
  rw [cell_of_row w g _ _ _ _ h1]
  simp [List.getElem?_append_left, hi']

set_option maxRecDepth 20000 in
set_option maxHeartbeats 2000000 in
/-- bytes.Repeat of one byte. -/
theorem sgRepeat (b M n : Nat) (w : World) (hx : w.cell? ⟨b, 0, none⟩ = some (.int .u8 (M : Nat))) (hn0 : 0 < n) (hn : n ≤ 2000) :
    Calls Tryd.prog 23 #[.slice (some ⟨b, 0, none⟩) 1 1, .int .i64 (n : Nat)] w fun e w' => ∃ g : Nat, e = .returned (.slice (some ⟨g, 0, none⟩) n n) ∧ Row .u8 w' (.slice (some ⟨g, 0, none⟩) n n) (List.replicate n M) ∧ Kept Nought w w' := by
  obtain ⟨i0, hi0, hz0, hz1, hz2⟩ := info_parts Tryd.info8s
  have hB := sgMul n (by omega) w
  obtain ⟨cs, hrunM, hle, hmx⟩ := Lib.run_makeNoZero (P := Tryd.prog) w #[3] 22 5 Tryd.underlying22 n (by omega)
  obtain ⟨W0, hW0⟩ : ∃ W0, W0 = w.drew.drew.alloc (.cells cs 5) := ⟨_, rfl⟩
  have hcall : (callFunc 35 #[.int .i64 (n : Int)]).run Tryd.prog w = .ok (.value (.slice (some ⟨w.heap.size, 0, none⟩) n cs.size)) W0 := by
    rw [run_callFunc_extern Tryd.func35 (by kernel_rfl) (by kernel_rfl) (by kernel_rfl) (e := Extern.BytealgMakeNoZero.makeNoZero #[3] #[22]) (by kernel_rfl), hrunM, hW0]
    rfl
  have k0 : Kept Nought w W0 := by rw [hW0]; exact (((Kept.refl Nought w).drew).drew).alloc _
  have hb0 : W0.heap[w.heap.size]? = some (.cells cs.toList.toArray 5 (0, 0)) := by
    rw [hW0]
    exact heap_alloc_new w.drew.drew _
  obtain ⟨C, hC⟩ : ∃ C, C = cs.size := ⟨_, rfl⟩
  have hCl : cs.toList.length = C := by rw [hC]; simp
  rw [← hC] at hcall hle
  obtain ⟨w2, hrun, hb2, k2⟩ := run_copy_part (P := Tryd.prog) (w := W0) 22 22 3 5 w.heap.size 0 n n (some ⟨w.heap.size, 0, none⟩) (some ⟨b, 0, none⟩) 1 1 _ 5 ([M].map fun z : Nat => Value.int .u8 (z : Int)) Tryd.underlying22 (by rw [hi0]; simp [hz1]) hb0 (by show 1 = min 1 n; omega) (fun _ => ⟨rfl, _, rfl, fun j u hj => by
      cases j with
      | zero =>
        rw [List.map_cons, List.getElem?_cons_zero] at hj
        cases hj
        exact k0.cellN hx
      | succ j => simp at hj⟩) (by rw [hCl]; simp; omega) (ones8 .u8 [M])
  have hF2 : FillB w2 w.heap.size M 1 C := ⟨cs.toList.drop 1, by rw [hb2]; rfl, by rw [List.length_drop, hCl]; omega⟩
  have HF2 := toHid hF2
  have HK2 := toHid (kept_new k0 k2 (Nat.le_refl _))
  obtain ⟨g, hg⟩ : ∃ g, g = w.heap.size := ⟨_, rfl⟩
  have hgs : w.heap.size ≤ g := by omega
  rw [← hg] at hrun hcall HF2
  have g0 : ¬ (n : Int) < 0 := by omega
  have g1 : IntKind.u64.wrap (n : Int) = (n : Int) := by rw [IntKind.wrap_u64]; omega
  have g2 : IntKind.i64.wrap (n : Int) = (n : Int) := by rw [IntKind.wrap_i64]; omega
  have g3 : ¬ (9223372036854775807 : Int) < (n : Int) := by omega
  have g4 : ¬ (8192 : Int) < (n : Int) := by omega
  have g5 : (n : Int) ≤ (C : Int) := by omega
  clear hx hrunM hW0 k0 hb0 hC hCl hb2 k2 hF2 hmx hg
  go_enter Tryd.func23, Tryd.ntmps23
  go_wp2_with fail
  refine hB.mono ?_
  rintro e w' ⟨rfl, rfl⟩
  clear hB
  go_wp2_with fail
  go_loopw [10] (fun kv wr => ∃ k : Nat, 0 < k ∧ k ≤ n ∧ kv = .int .i64 (k : Int) ∧ Hid (FillB wr g M k C) ∧ Hid (Kept Nought w' wr)) (fun kv _ => n - (intOf kv).toNat)
  case atStart => exact ⟨1, by omega, by omega, rfl, HF2.out, HK2.out⟩
  case round =>
    obtain ⟨k, hk0, hkn, rfl, HB, HK⟩ := hrel
    clear HF2 HK2 hcall hrun
    by_cases hk : k < n
    · have e1 : (k : Int) < (n : Int) := by omega
      have e2 : (0 : Int) ≤ (k : Int) := by omega
      have e3 : (k : Int) ≤ (n : Int) := by omega
      have e4 : min (k : Int) (n : Int) = (k : Int) := by omega
      have e5 : ¬ (n : Int) < (k : Int) := by omega
      obtain ⟨c, hc⟩ : ∃ c, c = min k (n - k) := ⟨_, rfl⟩
      have hB1 : FillB wr.drew g M k C := HB.out
      obtain ⟨w3, hrun, hB3, k3⟩ := hB1.copy n c k hle hkn hc (Nat.le_refl _) 3
      have HB3 := toHid hB3
      have HK3 : Hid (Kept Nought w' w3) := kept_new HK.out.drew k3 hgs
      have hc1 : Hid (0 < c ∧ k + c ≤ n) := ⟨by omega, by omega⟩
      have e6 : IntKind.i64.wrap ((k : Int) + (c : Int)) = (k : Int) + (c : Int) := by rw [IntKind.wrap_i64]; omega
      clear hB1 hB3 k3 hc HB HK
      go_wp2_with fail
      go_region
      go_wp2_with fail
      go_roundw
      case rel => exact ⟨k + c, by omega, hc1.out.2, by simp, HB3.out, HK3.out⟩
      case measure => have := hc1.out; simp [intOf]; omega
    · have e1 : ¬ (k : Int) < (n : Int) := by omega
      obtain rfl : k = n := by omega
      go_wp2_with fail
      go_ret
      exact ⟨g, rfl, HB.out.row (by unfold maxLen; omega), HK.out⟩

set_option maxRecDepth 20000 in
set_option maxHeartbeats 1000000 in
/-- bytes.Equal. -/
theorem sgEqual (u v : Value) (xs bs : List Nat) (w : World) (ha : Row .u8 w u xs) (hb : Row .u8 w v bs) (da : Digs 256 xs) (db : Digs 256 bs) :
    Calls Tryd.prog 18 #[u, v] w fun e w' => e = .returned (.bool (decide (xs = bs))) ∧ w' = w := by
  obtain ⟨ao, na, ca, rfl, _⟩ := ha.open
  obtain ⟨bo, nb, cb, rfl, _⟩ := hb.open
  have k1 := row_bstr ha 9 Tryd.underlying9
  have k2 := row_bstr hb 9 Tryd.underlying9
  have hd : decide (xs = bs) = ((bstr xs).toList == (bstr bs).toList) := by
    rw [Lib.toList_data, Lib.toList_data, bstr_data, bstr_data]
    by_cases h : xs = bs
    · rw [h]
      simp
    · rw [decide_eq_false h]
      symm
      exact beq_eq_false_iff_ne.2 fun e => h (bytes_inj da db e)
  rw [hd]
  generalize bstr xs = s at *
  generalize bstr bs = t at *
  clear ha hb hd
  go_enter Tryd.func18, Tryd.ntmps18
  go_wp2
  go_ret
  exact ⟨rfl, rfl⟩

end Go.Proofs.YthnkganmccgaeaaDoor
