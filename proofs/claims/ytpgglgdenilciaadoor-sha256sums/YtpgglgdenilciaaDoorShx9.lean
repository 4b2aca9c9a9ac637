/- The laws of layer 11: their first test, bytes alike, the plain hash of whatever bytes. -/
import Derived.Test.YtpgglgdenilciaaDoorShx8
import Derived.Test.YtpgglgdenilciaaDoorSha7
import Derived.Lib.SlBytesConst
namespace Go.Proofs.YtpgglgdenilciaaDoor
open Go.RowKit

theorem sumN_digs (bs : List Nat) : Digs 256 (sumN bs) := by
  intro d hd
  unfold sumN at hd
  obtain ⟨i, hi, he⟩ := List.mem_iff_getElem.1 hd
  have hl := outN_length (blksN (bs ++ padN bs.length) ((bs ++ padN bs.length).length / 64)) 8
  have h := outN_at (blksN (bs ++ padN bs.length) ((bs ++ padN bs.length).length / 64)) 8 i (by omega)
  rw [List.getElem?_eq_getElem hi, he] at h
  rw [Option.some.inj h]
  exact Nat.mod_lt _ (by omega)

/-- The plain hash of whatever bytes. -/
theorem r11SumAny (v : Value) (bs : List Nat) (w : World) (hb : Row .u8 w v bs) (hbd : Digs 256 bs) (hl : bs.length ≤ 1000000) :
    Calls Tryd.prog 10 #[v] w fun e w' => ∃ v', e = .returned v' ∧ Row .u8 w' v' (sumN bs) ∧ Kept Nought w w' := by
  obtain ⟨ao, n, cap, rfl, hLb, hc, _, hnone, hnum⟩ := hb.open
  have hlb := hLb.out
  cases ao with
  | none =>
    obtain rfl := hnone rfl
    obtain rfl : n = 0 := by omega
    obtain rfl : bs = [] := List.length_eq_zero_iff.1 hlb
    refine (r11Sum0 w).mono ?_
    rintro e w' ⟨v', rfl, h1, h2⟩
    exact ⟨v', rfl, h1.row, h2⟩
  | some ad =>
    refine (r11Sum ad n cap bs w hb hbd (by omega)).mono ?_
    rintro e w' ⟨v', rfl, h1, h2⟩
    exact ⟨v', rfl, h1.row, h2⟩

set_option maxRecDepth 20000 in
set_option maxHeartbeats 1000000 in
/-- The law's own test of bytes alike. -/
theorem same11 (u v : Value) (xs bs : List Nat) (w : World) (ha : Row .u8 w u xs) (hb : Row .u8 w v bs) (da : Digs 256 xs) (db : Digs 256 bs) :
    Calls Tryd.prog 8 #[u, v] w fun e w' => e = .returned (.bool (decide (xs = bs))) ∧ w' = w := by
  obtain ⟨ao, na, ca, rfl, _⟩ := ha.open
  obtain ⟨bo, nb, cb, rfl, _⟩ := hb.open
  have k1 := row_bstr ha 9 Tryd.underlying9
  have k2 := row_bstr hb 9 Tryd.underlying9
  have hd : decide (xs = bs) = ((bstr xs).toList == (bstr bs).toList) := by
    rw [Lib.toList_data, Lib.toList_data, bstr_data, bstr_data]
    by_cases h : xs = bs
    · rw [h]
      simp
    · rw [decide_eq_false h]
      symm
      exact beq_eq_false_iff_ne.2 fun e => h (bytes_inj da db e)
  rw [hd]
  generalize bstr xs = s at *
  generalize bstr bs = t at *
  clear ha hb hd
  go_enter Tryd.func8, Tryd.ntmps8
  go_wp2
  go_ret
  exact ⟨rfl, rfl⟩

/-- A new row of bytes, marked or not. -/
theorem row_marked (w : World) (zs : List Nat) (fr : Nat × Nat) (hm : zs.length ≤ maxLen) : Row .u8 (w.alloc (.cells (zs.map fun z => Value.int .u8 (z : Nat)).toArray 5 fr)) (.slice (some ⟨w.heap.size, 0, none⟩) zs.length zs.length) zs := by
  refine ⟨some ⟨w.heap.size, 0, none⟩, zs.length, rfl, Nat.le_refl _, hm, (fun e => by cases e), fun i hi => ⟨w.heap.size, 0, rfl, ?_⟩⟩
  rw [Nat.zero_add, cell_of_row _ _ i _ _ _ (heap_alloc_new w _)]
  simp [List.getElem?_eq_getElem hi]

set_option maxRecDepth 20000 in
set_option maxHeartbeats 1000000 in
/-- awake. -/
theorem awake11 (w : World) (hT : Tab11 w) :
    Calls Tryd.prog 7 #[] w fun e w' => e = .returned (.bool true) ∧ Kept Nought w w' := by
  have k0 : Kept Nought w (w.alloc (.cells #[.int .u8 97, .int .u8 98, .int .u8 99] 5 (3, 4))) := (Kept.refl Nought w).alloc _
  have hr : Row .u8 (w.alloc (.cells #[.int .u8 97, .int .u8 98, .int .u8 99] 5 (3, 4))) (.slice (some ⟨w.heap.size, 0, none⟩) 3 3) [97, 98, 99] := row_marked w [97, 98, 99] (3, 4) (by unfold maxLen; decide)
  have hS := hSum _ [97, 98, 99] _ (hT.grew k0) hr (by unfold Digs; decide) (by decide)
  rw [sum_abc] at hS
  have hcv := Lib.run_convert_bytes_const (P := Tryd.prog) w 22 5 #[.int .u8 97, .int .u8 98, .int .u8 99] 3 3 Tryd.underlying22 Tryd.underlying5
  have HK := toHid k0
  clear k0 hr hT
  go_enter Tryd.func7, Tryd.ntmps7
  go_wp2_with fail
  refine hS.mono ?_
  rintro e w1 ⟨v1, rfl, r1, _, k1⟩
  obtain ⟨ao, n, cap, rfl, hL, _, _, _, hn⟩ := r1.open
  obtain rfl : n = 32 := hL.out.symm
  obtain ⟨b, off, e1, c0⟩ := hn 0 (by omega)
  cases e1
  obtain ⟨_, _, e1, c1⟩ := hn 1 (by omega)
  cases e1
  obtain ⟨_, _, e1, c31⟩ := hn 31 (by omega)
  cases e1
  have HK1 := toHid (HK.out.trans k1)
  clear hS r1 k1 hn hL HK
  simp at c0 c1 c31
  go_wp2_with fail
  go_ret
  exact ⟨rfl, HK1.out⟩

end Go.Proofs.YtpgglgdenilciaaDoor
