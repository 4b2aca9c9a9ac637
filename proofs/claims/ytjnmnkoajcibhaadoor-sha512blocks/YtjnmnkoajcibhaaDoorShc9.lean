/- The laws of layer 12: their first test, bytes alike, the plain hash of whatever bytes; the tables; arrays of eight words alike. -/
import Derived.Test.YtjnmnkoajcibhaaDoorShc8
import Derived.Test.YtjnmnkoajcibhaaDoorShb7
import Derived.Test.YtjnmnkoajcibhaaDoorOpenArr
import Derived.Lib.SlBytesConst
import Derived.ChangeKeysEq
namespace Go.Proofs.YtjnmnkoajcibhaaDoor
open Go.RowKit

theorem sumM_digs (short : Bool) (bs : List Nat) : Digs 256 (sumM short bs) := by
  have h64 : Digs 256 (sum64M short bs) := by
    intro d hd
    unfold sum64M at hd
    obtain ⟨i, hi, he⟩ := List.mem_iff_getElem.1 hd
    have hl := outM_length (blksM (H5 short) (bs ++ padM bs.length) ((bs ++ padM bs.length).length / 128)) 8
    have h := outM_at (blksM (H5 short) (bs ++ padM bs.length) ((bs ++ padM bs.length).length / 128)) 8 i (by omega)
    rw [List.getElem?_eq_getElem hi, he] at h
    rw [Option.some.inj h]
    exact Nat.mod_lt _ (by omega)
  unfold sumM
  split
  · exact h64.take 48
  · exact h64

/-- The plain hash of whatever bytes. -/
theorem r12SumAny (short : Bool) (v : Value) (bs : List Nat) (w : World) (hb : Row .u8 w v bs) (hbd : Digs 256 bs) (hl : bs.length ≤ 1000000) :
    Calls Tryd.prog 10 #[v, .bool short] w fun e w' => ∃ v', e = .returned v' ∧ Row .u8 w' v' (sumM short bs) ∧ Kept Nought w w' := by
  obtain ⟨ao, n, cap, rfl, hLb, hc, _, hnone, hnum⟩ := hb.open
  have hlb := hLb.out
  cases ao with
  | none =>
    obtain rfl := hnone rfl
    obtain rfl : n = 0 := by omega
    obtain rfl : bs = [] := List.length_eq_zero_iff.1 hlb
    refine (r12Sum0 short w).mono ?_
    rintro e w' ⟨v', rfl, h1, h2⟩
    exact ⟨v', rfl, h1.row, h2⟩
  | some ad =>
    refine (r12Sum short ad n cap bs w hb hbd (by omega)).mono ?_
    rintro e w' ⟨v', rfl, h1, h2⟩
    exact ⟨v', rfl, h1.row, h2⟩

set_option maxRecDepth 20000 in
set_option maxHeartbeats 1000000 in
/-- The law's own test of bytes alike. -/
theorem same12 (u v : Value) (xs bs : List Nat) (w : World) (ha : Row .u8 w u xs) (hb : Row .u8 w v bs) (da : Digs 256 xs) (db : Digs 256 bs) :
    Calls Tryd.prog 8 #[u, v] w fun e w' => e = .returned (.bool (decide (xs = bs))) ∧ w' = w := by
  obtain ⟨ao, na, ca, rfl, _⟩ := ha.open
  obtain ⟨bo, nb, cb, rfl, _⟩ := hb.open
  have k1 := row_bstr ha 9 Tryd.underlying9
  have k2 := row_bstr hb 9 Tryd.underlying9
  have hd : decide (xs = bs) = ((bstr xs).toList == (bstr bs).toList) := by
    rw [Lib.toList_data, Lib.toList_data, bstr_data, bstr_data]
    by_cases h : xs = bs
    · rw [h]
      simp
    · rw [decide_eq_false h]
      symm
      exact beq_eq_false_iff_ne.2 fun e => h (bytes_inj da db e)
  rw [hd]
  generalize bstr xs = s at *
  generalize bstr bs = t at *
  clear ha hb hd
  go_enter Tryd.func8, Tryd.ntmps8
  go_wp2
  go_ret
  exact ⟨rfl, rfl⟩

theorem sum_headM : (sumM false [97, 98, 99]).length = 64 ∧ (sumM false [97, 98, 99]).getD 0 0 = 221 ∧ (sumM false [97, 98, 99]).getD 1 0 = 175 := by
  decide +kernel

theorem sum_headM3 : (sumM true [97, 98, 99]).length = 48 ∧ (sumM true [97, 98, 99]).getD 0 0 = 203 ∧ (sumM true [97, 98, 99]).getD 1 0 = 0 := by
  decide +kernel

set_option maxRecDepth 20000 in
set_option maxHeartbeats 2000000 in
/-- awake. -/
theorem awake12 (w : World) (hT : Tab12 w) :
    Calls Tryd.prog 7 #[] w fun e w' => e = .returned (.bool true) ∧ Kept Nought w w' := by
  have JA : Hid (∀ W, Kept Nought w W → Kept Nought w (W.alloc (.cells #[.int .u8 97, .int .u8 98, .int .u8 99] 5 (3, 4))) ∧ Row .u8 (W.alloc (.cells #[.int .u8 97, .int .u8 98, .int .u8 99] 5 (3, 4))) (.slice (some ⟨W.heap.size, 0, none⟩) 3 3) [97, 98, 99]) := fun W k => ⟨k.alloc _, row_marked W [97, 98, 99] (3, 4) (by unfold maxLen; decide)⟩
  have J1 : Hid (∀ W, Kept Nought w W → Calls Tryd.prog 9 #[.slice (some ⟨W.heap.size, 0, none⟩) 3 3] (W.alloc (.cells #[.int .u8 97, .int .u8 98, .int .u8 99] 5 (3, 4))) fun e w' => ∃ (b off cap : Nat), e = .returned (.slice (some ⟨b, off, none⟩) 64 cap) ∧ (w'.cell? ⟨b, off, none⟩ = some (.int .u8 221) ∧ w'.cell? ⟨b, off + 1, none⟩ = some (.int .u8 175)) ∧ Kept Nought w w') := fun W k => by
    obtain ⟨k1, hr⟩ := JA.out W k
    have h := mSum _ [97, 98, 99] _ (hT.grew k1) hr (by unfold Digs; decide) (by decide)
    obtain ⟨hl0, hl1, hl2⟩ := sum_headM
    generalize sumM false [97, 98, 99] = zs at *
    refine h.mono ?_
    rintro e w' ⟨v', rfl, o, k2⟩
    obtain ⟨ao, n, cap, rfl, hL, _, _, _, hn⟩ := o.row.open
    obtain rfl : n = 64 := hL.out.symm.trans hl0
    obtain ⟨b, off, e1, c0⟩ := hn 0 (by omega)
    cases e1
    obtain ⟨_, _, e1, c1⟩ := hn 1 (by omega)
    cases e1
    rw [hl1] at c0
    rw [hl2] at c1
    exact ⟨b, off, cap, rfl, ⟨c0, c1⟩, k1.trans k2⟩
  have J2 : Hid (∀ W, Kept Nought w W → Calls Tryd.prog 11 #[.slice (some ⟨W.heap.size, 0, none⟩) 3 3] (W.alloc (.cells #[.int .u8 97, .int .u8 98, .int .u8 99] 5 (3, 4))) fun e w' => ∃ (b off cap : Nat), e = .returned (.slice (some ⟨b, off, none⟩) 48 cap) ∧ (w'.cell? ⟨b, off, none⟩ = some (.int .u8 203) ∧ w'.cell? ⟨b, off + 1, none⟩ = some (.int .u8 0)) ∧ Kept Nought w w' ∧ Kept Nought W w') := fun W k => by
    obtain ⟨k1, hr⟩ := JA.out W k
    have h := mSum384 _ [97, 98, 99] _ (hT.grew k1) hr (by unfold Digs; decide) (by decide)
    obtain ⟨hl0, hl1, hl2⟩ := sum_headM3
    generalize sumM true [97, 98, 99] = zs at *
    refine h.mono ?_
    rintro e w' ⟨v', rfl, o, k2⟩
    obtain ⟨ao, n, cap, rfl, hL, _, _, _, hn⟩ := o.row.open
    obtain rfl : n = 48 := hL.out.symm.trans hl0
    obtain ⟨b, off, e1, c0⟩ := hn 0 (by omega)
    cases e1
    obtain ⟨_, _, e1, c1⟩ := hn 1 (by omega)
    cases e1
    rw [hl1] at c0
    rw [hl2] at c1
    exact ⟨b, off, cap, rfl, ⟨c0, c1⟩, k1.trans k2, ((Kept.refl Nought W).alloc _).trans k2⟩
  have hcv := fun w => Lib.run_convert_bytes_const (P := Tryd.prog) w 22 5 #[.int .u8 97, .int .u8 98, .int .u8 99] 3 3 Tryd.underlying22 Tryd.underlying5
  clear hT JA
  go_enter Tryd.func7, Tryd.ntmps7
  go_wp2_with fail
  refine (J1.out _ (Kept.refl _ _)).mono ?_
  rintro e w1 ⟨b1, o1, c1, rfl, ⟨p0, p1⟩, k1⟩
  have HP := toHid (show w1.cell? ⟨b1, o1, none⟩ = some (.int .u8 221) ∧ w1.cell? ⟨b1, o1 + 1, none⟩ = some (.int .u8 175) from ⟨p0, p1⟩)
  clear p0 p1
  go_wp2_with fail
  refine (J2.out _ k1).mono ?_
  rintro e w2 ⟨b2, o2, c2, rfl, ⟨q0, q1⟩, k2, kl2⟩
  have p0 := kl2.cellN HP.out.1
  have p1 := kl2.cellN HP.out.2
  have HK := toHid k2
  clear k1 k2 kl2 HP J1 J2 hcv
  go_wp2_with fail
  go_ret
  exact ⟨rfl, HK.out⟩

theorem tab12_of {w : World} (h1 : Lib.VarReads Tryd.prog w "sconce/sha512.start" (Lib.tabData .u64 (H512.map fun z : Nat => (z : Int)))) (h2 : Lib.VarReads Tryd.prog w "sconce/sha512.shortStart" (Lib.tabData .u64 (H384.map fun z : Nat => (z : Int)))) (h3 : Lib.VarReads Tryd.prog w "sconce/sha512.roundWords" (Lib.tabData .u64 (K512.map fun z : Nat => (z : Int)))) : Tab12 w :=
  ⟨tab_reads (g := 1) (t := 29) (by kernel_rfl) (by kernel_rfl) Tryd.underlying29 Tryd.underlying28 (by kernel_rfl) (by kernel_rfl) h1,
   tab_reads (g := 0) (t := 29) (by kernel_rfl) (by kernel_rfl) Tryd.underlying29 Tryd.underlying28 (by kernel_rfl) (by kernel_rfl) h2,
   tab_reads (g := 2) (t := 41) (by kernel_rfl) (by kernel_rfl) Tryd.underlying41 Tryd.underlying28 (by kernel_rfl) (by kernel_rfl) h3⟩

theorem Tryd.noGuardB : Tryd.prog.eqGuardType Tryd.prog.depth 29 = false := by kernel_rfl

theorem Tryd.info64s : (Tryd.prog.info? 28).map (fun i => (i.zero, i.size, i.bytes)) = some (some (.int .u64 0), 1, 8) := by kernel_rfl

/-- Two arrays of the same eight words are alike. -/
theorem arr8_alikeM (w : World) (x0 x1 x2 x3 x4 x5 x6 x7 : Int) : (Op.equalIn 10000 29 (.agg #[.int .u64 x0, .int .u64 x1, .int .u64 x2, .int .u64 x3, .int .u64 x4, .int .u64 x5, .int .u64 x6, .int .u64 x7]) (.agg #[.int .u64 x0, .int .u64 x1, .int .u64 x2, .int .u64 x3, .int .u64 x4, .int .u64 x5, .int .u64 x6, .int .u64 x7])).run Tryd.prog w = .ok true w := by
  obtain ⟨i0, hi0, _⟩ := info_parts Tryd.info64s
  have hc : Tryd.prog.cellsOf 28 = 1 := by kernel_rfl
  have hi : ∀ (d : Nat) (a b : Int) (w : World), (Op.equalIn (d + 1) 28 (.int .u64 a) (.int .u64 b)).run Tryd.prog w = .ok (a == b) w := fun d a b w => run_equalIn_int w d 28 .u64 .u64 a b Tryd.underlying28
  have hq : ∀ (xs : Array Value) (j : Nat) (w : World), j < xs.size → (part 28 xs j).run Tryd.prog w = .ok (xs.getD j undef) w := fun xs j w hj => by
    simp [part, go_sem, hj]
  rw [run_equalIn_array w 9999 _ _ Tryd.underlying29 hi0, hc]
  simp [show List.range 8 = [0, 1, 2, 3, 4, 5, 6, 7] from rfl, Op.eqItems, hq, hi]

end Go.Proofs.YtjnmnkoajcibhaaDoor
