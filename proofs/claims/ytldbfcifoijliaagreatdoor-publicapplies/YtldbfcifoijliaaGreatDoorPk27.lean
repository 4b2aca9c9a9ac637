/- Put together of: Law21b Byt1 WPubApplies Nob1 LPublicApplies WPubMuls LPublicMuls WPubRefuses. -/
import Derived.Test.YtldbfcifoijliaaGreatDoorPk1
import Derived.Test.YtldbfcifoijliaaGreatDoorPk2
import Derived.Test.YtldbfcifoijliaaGreatDoorPk25
import Derived.Test.YtldbfcifoijliaaGreatDoorPk26
import Derived.Deep.OwnRows
import Derived.Laws.AppendOwn
import Derived.Laws.AppendOwnNone
import Derived.Laws.BytesArg
import Derived.Lib.Strings

/- Layer 21: awake. -/
namespace Go.Proofs.YtldbfcifoijliaaGreatDoor
open Go.RowKit Go.Deep

theorem made16 : madeCells #[.int .u8 0] 16 = #[.int .u8 0, .int .u8 0, .int .u8 0, .int .u8 0, .int .u8 0, .int .u8 0, .int .u8 0, .int .u8 0, .int .u8 0, .int .u8 0, .int .u8 0, .int .u8 0, .int .u8 0, .int .u8 0, .int .u8 0, .int .u8 0] := by kernel_rfl

set_option maxRecDepth 20000 in
set_option maxHeartbeats 1000000 in
/-- awake. -/
theorem f21Awake (hA : PApp) (w : World) : Calls Tryz.prog 6 #[] w fun r w' => r = .returned (.bool true) ∧ Kept Nought w w' := by
  obtain ⟨i0, hi0, hz0, hz1, hz2⟩ := info_parts Tryz.info5
  have hmk : ∀ W : World, (Instr.makeSlice 25 (.int .i64 16) (.int .i64 16)).run Tryz.prog W = .ok (.slice (some ⟨W.heap.size, 0, none⟩) 16 16) (W.alloc (.cells #[.int .u8 0, .int .u8 0, .int .u8 0, .int .u8 0, .int .u8 0, .int .u8 0, .int .u8 0, .int .u8 0, .int .u8 0, .int .u8 0, .int .u8 0, .int .u8 0, .int .u8 0, .int .u8 0, .int .u8 0, .int .u8 0] 5)) := fun W => by rw [← made16]; exact run_make_row (P := Tryz.prog) _ _ i0 _ Tryz.underlying25 hi0 hz0 hz1 rfl _ _ 16 (by rw [hz2]; omega) (by omega) W
  clear hi0 hz0 hz1 hz2 i0
  obtain ⟨W1, hW1⟩ : ∃ W1, W1 = w.alloc (.cells #[.int .u64 (1 : Nat), .int .u64 (9223372036854775808 : Nat)] 24) := ⟨_, rfl⟩
  have k1 : Kept Nought w W1 := by rw [hW1]; exact (Kept.refl Nought w).alloc _
  have r1 : Row .u64 W1 (.slice (some ⟨w.heap.size, 0, none⟩) 2 2) [1, 9223372036854775808] := by
    rw [hW1]
    exact Row.of_own (base := w.heap.size) (e := 24) (World.ownsRow_lit w #[.int .u64 (1 : Nat), .int .u64 (9223372036854775808 : Nat)] 2 (Nat.le_refl _) (by unfold maxLen; omega) rfl)
  have s1 : W1.heap.size = w.heap.size + 1 := by rw [hW1]; simp
  obtain ⟨W2, hW2⟩ : ∃ W2, W2 = W1.alloc (.cells #[.int .u8 0, .int .u8 0, .int .u8 0, .int .u8 0, .int .u8 0, .int .u8 0, .int .u8 0, .int .u8 0, .int .u8 0, .int .u8 0, .int .u8 0, .int .u8 0, .int .u8 0, .int .u8 0, .int .u8 0, .int .u8 1] 5) := ⟨_, rfl⟩
  have k2 : Kept Nought W1 W2 := by rw [hW2]; exact (Kept.refl Nought W1).alloc _
  have r2 : Row .u8 W2 (.slice (some ⟨W1.heap.size, 0, none⟩) 16 16) [0, 0, 0, 0, 0, 0, 0, 0, 0, 0, 0, 0, 0, 0, 0, 1] := by
    rw [hW2]
    exact Row.of_own (base := W1.heap.size) (e := 5) (World.ownsRow_lit W1 #[.int .u8 0, .int .u8 0, .int .u8 0, .int .u8 0, .int .u8 0, .int .u8 0, .int .u8 0, .int .u8 0, .int .u8 0, .int .u8 0, .int .u8 0, .int .u8 0, .int .u8 0, .int .u8 0, .int .u8 0, .int .u8 1] 16 (Nat.le_refl _) (by unfold maxLen; omega) rfl)
  rw [s1] at r2
  have dd : Digs 256 [0, 0, 0, 0, 0, 0, 0, 0, 0, 0, 0, 0, 0, 0, 0, 1] := fun d hd => by simp at hd; omega
  have dn : Digs 18446744073709551616 [1, 9223372036854775808] := fun d hd => by simp at hd; omega
  have J1 := hA _ 2 2 [1, 9223372036854775808] 3 _ 16 16 [0, 0, 0, 0, 0, 0, 0, 0, 0, 0, 0, 0, 0, 0, 0, 1] W2 (by omega) (r1.grew k2) dn (by omega) r2 dd (by omega)
  rw [ex21.1.1, ex21.1.2] at J1
  have JR := toHid fun W (k : Kept Nought W2 W) => hA _ 2 2 [1, 9223372036854775808] 4 _ 16 16 [0, 0, 0, 0, 0, 0, 0, 0, 0, 0, 0, 0, 0, 0, 0, 1] W (by omega) (r1.grew (k2.trans k)) dn (by omega) (r2.grew k) dd (by omega)
  rw [ex21.2] at JR
  have HK2 := toHid (k1.trans k2)
  have HW : Hid (W2 = (w.alloc (.cells #[.int .u64 1, .int .u64 9223372036854775808] 24)).alloc (.cells #[.int .u8 0, .int .u8 0, .int .u8 0, .int .u8 0, .int .u8 0, .int .u8 0, .int .u8 0, .int .u8 0, .int .u8 0, .int .u8 0, .int .u8 0, .int .u8 0, .int .u8 0, .int .u8 0, .int .u8 0, .int .u8 1] 5)) := by unfold Hid; rw [hW2, hW1]; rfl
  clear hA k1 k2 r1 r2 s1 hW1 hW2 dd dn
  go_enter Tryz.func6, Tryz.ntmps6
  go_wp2_with (rw [← HW.out])
  refine J1.mono ?_
  rintro r w3 ⟨v3, rfl, r3, _, k3⟩
  obtain ⟨ao, n3, c3, rfl, hL, hLc, hcm, hnn, hnum⟩ := r3.open
  obtain rfl : 16 = n3 := hL.out
  have J2 := JR.out w3 k3
  have HK3 := toHid (HK2.out.trans k3)
  have HR3 := toHid r3
  clear J1 hL hnum hnn k3 r3 JR hmk
  go_wp2_with fail
  refine J2.mono ?_
  rintro r w4 ⟨v4, rfl, r4, _, k4⟩
  obtain ⟨fo, n4, c4, rfl, _⟩ := r4.open
  obtain ⟨_, _, _, e9, _, _, _, _, hnum⟩ := (HR3.out.grew k4).open
  cases e9
  obtain ⟨b, off, rfl, q15⟩ := hnum 15 (by omega)
  obtain ⟨b', off', e8, q0⟩ := hnum 0 (by omega)
  cases e8
  have q15' : w4.cell? ⟨b, off + 15, none⟩ = some (.int .u8 1) := q15
  have q0' : w4.cell? ⟨b, off, none⟩ = some (.int .u8 0) := q0
  have HK4 := toHid (HK3.out.trans k4)
  clear J2 r4 k4 hnum q15 q0 HR3
  go_wp2_with fail
  go_ret
  exact ⟨rfl, HK4.out⟩

end Go.Proofs.YtldbfcifoijliaaGreatDoor


/- Rows of bytes: owned ones, parts of them, append, texts; the plain Same of bytes. -/
namespace Go.Proofs.YtldbfcifoijliaaGreatDoor
open Go.RowKit

/-- Bytes that only this slice holds, from block base on. -/
def OwnB (w : World) (base : Nat) (v : Value) (zs : List Nat) : Prop := OwnN .u8 5 w base v zs.length zs

theorem OwnB.row {w : World} {base : Nat} {v : Value} {zs : List Nat} (h : OwnB w base v zs) : Row .u8 w v zs := Row.of_own (base := base) (e := 5) h

theorem OwnB.of {w : World} {base n : Nat} {v : Value} {zs : List Nat} (h : OwnN .u8 5 w base v n zs) : OwnB w base v zs := by
  have hn : zs.length = n := by
    have := h.1
    rw [List.length_map] at this
    omega
  unfold OwnB
  rw [hn]
  exact h

theorem OwnB.kept {S : Nat → Prop} {w w' : World} {base : Nat} {v : Value} {zs : List Nat} (h : OwnB w base v zs) (hk : Kept S w w') (hs : ∀ b, base ≤ b → ¬ S b) : OwnB w' base v zs := hk.own h fun b hb => hs b (h.lt b hb).1

theorem OwnB.grew {w w' : World} {base : Nat} {v : Value} {zs : List Nat} (h : OwnB w base v zs) (hk : Kept Nought w w') : OwnB w' base v zs := h.kept hk fun _ _ f => f

theorem OwnB.base {w : World} {base base' : Nat} {v : Value} {zs : List Nat} (h : OwnB w base v zs) (hb : base' ≤ base) : OwnB w base' v zs := own_base h fun k hk => Nat.le_trans hb (h.lt k hk).1

theorem OwnB.nil (w : World) (base : Nat) : OwnB w base (.slice none 0 0) [] := World.ownsRow_nil _ _ _ _

/-- The text of a row of bytes. -/
def bstr (bs : List Nat) : ByteArray := if bs = [] then ByteArray.empty else strOfNums (bs.map fun b : Nat => (b : Int))

/-- string(b) of a row of bytes. -/
theorem row_bstr {w : World} {ao : Option Addr} {n cap : Nat} {bs : List Nat} (h : Row .u8 w (.slice ao n cap) bs) :
    ∀ dst, Tryz.prog.underlying dst = some .string → (convert 25 dst (.slice ao n cap)).run Tryz.prog w = .ok (.string (bstr bs)) w := by
  obtain ⟨ao', cap', e, c1, c2, c3, h4⟩ := h
  cases e
  cases bs with
  | nil =>
    intro dst hd
    rw [run_convert_bytes_string w 25 dst 5 _ _ cap Tryz.underlying25 Tryz.underlying5 hd]
    cases ao <;> simp [Conv.bytesToString, loadCells, bstr]
    all_goals rfl
  | cons x t =>
    obtain ⟨b, off, rfl, _⟩ := h4 0 (by simp)
    have := run_convert_bytes_arg (P := Tryz.prog) w 25 5 Tryz.underlying25 Tryz.underlying5 b off (x :: t).length cap ((x :: t).map fun b : Nat => (b : Int)) (by simp) (fun i hi => by
      obtain ⟨b', off', e, hc⟩ := h4 i hi
      cases e
      rw [hc, List.getD_eq_getElem?_getD, List.getD_eq_getElem?_getD, List.getElem?_map, List.getElem?_eq_getElem hi]
      rfl)
    intro dst hd
    rw [this dst hd]
    simp [bstr]

theorem bstr_data (bs : List Nat) : (bstr bs).data.toList = bs.map fun b => UInt8.ofNat b := by
  unfold bstr
  split
  · next h => rw [h]; rfl
  · rw [strOfNums_data, List.map_map]
    rfl

theorem bytes_inj : ∀ {xs bs : List Nat}, Digs 256 xs → Digs 256 bs → (xs.map fun b => UInt8.ofNat b) = (bs.map fun b => UInt8.ofNat b) → xs = bs
  | [], [], _, _, _ => rfl
  | [], _ :: _, _, _, h => by simp at h
  | _ :: _, [], _, _, h => by simp at h
  | a :: xs, b :: bs, ha, hb, h => by
    rw [List.map_cons, List.map_cons, List.cons.injEq] at h
    have e1 : a = b := by
      have := congrArg UInt8.toNat h.1
      rw [UInt8.toNat_ofNat', UInt8.toNat_ofNat'] at this
      have h1 := ha a (by simp)
      have h2 := hb b (by simp)
      omega
    rw [e1, bytes_inj (fun d hd => ha d (by simp [hd])) (fun d hd => hb d (by simp [hd])) h.2]

set_option maxRecDepth 20000 in
set_option maxHeartbeats 1000000 in
/-- Same. -/
theorem r13Same (u v : Value) (xs bs : List Nat) (w : World) (ha : Row .u8 w u xs) (hb : Row .u8 w v bs) (da : Digs 256 xs) (db : Digs 256 bs) :
    Calls Tryz.prog 10 #[u, v] w fun e w' => e = .returned (.bool (decide (xs = bs))) ∧ w' = w := by
  obtain ⟨ao, na, ca, rfl, _⟩ := ha.open
  obtain ⟨bo, nb, cb, rfl, _⟩ := hb.open
  have k1 := row_bstr ha 9 Tryz.underlying9
  have k2 := row_bstr hb 9 Tryz.underlying9
  have hd : decide (xs = bs) = ((bstr xs).toList == (bstr bs).toList) := by
    rw [Lib.toList_data, Lib.toList_data, bstr_data, bstr_data]
    by_cases h : xs = bs
    · rw [h]
      simp
    · rw [decide_eq_false h]
      symm
      exact beq_eq_false_iff_ne.2 fun e => h (bytes_inj da db e)
  rw [hd]
  generalize bstr xs = s at *
  generalize bstr bs = t at *
  clear ha hb hd
  go_enter Tryz.func10, Tryz.ntmps10
  go_wp2
  go_ret
  exact ⟨rfl, rfl⟩

end Go.Proofs.YtldbfcifoijliaaGreatDoor


/- The walk of the statement on the public power, of the landed contract. -/
namespace Go.Proofs.YtldbfcifoijliaaGreatDoor
open Go.RowKit

set_option maxRecDepth 20000 in
set_option maxHeartbeats 1000000 in
theorem wPublicApplies (hA : PApp) (u : Value) (ns : List Nat) (e : Int) (v : Value) (ms : List Nat) (w : World) (hu : Row .u64 w u ns) (hv : Row .u8 w v ms) (dn : Digs 18446744073709551616 ns) (dm : Digs 256 ms) (he : (Lit.int .u64 e).wf = true) :
    Calls Tryz.prog 3 #[u, .int .u64 e, v] w fun e w' => e = .returned (.bool true) ∧ Below w.heap.size w w' := by
  obtain ⟨he0, he1⟩ := bounds_u64 he
  obtain ⟨e, rfl⟩ := Int.eq_ofNat_of_zero_le he0
  have heb : e < 18446744073709551616 := by omega
  obtain ⟨ao, L, cap, rfl, hL, _, _, _, _⟩ := hu.open
  obtain ⟨bo, M, dap, rfl, hM, _, _, _, _⟩ := hv.open
  have J0 := f21Awake hA w
  have JF := toHid fun W (k : Kept Nought w W) (hl : L ≤ 1000) (hm : M ≤ 10000) => hA ao L cap ns e bo M dap ms W heb (hu.grew k) dn hl (hv.grew k) dm hm
  have JR := toHid fun W (k : Kept Nought w W) (hl : L ≤ 1000) (hm : M ≤ 10000) => r21Apply ao L cap ns e heb bo M dap ms W (hu.grew k) dn (by omega) (hv.grew k) dm (by omega)
  have HDG := toHid (appL_digs ns e ms)
  generalize appE ns e ms = E at *
  generalize appL ns e ms = RL at *
  clear hu hv dn dm hL hM he hA he0 he1 heb
  by_cases hf : L ≤ 12 ∧ M ≤ 200
  · have HF := toHid fun W => f21Few ao bo L cap M dap true (iff_of_true rfl hf) W
    obtain ⟨hl, hm⟩ := hf
    go_enter Tryz.func3, Tryz.ntmps3
    go_wp2_with fail
    refine J0.mono ?_
    rintro r w1 ⟨rfl, k1⟩
    have HK1 := toHid k1
    have J1 := HF.out w1
    clear J0 k1
    go_wp2_with fail
    refine J1.mono ?_
    rintro r w2 ⟨rfl, rfl⟩
    have J2 := JF.out w2 HK1.out (by omega) (by omega)
    clear J1
    go_wp2_with fail
    refine J2.mono ?_
    rintro r w3 ⟨v3, rfl, r3, _, k3⟩
    obtain ⟨co, cn, cc, rfl, _⟩ := r3.open
    have HR3 := toHid r3
    have HK3 := toHid (HK1.out.trans k3)
    have J3 := JR.out w3 HK3.out (by omega) (by omega)
    clear J2 r3 k3
    go_wp2_with fail
    refine J3.mono ?_
    rintro r w4 ⟨v4, rfl, r4, _, k4⟩
    obtain ⟨fo, fn, fc, rfl, _⟩ := r4.open
    have HK4 := toHid (HK3.out.trans k4)
    have JM := r13Same _ _ _ _ w4 (HR3.out.grew k4) r4 HDG.out HDG.out
    rw [decide_eq_true rfl] at JM
    clear J3 r4 k4
    go_wp2_with fail
    refine JM.mono ?_
    rintro r w5 ⟨rfl, rfl⟩
    clear JM
    go_wp2_with fail
    go_ret
    exact ⟨by first | rfl | simp, below_kept HK4.out (Nat.le_refl _)⟩
  · have HF := toHid fun W => f21Few ao bo L cap M dap false (iff_of_false (by decide) hf) W
    go_enter Tryz.func3, Tryz.ntmps3
    go_wp2_with fail
    refine J0.mono ?_
    rintro r w1 ⟨rfl, k1⟩
    have HK1 := toHid k1
    have J1 := HF.out w1
    clear J0 k1 hf JF JR
    go_wp2_with fail
    refine J1.mono ?_
    rintro r w2 ⟨rfl, rfl⟩
    clear J1
    go_wp2_with fail
    go_ret
    exact ⟨rfl, below_kept HK1.out (Nat.le_refl _)⟩

end Go.Proofs.YtldbfcifoijliaaGreatDoor


/- No table is asked. -/
namespace Go.Proofs.YtldbfcifoijliaaGreatDoor
open Go.RowKit

/-- No table is asked. -/
def NoTab (_ : World) : Prop := True

end Go.Proofs.YtldbfcifoijliaaGreatDoor


/- The walk of PublicApplies, the landed contract paid. -/
namespace Go.Proofs.YtldbfcifoijliaaGreatDoor
open Go.RowKit

theorem walkPublicApplies (u : Value) (ns : List Nat) (e : Int) (v : Value) (ms : List Nat) (w : World) (hu : Row .u64 w u ns) (hv : Row .u8 w v ms) (dn : Digs 18446744073709551616 ns) (dm : Digs 256 ms) (he : (Lit.int .u64 e).wf = true) (_ : NoTab w) :
    Calls Tryz.prog 3 #[u, .int .u64 e, v] w fun e w' => e = .returned (.bool true) ∧ Below w.heap.size w w' :=
  wPublicApplies uApply u ns e v ms w hu hv dn dm he

end Go.Proofs.YtldbfcifoijliaaGreatDoor


/- The walk of the statement on products and the public power, of the landed contract. -/
namespace Go.Proofs.YtldbfcifoijliaaGreatDoor
open Go.RowKit

theorem dlen21x {X Y n m : Nat} (hX : dlen X ≤ n) (hY : dlen Y ≤ m) : dlen (X * Y) ≤ n + m := (dlen_le _ _).2 (by
  rw [Nat.pow_add]
  exact Nat.mul_lt_mul'' ((dlen_le X n).1 hX) ((dlen_le Y m).1 hY))

set_option maxRecDepth 20000 in
set_option maxHeartbeats 2000000 in
theorem wPublicMuls (hA : PApp) (u : Value) (ns : List Nat) (e : Int) (v : Value) (ms : List Nat) (x : Value) (rs : List Nat) (w : World) (hu : Row .u64 w u ns) (hv : Row .u8 w v ms) (hx : Row .u8 w x rs) (dn : Digs 18446744073709551616 ns) (dm : Digs 256 ms) (dr : Digs 256 rs) (he : (Lit.int .u64 e).wf = true) :
    Calls Tryz.prog 4 #[u, .int .u64 e, v, x] w fun e w' => e = .returned (.bool true) ∧ Below w.heap.size w w' := by
  obtain ⟨he0, he1⟩ := bounds_u64 he
  obtain ⟨e, rfl⟩ := Int.eq_ofNat_of_zero_le he0
  have heb : e < 18446744073709551616 := by omega
  obtain ⟨ao, L, cap, rfl, hL, _, _, _, _⟩ := hu.open
  obtain ⟨bo, M, dap, rfl, hM, _, _, _, _⟩ := hv.open
  obtain ⟨do_, R, fap, rfl, hR, _, _, _, _⟩ := hx.open
  have J0 := f21Awake hA w
  have JAll := toHid fun W (k : Kept Nought w W) (hl : L ≤ 1000) (co : Option Addr) (cn cc : Nat) (cs : List Nat) (hr : Row .u8 W (.slice co cn cc) cs) (hd : Digs 256 cs) (hm : cn ≤ 10000) => hA ao L cap ns e co cn cc cs W heb (hu.grew k) dn hl hr hd hm
  have JB := toHid fun W (k : Kept Nought w W) (hm : M ≤ 10000) => rFromBytes (.slice bo M dap) ms W (hv.grew k) dm (by rw [hM.out]; omega)
  have JC := toHid fun W (k : Kept Nought w W) (hm : R ≤ 10000) => rFromBytes (.slice do_ R fap) rs W (hx.grew k) dr (by rw [hR.out]; omega)
  have JN := toHid fun W (k : Kept Nought w W) (hl : L ≤ 1000) => rOf (.slice ao L cap) ns W (hu.grew k) dn (by rw [hL.out]; omega)
  have HRV := toHid fun W (k : Kept Nought w W) => hv.grew k
  have HRX := toHid fun W (k : Kept Nought w W) => hx.grew k
  have HD : Hid (Digs 256 ms ∧ Digs 256 rs ∧ Digs 18446744073709551616 ns) := ⟨dm, dr, dn⟩
  have HLN : Hid (ns.length = L ∧ ms.length = M ∧ rs.length = R) := ⟨hL.out, hM.out, hR.out⟩
  clear hu hv hx dn dm dr hL hM hR he hA he0 he1 heb
  by_cases hf1 : L ≤ 12 ∧ M ≤ 200
  · have HF1 := toHid fun W => f21Few ao bo L cap M dap true (iff_of_true rfl hf1) W
    by_cases hf2 : L ≤ 12 ∧ R ≤ 200
    · have HF2 := toHid fun W => f21Few ao do_ L cap R fap true (iff_of_true rfl hf2) W
      obtain ⟨hl, hm⟩ := hf1
      obtain ⟨_, hr⟩ := hf2
      go_enter Tryz.func4, Tryz.ntmps4
      go_wp2_with fail
      refine J0.mono ?_
      rintro r w1 ⟨rfl, k1⟩
      have HK1 := toHid k1
      have J1 := HF1.out w1
      have J1' := HF2.out w1
      clear J0 k1
      go_wp2_with fail
      refine J1.mono ?_
      rintro r w2 ⟨rfl, rfl⟩
      clear J1
      go_wp2_with fail
      refine J1'.mono ?_
      rintro r w2' ⟨rfl, rfl⟩
      have J2 := JAll.out _ HK1.out (by omega) bo M dap ms (HRV.out _ HK1.out) HD.out.1 (by omega)
      clear J1'
      go_wp2_with fail
      refine J2.mono ?_
      rintro r w3 ⟨v3, rfl, r3, _, k3⟩
      obtain ⟨co, cn, cc, rfl, _⟩ := r3.open
      have HK3 := toHid (HK1.out.trans k3)
      have HR3 := toHid r3
      have J3 := JAll.out w3 HK3.out (by omega) do_ R fap rs (HRX.out _ HK3.out) HD.out.2.1 (by omega)
      clear J2 r3 k3
      go_wp2_with fail
      refine J3.mono ?_
      rintro r w4 ⟨v4, rfl, r4, _, k4⟩
      obtain ⟨go, gn, gc, rfl, _⟩ := r4.open
      have HK4 := toHid (HK3.out.trans k4)
      have HR34 := toHid (HR3.out.grew k4)
      have HR4 := toHid r4
      clear J3 r4 k4 HR3
      by_cases hz : appE ns e ms = 0
      · by_cases hy : appE ns e rs = 0
        · rw [hz, hy]
          obtain ⟨p0, p1, p2⟩ := app_zero hz
          obtain ⟨_, q1, q2⟩ := app_zero hy
          have vx := app_val hz
          have vy := app_val hy
          have lx := appL_len hz
          have ly := appL_len hy
          rw [HLN.out.2.1] at p1 lx
          rw [HLN.out.2.2] at q1 ly
          have HDX := toHid (appL_digs ns e ms)
          have HDY := toHid (appL_digs ns e rs)
          generalize appL ns e ms = xl at *
          generalize appL ns e rs = yl at *
          have hN12 : dlen (val 18446744073709551616 ns) ≤ 24 := by have := dlen_val21 HD.out.2.2; rw [HLN.out.1] at this; omega
          have hAd : dlen (bev ms) ≤ 200 := by have := dlen_bev HD.out.1; rw [HLN.out.2.1] at this; omega
          have hBd : dlen (bev rs) ≤ 200 := by have := dlen_bev HD.out.2.1; rw [HLN.out.2.2] at this; omega
          have hXd : dlen (bev xl) ≤ 200 := by have := dlen_bev HDX.out; omega
          have hYd : dlen (bev yl) ≤ 200 := by have := dlen_bev HDY.out; omega
          have hN0 : 0 < val 18446744073709551616 ns := by omega
          have hpm : ∀ X Y, dlen X ≤ 200 → dlen Y ≤ 200 → dlen (X * Y) ≤ 10000000 := fun X Y h1 h2 => Nat.le_trans (dlen21x h1 h2) (by omega)
          have HPM := toHid hpm
          have HNUM : Hid ((M = sizeN (val 18446744073709551616 ns) ∧ pubE ns e = 0) ∧ bev xl = bev ms ^ e % val 18446744073709551616 ns ∧ bev yl = bev rs ^ e % val 18446744073709551616 ns) := ⟨⟨p1, p0⟩, vx, vy⟩
          have HLXY : Hid (xl.length = M ∧ yl.length = R) := ⟨lx, ly⟩
          clear p0 p1 p2 q1 q2 vx vy lx ly hz hy hpm
          have h5 := JN.out w4 HK4.out (by omega)
          go_wp2_with fail
          refine h5.mono ?_
          rintro r w5 ⟨v5, rfl, b5, _, k5⟩
          have HK5 := toHid (HK4.out.trans k5)
          have h6 := JB.out w5 HK5.out (by omega)
          clear h5
          go_wp2_with fail
          refine h6.mono ?_
          rintro r w6 ⟨v6, rfl, b6, _, k6⟩
          have b5 := b5.grew k6
          have HK6 := toHid (HK5.out.trans k6)
          have h7 := JC.out w6 HK6.out (by omega)
          clear h6
          go_wp2_with fail
          refine h7.mono ?_
          rintro r w7 ⟨v7, rfl, b7, _, k7⟩
          have b5 := b5.grew k7
          have b6 := b6.grew k7
          have HK7 := toHid (HK6.out.trans k7)
          have h8 := rMulMod _ _ _ _ _ _ w7 b6 b7 b5 hN0 (by omega) (by omega) (HPM.out _ _ hAd hBd)
          clear h7
          go_wp2_with fail
          refine h8.mono ?_
          rintro r w8 ⟨v8, rfl, b8, _, k8⟩
          have b5 := b5.grew k8
          have HK8 := toHid (HK7.out.trans k8)
          have h9 := rToBytes v8 _ M w8 b8 (by omega)
          clear h8 b6 b7
          go_wp2_with fail
          refine h9.mono ?_
          rintro r w9 ⟨v9, rfl, r9, _, k9⟩
          have b5 := b5.grew k9
          obtain ⟨so, sn, sc, rfl, hsn, _⟩ := r9.open
          have HK9 := toHid (HK8.out.trans k9)
          have hsn' : sn = M := by rw [← hsn.out]; exact bes_length _ _ _
          have h10 := JAll.out w9 HK9.out (by omega) so sn sc _ r9 (bes_digs _ _ _) (by omega)
          have hlt : bev ms * bev rs % val 18446744073709551616 ns < val 18446744073709551616 ns := Nat.mod_lt _ hN0
          have hbk : bev (bes (bev ms * bev rs % val 18446744073709551616 ns) M M) = bev ms * bev rs % val 18446744073709551616 ns := bev_back21 (by rw [HNUM.out.1.1]; exact Nat.lt_trans hlt (size_fit _))
          have hz0 : appE ns e (bes (bev ms * bev rs % val 18446744073709551616 ns) M M) = 0 := app_of HNUM.out.1.2 ((bes_length _ _ _).trans HNUM.out.1.1) (by rw [hbk]; exact hlt)
          have hzv := app_val hz0
          rw [hbk] at hzv
          have hzd := appL_digs ns e (bes (bev ms * bev rs % val 18446744073709551616 ns) M M)
          have hzl := appL_len hz0
          rw [hz0] at h10
          generalize appL ns e (bes (bev ms * bev rs % val 18446744073709551616 ns) M M) = zl at *
          have HZV : Hid (bev zl = bev xl * bev yl % val 18446744073709551616 ns) := by unfold Hid; rw [hzv, HNUM.out.2.1, HNUM.out.2.2, pow_prod]
          have HZD : Hid (Digs 256 zl ∧ zl.length = M) := ⟨hzd, by rw [hzl]; exact bes_length _ _ _⟩
          clear h9 b8 r9 hsn hsn' hlt hbk hz0 hzv hzd hzl
          go_wp2_with fail
          refine h10.mono ?_
          rintro r w10 ⟨v10, rfl, r10, _, k10⟩
          have b5 := b5.grew k10
          obtain ⟨to_, tn, tc, rfl, _⟩ := r10.open
          have HK10 := toHid (HK9.out.trans k10)
          have HR10 := toHid r10
          have k410 := k5.trans (k6.trans (k7.trans (k8.trans (k9.trans k10))))
          have h11 := rFromBytes (.slice co cn cc) xl w10 (HR34.out.grew k410) HDX.out (by have := HLXY.out; omega)
          clear h10 r10
          go_wp2_with fail
          refine h11.mono ?_
          rintro r w11 ⟨v11, rfl, b11, _, k11⟩
          have b5 := b5.grew k11
          have HK11 := toHid (HK10.out.trans k11)
          have h12 := rFromBytes (.slice go gn gc) yl w11 (HR4.out.grew (k410.trans k11)) HDY.out (by have := HLXY.out; omega)
          clear h11
          go_wp2_with fail
          refine h12.mono ?_
          rintro r w12 ⟨v12, rfl, b12, _, k12⟩
          have b5 := b5.grew k12
          have b11 := b11.grew k12
          have HK12 := toHid (HK11.out.trans k12)
          have h13 := rMulMod _ _ _ _ _ _ w12 b11 b12 b5 hN0 (by omega) (by omega) (HPM.out _ _ hXd hYd)
          clear h12
          go_wp2_with fail
          refine h13.mono ?_
          rintro r w13 ⟨v13, rfl, b13, _, k13⟩
          have HK13 := toHid (HK12.out.trans k13)
          have h14 := rFromBytes (.slice to_ tn tc) zl w13 (HR10.out.grew (k11.trans (k12.trans k13))) HZD.out.1 (by have := HZD.out.2; omega)
          clear h13 b11 b12 b5
          go_wp2_with fail
          refine h14.mono ?_
          rintro r w14 ⟨v14, rfl, b14, _, k14⟩
          have HK14 := toHid (HK13.out.trans k14)
          have h15 := rCmp _ _ _ _ w14 b14 (b13.grew k14)
          rw [HZV.out, show cmpN (bev xl * bev yl % val 18446744073709551616 ns) (bev xl * bev yl % val 18446744073709551616 ns) = 0 by unfold cmpN; simp] at h15
          clear h14 b13 b14 k5 k6 k7 k8 k9 k10 k11 k12 k13 k14 k410
          go_wp2_with fail
          refine h15.mono ?_
          rintro r w15 ⟨rfl, nq, rfl⟩
          have HK15 := toHid (HK14.out.drewN nq)
          clear h15
          go_wp2_with fail
          go_ret
          exact ⟨by first | rfl | simp, below_kept HK15.out (Nat.le_refl _)⟩
        · rw [hz]
          have hy1 : ¬ (appE ns e rs : Int) = 0 := by omega
          have hy2 : ((appE ns e rs : Int) != 0) = true := by simp; omega
          generalize appE ns e rs = ey at *
          clear hz hy
          go_wp2_with fail
          go_ret
          exact ⟨by first | rfl | simp, below_kept HK4.out (Nat.le_refl _)⟩
      · have hz1 : ¬ (appE ns e ms : Int) = 0 := by omega
        have hz2 : ((appE ns e ms : Int) != 0) = true := by simp; omega
        generalize appE ns e ms = ez at *
        generalize appE ns e rs = ey at *
        clear hz
        go_wp2_with fail
        go_ret
        exact ⟨by first | rfl | simp, below_kept HK4.out (Nat.le_refl _)⟩
    · have HF2 := toHid fun W => f21Few ao do_ L cap R fap false (iff_of_false (by decide) hf2) W
      clear hf1 hf2
      go_enter Tryz.func4, Tryz.ntmps4
      go_wp2_with fail
      refine J0.mono ?_
      rintro r w1 ⟨rfl, k1⟩
      have HK1 := toHid k1
      have J1 := HF1.out w1
      have J1' := HF2.out w1
      clear J0 k1
      go_wp2_with fail
      refine J1.mono ?_
      rintro r w2 ⟨rfl, rfl⟩
      clear J1
      go_wp2_with fail
      refine J1'.mono ?_
      rintro r w2' ⟨rfl, rfl⟩
      clear J1'
      go_wp2_with fail
      go_ret
      exact ⟨rfl, below_kept HK1.out (Nat.le_refl _)⟩
  · have HF1 := toHid fun W => f21Few ao bo L cap M dap false (iff_of_false (by decide) hf1) W
    clear hf1
    go_enter Tryz.func4, Tryz.ntmps4
    go_wp2_with fail
    refine J0.mono ?_
    rintro r w1 ⟨rfl, k1⟩
    have HK1 := toHid k1
    have J1 := HF1.out w1
    clear J0 k1
    go_wp2_with fail
    refine J1.mono ?_
    rintro r w2 ⟨rfl, rfl⟩
    clear J1
    go_wp2_with fail
    go_ret
    exact ⟨rfl, below_kept HK1.out (Nat.le_refl _)⟩

end Go.Proofs.YtldbfcifoijliaaGreatDoor


/- The walk of PublicMuls, the landed contract paid. -/
namespace Go.Proofs.YtldbfcifoijliaaGreatDoor
open Go.RowKit

theorem walkPublicMuls (u : Value) (ns : List Nat) (e : Int) (v : Value) (ms : List Nat) (x : Value) (rs : List Nat) (w : World) (hu : Row .u64 w u ns) (hv : Row .u8 w v ms) (hx : Row .u8 w x rs) (dn : Digs 18446744073709551616 ns) (dm : Digs 256 ms) (dr : Digs 256 rs) (he : (Lit.int .u64 e).wf = true) (_ : NoTab w) :
    Calls Tryz.prog 4 #[u, .int .u64 e, v, x] w fun e w' => e = .returned (.bool true) ∧ Below w.heap.size w w' :=
  wPublicMuls uApply u ns e v ms x rs w hu hv hx dn dm dr he

end Go.Proofs.YtldbfcifoijliaaGreatDoor


/- The walk of the statement on what the public power refuses, of the landed contract. -/
namespace Go.Proofs.YtldbfcifoijliaaGreatDoor
open Go.RowKit

set_option maxRecDepth 20000 in
set_option maxHeartbeats 1000000 in
theorem wPublicRefuses (hA : PApp) (u : Value) (ns : List Nat) (e : Int) (v : Value) (ms : List Nat) (w : World) (hu : Row .u64 w u ns) (hv : Row .u8 w v ms) (dn : Digs 18446744073709551616 ns) (dm : Digs 256 ms) (he : (Lit.int .u64 e).wf = true) :
    Calls Tryz.prog 5 #[u, .int .u64 e, v] w fun e w' => e = .returned (.bool true) ∧ Below w.heap.size w w' := by
  obtain ⟨he0, he1⟩ := bounds_u64 he
  obtain ⟨e, rfl⟩ := Int.eq_ofNat_of_zero_le he0
  have heb : e < 18446744073709551616 := by omega
  obtain ⟨ao, L, cap, rfl, hL, _, _, _, _⟩ := hu.open
  obtain ⟨bo, M, dap, rfl, hM, _, _, _, _⟩ := hv.open
  have J0 := f21Awake hA w
  have JF := toHid fun W (k : Kept Nought w W) (hl : L ≤ 1000) (hm : M ≤ 10000) => hA ao L cap ns e bo M dap ms W heb (hu.grew k) dn hl (hv.grew k) dm hm
  have JP := toHid fun W (k : Kept Nought w W) (hl : L ≤ 1000) => r18Public ao L cap ns e heb (pubE ns e) rfl W (hu.grew k) dn (by omega)
  have JZ := toHid fun W (k : Kept Nought w W) (hl : L ≤ 1000) => r18Size (.slice ao L cap) ns W (hu.grew k) dn (by rw [hL.out]; omega)
  have JB := toHid fun W (k : Kept Nought w W) (hm : M ≤ 10000) => rFromBytes (.slice bo M dap) ms W (hv.grew k) dm (by rw [hM.out]; omega)
  have JN := toHid fun W (k : Kept Nought w W) (hl : L ≤ 1000) => rOf (.slice ao L cap) ns W (hu.grew k) dn (by rw [hL.out]; omega)
  have HML := toHid hM.out
  have hlen : appE ns e ms = 0 → (appL ns e ms).length = M := fun h => (appL_len h).trans hM.out
  have HLEN := toHid hlen
  have hcase : (appE ns e ms = 0) ∨ (appE ns e ms = 190 ∧ pubE ns e = 190) ∨ (appE ns e ms = 1 ∧ ¬ (M = sizeN (val 18446744073709551616 ns) ∧ bev ms < val 18446744073709551616 ns)) := by
    unfold appE
    rcases pubE_cases ns e with h | h
    · rw [if_pos h]
      unfold numE
      rw [hM.out]
      split
      · exact .inl rfl
      · next h2 => exact .inr (.inr ⟨rfl, h2⟩)
    · rw [if_neg (by omega)]
      exact .inr (.inl ⟨rfl, h⟩)
  clear hu hv dn dm hL hM he hA he0 he1 heb hlen
  by_cases hf : L ≤ 12 ∧ M ≤ 200
  · have HF := toHid fun W => f21Few ao bo L cap M dap true (iff_of_true rfl hf) W
    obtain ⟨hl, hm⟩ := hf
    go_enter Tryz.func5, Tryz.ntmps5
    go_wp2_with fail
    refine J0.mono ?_
    rintro r w1 ⟨rfl, k1⟩
    have HK1 := toHid k1
    have J1 := HF.out w1
    clear J0 k1
    go_wp2_with fail
    refine J1.mono ?_
    rintro r w2 ⟨rfl, rfl⟩
    have J2 := JF.out w2 HK1.out (by omega) (by omega)
    clear J1
    go_wp2_with fail
    refine J2.mono ?_
    rintro r w3 ⟨v3, rfl, r3, _, k3⟩
    obtain ⟨co, cn, cc, rfl, hcn, _⟩ := r3.open
    have HCN := toHid hcn.out
    have HK3 := toHid (HK1.out.trans k3)
    clear J2 r3 k3 hcn
    rcases hcase with h0 | ⟨h0, h1⟩ | ⟨h0, h1⟩
    · have hcm : cn = M := by rw [← HCN.out]; exact HLEN.out h0
      subst hcm
      rw [h0]
      clear h0
      go_wp2_with fail
      go_ret
      exact ⟨by first | rfl | simp, below_kept HK3.out (Nat.le_refl _)⟩
    · have J3 := JP.out w3 HK3.out (by omega)
      rw [h1] at J3
      rw [h0]
      clear h0 h1
      go_wp2_with fail
      refine J3.mono ?_
      rintro r w4 ⟨rfl, k4⟩
      have HK4 := toHid (HK3.out.trans k4)
      clear J3 k4
      go_wp2_with fail
      go_ret
      exact ⟨by first | rfl | simp, below_kept HK4.out (Nat.le_refl _)⟩
    · have J3 := JZ.out w3 HK3.out (by omega)
      rw [h0]
      have HH := toHid h1
      clear h0 h1
      generalize sizeN (val 18446744073709551616 ns) = Z at *
      by_cases hz : M = Z
      · subst hz
        have hge : val 18446744073709551616 ns ≤ bev ms := by
          rcases Nat.lt_or_ge (bev ms) (val 18446744073709551616 ns) with h | h
          · exact absurd ⟨rfl, h⟩ HH.out
          · exact h
        have HGE := toHid hge
        clear hge
        go_wp2_with fail
        refine J3.mono ?_
        rintro r w4 ⟨rfl, k4⟩
        have HK4 := toHid (HK3.out.trans k4)
        have J4 := JB.out w4 HK4.out (by omega)
        clear J3 k4
        go_wp2_with fail
        refine J4.mono ?_
        rintro r w5 ⟨v5, rfl, b5, _, k5⟩
        have HK5 := toHid (HK4.out.trans k5)
        have J5 := JN.out w5 HK5.out (by omega)
        have HB5 := toHid b5
        clear J4 k5 b5
        go_wp2_with fail
        refine J5.mono ?_
        rintro r w6 ⟨v6, rfl, b6, _, k6⟩
        have HK6 := toHid (HK5.out.trans k6)
        have J6 := rCmp _ _ _ _ w6 (HB5.out.grew k6) b6
        have hcg : cmpN (bev ms) (val 18446744073709551616 ns) ≥ 0 := cmp_ge.2 HGE.out
        generalize cmpN (bev ms) (val 18446744073709551616 ns) = cv at *
        have hcg' : (0 : Int) ≤ cv := hcg
        clear J5 k6 b6
        go_wp2_with fail
        refine J6.mono ?_
        rintro r w7 ⟨rfl, nq, rfl⟩
        have HK7 := toHid (HK6.out.drewN nq)
        clear J6
        go_wp2_with fail
        go_ret
        exact ⟨by first | rfl | simp, below_kept HK7.out (Nat.le_refl _)⟩
      · have hz1 : ¬ (M : Int) = (Z : Int) := by omega
        have hz2 : ((M : Int) != (Z : Int)) = true := by simp; omega
        go_wp2_with fail
        refine J3.mono ?_
        rintro r w4 ⟨rfl, k4⟩
        have HK4 := toHid (HK3.out.trans k4)
        clear J3 k4
        go_wp2_with fail
        go_ret
        exact ⟨by first | rfl | simp, below_kept HK4.out (Nat.le_refl _)⟩
  · have HF := toHid fun W => f21Few ao bo L cap M dap false (iff_of_false (by decide) hf) W
    go_enter Tryz.func5, Tryz.ntmps5
    go_wp2_with fail
    refine J0.mono ?_
    rintro r w1 ⟨rfl, k1⟩
    have HK1 := toHid k1
    have J1 := HF.out w1
    clear J0 k1 hf JF JP JZ JB JN hcase
    go_wp2_with fail
    refine J1.mono ?_
    rintro r w2 ⟨rfl, rfl⟩
    clear J1
    go_wp2_with fail
    go_ret
    exact ⟨rfl, below_kept HK1.out (Nat.le_refl _)⟩

end Go.Proofs.YtldbfcifoijliaaGreatDoor

