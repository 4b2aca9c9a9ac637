/- Put together of: Byt1 Sha4 Shb4 Shb5 Arr1. -/
import Derived.Test.YthnkganmccgaeaaDoorPk1
import Derived.Test.YthnkganmccgaeaaDoorPk2
import Derived.Test.YthnkganmccgaeaaDoorPk3
import Derived.Laws.AppendOwn
import Derived.Laws.AppendOwnNone
import Derived.Laws.BytesArg
import Derived.Lib.Strings
import Derived.Deep.RegionHeld3

/- Rows of bytes: owned ones, parts of them, append, texts; the plain Same of bytes. -/
namespace Go.Proofs.YthnkganmccgaeaaDoor
open Go.RowKit

theorem Tryd.info8s : (Tryd.prog.info? 5).map (fun i => (i.zero, i.size, i.bytes)) = some (some (.int .u8 0), 1, 1) := by kernel_rfl

/-- Bytes that only this slice holds, from block base on. -/
def OwnB (w : World) (base : Nat) (v : Value) (zs : List Nat) : Prop := OwnN .u8 5 w base v zs.length zs

theorem OwnB.row {w : World} {base : Nat} {v : Value} {zs : List Nat} (h : OwnB w base v zs) : Row .u8 w v zs := Row.of_own (base := base) (e := 5) h

theorem OwnB.of {w : World} {base n : Nat} {v : Value} {zs : List Nat} (h : OwnN .u8 5 w base v n zs) : OwnB w base v zs := by
  have hn : zs.length = n := by
    have := h.1
    rw [List.length_map] at this
    omega
  unfold OwnB
  rw [hn]
  exact h

theorem OwnB.kept {S : Nat → Prop} {w w' : World} {base : Nat} {v : Value} {zs : List Nat} (h : OwnB w base v zs) (hk : Kept S w w') (hs : ∀ b, base ≤ b → ¬ S b) : OwnB w' base v zs := hk.own h fun b hb => hs b (h.lt b hb).1

theorem OwnB.grew {w w' : World} {base : Nat} {v : Value} {zs : List Nat} (h : OwnB w base v zs) (hk : Kept Nought w w') : OwnB w' base v zs := h.kept hk fun _ _ f => f

theorem OwnB.base {w : World} {base base' : Nat} {v : Value} {zs : List Nat} (h : OwnB w base v zs) (hb : base' ≤ base) : OwnB w base' v zs := own_base h fun k hk => Nat.le_trans hb (h.lt k hk).1

theorem OwnB.nil (w : World) (base : Nat) : OwnB w base (.slice none 0 0) [] := World.ownsRow_nil _ _ _ _

def sliceLen : Value → Nat
  | .slice _ n _ => n
  | _ => 0

theorem new1c (w : World) (x : Value) (e : TypeId) : ∀ j u, [x][j]? = some u → (w.alloc (.cells #[x] e)).cell? ((⟨w.heap.size, 0, none⟩ : Addr).add j) = some u :=
  World.news_of_block (cs := #[x]) (t := e) (fr := (0, 0)) (Go.heap_alloc_new w _)

theorem row_part {k : IntKind} {w : World} {b off n cap s m : Nat} {zs : List Nat} (h : Row k w (.slice (some ⟨b, off, none⟩) n cap) zs) (h2 : s + m ≤ n) : Row k w (.slice (some ⟨b, off + s, none⟩) m (cap - s)) ((zs.drop s).take m) := by
  obtain ⟨ao, cap', e', c1, c2, _, h4⟩ := h
  cases e'
  have hl : ((zs.drop s).take m).length = m := by rw [List.length_take, List.length_drop]; omega
  refine ⟨_, _, by rw [hl], by omega, by omega, (fun e => by cases e), fun i hi => ?_⟩
  rw [hl] at hi
  obtain ⟨b', off', e', hcell⟩ := h4 (s + i) (by omega)
  cases e'
  refine ⟨b, off + s, rfl, ?_⟩
  rw [Nat.add_assoc, hcell, List.getD_eq_getElem?_getD, List.getD_eq_getElem?_getD, List.getElem?_take, if_pos hi, List.getElem?_drop]

theorem news_row {k : IntKind} {w W : World} {ad : Addr} {n cap : Nat} {zs : List Nat} (h : Row k w (.slice (some ad) n cap) zs) (kk : Kept Nought w W) : ∀ j u, (zs.map fun z : Nat => Value.int k (z : Int))[j]? = some u → W.cell? (ad.add j) = some u := fun j u hj => by
  obtain ⟨hlt, hv⟩ := List.getElem?_eq_some_iff.1 hj
  rw [List.length_map] at hlt
  obtain ⟨ao, cap', e', c1, c2, _, h4⟩ := h
  cases e'
  obtain ⟨b, off, e', hcell⟩ := h4 j hlt
  cases e'
  have hadd : (⟨b, off, none⟩ : Addr).add j = ⟨b, off + j, none⟩ := by unfold Addr.add; split <;> simp_all
  rw [hadd, kk.cellN hcell, ← hv, List.getElem_map, List.getD_eq_getElem?_getD, List.getElem?_eq_getElem hlt]
  rfl

theorem ones8 (k : IntKind) (zs : List Nat) : ∀ u ∈ (zs.map fun z : Nat => Value.int k (z : Int)), u.oneCell' = true := fun u hu => by
  obtain ⟨x, _, rfl⟩ := List.mem_map.1 hu
  rfl

theorem Digs.app {B : Nat} {xs ys : List Nat} (hx : Digs B xs) (hy : Digs B ys) : Digs B (xs ++ ys) := fun d hd => by
  rcases List.mem_append.1 hd with h | h
  · exact hx d h
  · exact hy d h

/-- The text of a row of bytes. -/
def bstr (bs : List Nat) : ByteArray := if bs = [] then ByteArray.empty else strOfNums (bs.map fun b : Nat => (b : Int))

/-- string(b) of a row of bytes. -/
theorem row_bstr {w : World} {ao : Option Addr} {n cap : Nat} {bs : List Nat} (h : Row .u8 w (.slice ao n cap) bs) :
    ∀ dst, Tryd.prog.underlying dst = some .string → (convert 22 dst (.slice ao n cap)).run Tryd.prog w = .ok (.string (bstr bs)) w := by
  obtain ⟨ao', cap', e, c1, c2, c3, h4⟩ := h
  cases e
  cases bs with
  | nil =>
    intro dst hd
    rw [run_convert_bytes_string w 22 dst 5 _ _ cap Tryd.underlying22 Tryd.underlying5 hd]
    cases ao <;> simp [Conv.bytesToString, loadCells, bstr]
    all_goals rfl
  | cons x t =>
    obtain ⟨b, off, rfl, _⟩ := h4 0 (by simp)
    have := run_convert_bytes_arg (P := Tryd.prog) w 22 5 Tryd.underlying22 Tryd.underlying5 b off (x :: t).length cap ((x :: t).map fun b : Nat => (b : Int)) (by simp) (fun i hi => by
      obtain ⟨b', off', e, hc⟩ := h4 i hi
      cases e
      rw [hc, List.getD_eq_getElem?_getD, List.getD_eq_getElem?_getD, List.getElem?_map, List.getElem?_eq_getElem hi]
      rfl)
    intro dst hd
    rw [this dst hd]
    simp [bstr]

theorem bstr_data (bs : List Nat) : (bstr bs).data.toList = bs.map fun b => UInt8.ofNat b := by
  unfold bstr
  split
  · next h => rw [h]; rfl
  · rw [strOfNums_data, List.map_map]
    rfl

theorem bytes_inj : ∀ {xs bs : List Nat}, Digs 256 xs → Digs 256 bs → (xs.map fun b => UInt8.ofNat b) = (bs.map fun b => UInt8.ofNat b) → xs = bs
  | [], [], _, _, _ => rfl
  | [], _ :: _, _, _, h => by simp at h
  | _ :: _, [], _, _, h => by simp at h
  | a :: xs, b :: bs, ha, hb, h => by
    rw [List.map_cons, List.map_cons, List.cons.injEq] at h
    have e1 : a = b := by
      have := congrArg UInt8.toNat h.1
      rw [UInt8.toNat_ofNat', UInt8.toNat_ofNat'] at this
      have h1 := ha a (by simp)
      have h2 := hb b (by simp)
      omega
    rw [e1, bytes_inj (fun d hd => ha d (by simp [hd])) (fun d hd => hb d (by simp [hd])) h.2]

set_option maxRecDepth 20000 in
set_option maxHeartbeats 1000000 in
/-- Same. -/
theorem r13Same (u v : Value) (xs bs : List Nat) (w : World) (ha : Row .u8 w u xs) (hb : Row .u8 w v bs) (da : Digs 256 xs) (db : Digs 256 bs) :
    Calls Tryd.prog 9 #[u, v] w fun e w' => e = .returned (.bool (decide (xs = bs))) ∧ w' = w := by
  obtain ⟨ao, na, ca, rfl, _⟩ := ha.open
  obtain ⟨bo, nb, cb, rfl, _⟩ := hb.open
  have k1 := row_bstr ha 9 Tryd.underlying9
  have k2 := row_bstr hb 9 Tryd.underlying9
  have hd : decide (xs = bs) = ((bstr xs).toList == (bstr bs).toList) := by
    rw [Lib.toList_data, Lib.toList_data, bstr_data, bstr_data]
    by_cases h : xs = bs
    · rw [h]
      simp
    · rw [decide_eq_false h]
      symm
      exact beq_eq_false_iff_ne.2 fun e => h (bytes_inj da db e)
  rw [hd]
  generalize bstr xs = s at *
  generalize bstr bs = t at *
  clear ha hb hd
  go_enter Tryd.func9, Tryd.ntmps9
  go_wp2
  go_ret
  exact ⟨rfl, rfl⟩

/-- append of bytes, whether the slice that they come in is nil or not, to a row of the call's own. -/
theorem wpList_append_row {w : World} {ops : Array Oper} {rest : List Oper} {o : Oper} {a : Act} {Q : Exit → Act → World → Prop} (hgd : o.guard = none) (s x : Operand)
    (ho : o.op = .call { callee := .builtin .append, args := #[s, x], argTypes := #[22, 22] })
    (base : Nat) (v : Value) (zs : List Nat) (hs : a.eval s = v) (hown : OwnB w base v zs) (u : Value) (hx : a.eval x = u) (bs : List Nat) (hr : Row .u8 w u bs) (hl : zs.length + bs.length ≤ 100000000) (hbase : base ≤ w.heap.size)
    (h : ∀ v' w', OwnB w' base v' (zs ++ bs) → w.grownBy w' v.ownBlock → wpList Tryd.prog ops Q rest (a.put o.dst v') w') : wpList Tryd.prog ops Q (o :: rest) a w := by
  obtain ⟨i0, hi0, hz0, hz1, hz2⟩ := info_parts Tryd.info8s
  obtain ⟨ao, n, cap, rfl, hL, hc, _, hn, hnum⟩ := hr.open
  cases ao with
  | none =>
    obtain rfl := hn rfl
    obtain rfl : n = 0 := by omega
    obtain rfl : bs = [] := List.length_eq_zero_iff.1 hL.out
    refine wpList_append_own_none hgd s x 22 ho base 5 i0 1 Tryd.underlying22 hi0 v zs.length _ hs hown hx ?_
    exact h v w (by rw [List.append_nil]; exact hown) ⟨rfl, rfl, rfl, Nat.le_refl _, fun _ _ _ => rfl⟩
  | some ad =>
    have hlb := hL.out
    refine wpList_append_own w hgd s x 22 ho base 5 i0 (.int .u8 0) 1 1 Tryd.underlying22 hi0 hz0 hz1 hz2 rfl (by decide) v zs.length _ hs hown ad n cap (bs.map fun z : Nat => Value.int .u8 (z : Int)) hx ?_ (news_row hr (Kept.refl _ _)) (ones8 .u8 bs) (by unfold maxLen; omega) (by omega) hbase ?_
    · rw [List.length_map, hlb, Nat.mul_one]
    · intro v' w' ho' hg _
      refine h v' w' (OwnB.of (n := zs.length + n) ?_) hg
      unfold OwnN
      rw [List.map_append]
      exact ho'

end Go.Proofs.YthnkganmccgaeaaDoor


/- The plain side of layer 11: Pad. -/
namespace Go.Proofs.YthnkganmccgaeaaDoor
open Go.RowKit

/-- How many noughts a padding has. -/
def padZ (n : Nat) : Nat := (119 - n % 64) % 64

/-- The length's bytes, the first j. -/
def padL (n j : Nat) : List Nat := (List.range j).map fun i => 8 * n % 18446744073709551616 / 2 ^ (56 - 8 * i) % 256

/-- What stands behind n bytes. -/
def padN (n : Nat) : List Nat := ([128] ++ List.replicate (padZ n) 0) ++ padL n 8

theorem padL_succ (n j : Nat) : padL n (j + 1) = padL n j ++ [8 * n % 18446744073709551616 / 2 ^ (56 - 8 * j) % 256] := by
  unfold padL
  rw [List.range_succ, List.map_append]
  rfl

set_option maxRecDepth 20000 in
set_option maxHeartbeats 2000000 in
/-- Pad. -/
theorem r11Pad (n : Int) (N : Nat) (hn : n < 9223372036854775808) (hN : N = n.toNat) (w : World) :
    Calls Tryd.prog 36 #[.int .i64 n] w fun e w' => ∃ v', e = .returned v' ∧ Row .u8 w' v' (padN N) ∧ (∀ b, v'.ownBlock = some b → w.heap.size ≤ b) ∧ Kept Nought w w' := by
  obtain ⟨i0, hi0, hz0, hz1, hz2⟩ := info_parts Tryd.info8s
  have gm : max n 0 = (N : Int) := by omega
  have hNb : N < 9223372036854775808 := by omega
  obtain ⟨Z, hZ⟩ : ∃ Z, Z = padZ N := ⟨_, rfl⟩
  have hZb : Z < 64 := by rw [hZ]; exact Nat.mod_lt _ (by omega)
  have hZc : ∀ k, k ≤ Z → ((N + (k + 1)) % 64 = 56 ↔ k = Z) := fun k hk => by rw [hZ] at hk ⊢; unfold padZ at *; omega
  have ho0 : OwnN .u8 5 (w.alloc (.cells #[.int .u8 128] 5)) w.heap.size (.slice (some ⟨w.heap.size, 0, none⟩) 1 1) 1 [128] := own_of_block (k := .u8) (zs := [128]) (heap_alloc_new w _) rfl (by unfold maxLen; omega) (Nat.le_refl _)
  have k0 : Kept Nought w (w.alloc (.cells #[.int .u8 128] 5)) := (Kept.refl Nought w).alloc _
  have HZC := toHid hZc
  have HO0 := toHid ho0
  have HK0 := toHid k0
  have HZZ := toHid hZ
  clear hN hZ hZc ho0 k0
  go_enter Tryd.func36, Tryd.ntmps36
  go_wp2_with fail
  go_loopw [3] (fun out wr => ∃ (k : Nat) (ao : Option Addr) (c : Nat), k ≤ Z ∧ out = .slice ao (k + 1) c ∧ Hid (OwnN .u8 5 wr w.heap.size (.slice ao (k + 1) c) (k + 1) ([128] ++ List.replicate k 0)) ∧ Hid (Kept Nought w wr)) (fun out _ => Z + 1 - sliceLen out)
  case atStart => exact ⟨0, _, _, Nat.zero_le _, rfl, HO0.out, HK0.out⟩
  case round =>
    obtain ⟨k, ao, c, hk, rfl, HO, HK⟩ := hrel
    have hiff := HZC.out k hk
    by_cases hkz : k = Z
    · have h56 : ((N : Int) + ((k : Int) + 1)) % 64 = 56 := by have := hiff.2 hkz; omega
      have HKZ := toHid hkz
      clear HO0 HK0 hiff hkz
      go_wp2_with fail
      clear h56
      go_loopw [3, 4] (fun out iv wr2 => ∃ (j : Nat) (a2 : Option Addr) (c2 : Nat), j ≤ 8 ∧ iv = .int .i64 (56 - 8 * (j : Int)) ∧ out = .slice a2 (k + 1 + j) c2 ∧ Hid (OwnN .u8 5 wr2 w.heap.size (.slice a2 (k + 1 + j) c2) (k + 1 + j) (([128] ++ List.replicate k 0) ++ padL N j)) ∧ Hid (Kept Nought w wr2)) (fun _ iv _ => ((intOf iv + 8) / 8).toNat)
      case atStart => exact ⟨0, _, _, Nat.zero_le _, rfl, rfl, by unfold Hid; rw [show padL N 0 = [] from rfl, List.append_nil]; exact HO.out, HK.out⟩
      case round =>
        obtain ⟨j, a2, c2, hj, rfl, rfl, HO2, HK2⟩ := hrel
        by_cases hj8 : j < 8
        · obtain ⟨q, hq⟩ : ∃ q, q = 56 - 8 * j := ⟨_, rfl⟩
          have gq : (56 : Int) - 8 * (j : Int) = (q : Int) := by omega
          have gq0 : (0 : Int) ≤ (q : Int) := by omega
          have hq64 : q < 64 := by omega
          obtain ⟨y, hy⟩ : ∃ y, y = 8 * N % 18446744073709551616 / 2 ^ q % 256 := ⟨_, rfl⟩
          have gy : IntKind.u64.wrap (8 * (N : Int)) / 2 ^ q % 256 = (y : Int) := by
            rw [IntKind.wrap_u64, hy]
            simp
          have HY : Hid (padL N (j + 1) = padL N j ++ [y]) := by
            unfold Hid
            rw [padL_succ, ← hq, ← hy]
          clear hq hy
          have ho := HO2.out
          have hkp := HK2.out
          go_wp2_with (at_builtin; refine wpList_append_lies _ rfl _ _ 22 rfl w.heap.size 5 i0 _ 1 1 Tryd.underlying22 hi0 hz0 hz1 hz2 rfl (by omega) _ _ _ rfl (ho.alloc _) ⟨wr.heap.size, 0, none⟩ 1 1 [.int .u8 (y : Int)] rfl rfl (new1c wr _ _) (by simp [Value.oneCell']) (by omega) (by unfold maxLen; omega) (by omega) (by have := hkp.size; simp; omega) (wr.heap.size + 1) (by simp) ?_; intro gg c' w4 ho4 hg hat hgl)
          have hk5 : Kept Nought w w4 := (hkp.alloc _).grown hg (fun b hb hlt => by have := (ho.lt b hb).1; omega)
          go_roundw
          case rel => exact ⟨j + 1, _, _, by omega, by go_num, rfl, by unfold Hid OwnN; rw [HY.out, ← List.append_assoc, List.map_append]; exact ho4, hk5⟩
          case measure => simp [intOf]; omega
        · have gj : (56 : Int) - 8 * (j : Int) < 0 := by omega
          have gj' : ¬ (56 : Int) - 8 * (j : Int) ≥ 0 := by omega
          have ho := HO2.out
          rw [show j = 8 by omega] at ho
          have hrow : Row .u8 wr (.slice a2 (k + 1 + j) c2) (padN N) := by
            unfold padN
            rw [← HZZ.out, ← HKZ.out, show k + 1 + j = k + 1 + 8 by omega]
            exact Row.of_own (base := w.heap.size) (e := 5) (by
              have hl : (([128] ++ List.replicate k 0) ++ padL N 8).length = k + 1 + 8 := by unfold padL; simp
              rw [hl]
              exact ho)
          have hfr : ∀ b, (Value.slice a2 (k + 1 + j) c2).ownBlock = some b → w.heap.size ≤ b := fun b hb => (HO2.out.lt b hb).1
          have HR := toHid hrow
          have HF := toHid hfr
          clear ho hrow hfr
          go_wp2_with fail
          go_ret
          exact ⟨_, rfl, HR.out, HF.out, HK2.out⟩
    · have h56 : ¬ ((N : Int) + ((k : Int) + 1)) % 64 = 56 := by have := mt hiff.1 hkz; omega
      clear HO0 HK0 hiff
      have ho := HO.out
      have hkp := HK.out
      go_wp2_with (at_builtin; refine wpList_append_lies _ rfl _ _ 22 rfl w.heap.size 5 i0 _ 1 1 Tryd.underlying22 hi0 hz0 hz1 hz2 rfl (by omega) _ _ _ rfl (ho.alloc _) ⟨wr.heap.size, 0, none⟩ 1 1 [.int .u8 0] rfl rfl (new1c wr _ _) (by simp [Value.oneCell']) (by omega) (by unfold maxLen; omega) (by omega) (by have := hkp.size; simp; omega) (wr.heap.size + 1) (by simp) ?_; intro gg c' w4 ho4 hg hat hgl)
      have hk5 : Kept Nought w w4 := (hkp.alloc _).grown hg (fun b hb hlt => by have := (ho.lt b hb).1; omega)
      go_roundw
      case rel => exact ⟨k + 1, _, _, by omega, rfl, by unfold Hid OwnN; rw [List.replicate_succ', ← List.append_assoc, List.map_append]; exact ho4, hk5⟩
      case measure => simp [sliceLen]; omega

end Go.Proofs.YthnkganmccgaeaaDoor


/- The plain side of layer 12: Pad. -/
namespace Go.Proofs.YthnkganmccgaeaaDoor
open Go.RowKit

/-- How many noughts a padding has. -/
def padZM (n : Nat) : Nat := (239 - n % 128) % 128

/-- What stands behind n bytes. -/
def padM (n : Nat) : List Nat := (([128] ++ List.replicate (padZM n) 0) ++ [0, 0, 0, 0, 0, 0, 0, n / 2305843009213693952 % 256]) ++ padL n 8

set_option maxRecDepth 20000 in
set_option maxHeartbeats 2000000 in
/-- Pad. -/
theorem r12Pad (n : Int) (N : Nat) (hn : n < 9223372036854775808) (hN : N = n.toNat) (w : World) :
    Calls Tryd.prog 39 #[.int .i64 n] w fun e w' => ∃ v', e = .returned v' ∧ Row .u8 w' v' (padM N) ∧ (∀ b, v'.ownBlock = some b → w.heap.size ≤ b) ∧ Kept Nought w w' := by
  obtain ⟨i0, hi0, hz0, hz1, hz2⟩ := info_parts Tryd.info8s
  have gm : max n 0 = (N : Int) := by omega
  have hNb : N < 9223372036854775808 := by omega
  obtain ⟨Z, hZ⟩ : ∃ Z, Z = padZM N := ⟨_, rfl⟩
  have hZb : Z < 128 := by rw [hZ]; exact Nat.mod_lt _ (by omega)
  have hZc : ∀ k, k ≤ Z → ((N + (k + 1)) % 128 = 112 ↔ k = Z) := fun k hk => by rw [hZ] at hk ⊢; unfold padZM at *; omega
  have ho0 : OwnN .u8 5 (w.alloc (.cells #[.int .u8 128] 5)) w.heap.size (.slice (some ⟨w.heap.size, 0, none⟩) 1 1) 1 [128] := own_of_block (k := .u8) (zs := [128]) (heap_alloc_new w _) rfl (by unfold maxLen; omega) (Nat.le_refl _)
  have k0 : Kept Nought w (w.alloc (.cells #[.int .u8 128] 5)) := (Kept.refl Nought w).alloc _
  have HZC := toHid hZc
  have HO0 := toHid ho0
  have HK0 := toHid k0
  have HZZ := toHid hZ
  clear hN hZ hZc ho0 k0
  go_enter Tryd.func39, Tryd.ntmps39
  go_wp2_with fail
  go_loopw [3] (fun out wr => ∃ (k : Nat) (ao : Option Addr) (c : Nat), k ≤ Z ∧ out = .slice ao (k + 1) c ∧ Hid (OwnN .u8 5 wr w.heap.size (.slice ao (k + 1) c) (k + 1) ([128] ++ List.replicate k 0)) ∧ Hid (Kept Nought w wr)) (fun out _ => Z + 1 - sliceLen out)
  case atStart => exact ⟨0, _, _, Nat.zero_le _, rfl, HO0.out, HK0.out⟩
  case round =>
    obtain ⟨k, ao, c, hk, rfl, HO, HK⟩ := hrel
    have hiff := HZC.out k hk
    by_cases hkz : k = Z
    · have h112 : ((N : Int) + ((k : Int) + 1)) % 128 = 112 := by have := hiff.2 hkz; omega
      have HKZ := toHid hkz
      have ho := HO.out
      have hkp := HK.out
      obtain ⟨th, hth⟩ : ∃ th, th = N / 2305843009213693952 % 256 := ⟨_, rfl⟩
      have gth : (N : Int) / 2305843009213693952 = (th : Int) := by omega
      have gth2 : (th : Int) % 256 = (th : Int) := by omega
      have HTH := toHid hth
      clear HO0 HK0 hiff hkz hth
      go_wp2_with (at_builtin; refine wpList_append_lies _ rfl _ _ 22 rfl w.heap.size 5 i0 _ 1 1 Tryd.underlying22 hi0 hz0 hz1 hz2 rfl (by omega) _ _ _ rfl (ho.alloc _) ⟨wr.heap.size, 0, none⟩ 8 8 [.int .u8 0, .int .u8 0, .int .u8 0, .int .u8 0, .int .u8 0, .int .u8 0, .int .u8 0, .int .u8 (th : Int)] rfl rfl (World.news_of_block (cs := #[.int .u8 0, .int .u8 0, .int .u8 0, .int .u8 0, .int .u8 0, .int .u8 0, .int .u8 0, .int .u8 (th : Int)]) (t := 5) (fr := (0, 0)) (Go.heap_alloc_new wr _)) (by simp [Value.oneCell']) (by omega) (by unfold maxLen; omega) (by omega) (by have := hkp.size; simp; omega) (wr.heap.size + 1) (by simp) ?_; intro gg c' w4 ho4 hg hat hgl)
      have hk5 : Kept Nought w w4 := (hkp.alloc _).grown hg (fun b hb hlt => by have := (ho.lt b hb).1; omega)
      have HO4 : Hid (OwnN .u8 5 w4 w.heap.size (.slice (some ⟨gg, 0, none⟩) (k + 1 + 8) c') (k + 1 + 8) (([128] ++ List.replicate k 0) ++ [0, 0, 0, 0, 0, 0, 0, th])) := by unfold Hid OwnN; rw [List.map_append]; exact ho4
      have HK4 := toHid hk5
      clear h112 gth gth2 ho4 hg hat hgl hk5 ho hkp
      go_wp2_with fail
      go_loopw [3, 4] (fun out iv wr2 => ∃ (j : Nat) (a2 : Option Addr) (c2 : Nat), j ≤ 8 ∧ iv = .int .i64 (56 - 8 * (j : Int)) ∧ out = .slice a2 (k + 1 + 8 + j) c2 ∧ Hid (OwnN .u8 5 wr2 w.heap.size (.slice a2 (k + 1 + 8 + j) c2) (k + 1 + 8 + j) ((([128] ++ List.replicate k 0) ++ [0, 0, 0, 0, 0, 0, 0, th]) ++ padL N j)) ∧ Hid (Kept Nought w wr2)) (fun _ iv _ => ((intOf iv + 8) / 8).toNat)
      case atStart => exact ⟨0, _, _, Nat.zero_le _, rfl, rfl, by unfold Hid; rw [show padL N 0 = [] from rfl, List.append_nil]; exact HO4.out, HK4.out⟩
      case round =>
        obtain ⟨j, a2, c2, hj, rfl, rfl, HO2, HK2⟩ := hrel
        by_cases hj8 : j < 8
        · obtain ⟨q, hq⟩ : ∃ q, q = 56 - 8 * j := ⟨_, rfl⟩
          have gq : (56 : Int) - 8 * (j : Int) = (q : Int) := by omega
          have gq0 : (0 : Int) ≤ (q : Int) := by omega
          have hq64 : q < 64 := by omega
          obtain ⟨y, hy⟩ : ∃ y, y = 8 * N % 18446744073709551616 / 2 ^ q % 256 := ⟨_, rfl⟩
          have gy : IntKind.u64.wrap (8 * (N : Int)) / 2 ^ q % 256 = (y : Int) := by
            rw [IntKind.wrap_u64, hy]
            simp
          have HY : Hid (padL N (j + 1) = padL N j ++ [y]) := by
            unfold Hid
            rw [padL_succ, ← hq, ← hy]
          clear hq hy
          have ho := HO2.out
          have hkp := HK2.out
          go_wp2_with (at_builtin; refine wpList_append_lies _ rfl _ _ 22 rfl w.heap.size 5 i0 _ 1 1 Tryd.underlying22 hi0 hz0 hz1 hz2 rfl (by omega) _ _ _ rfl (ho.alloc _) ⟨wr.heap.size, 0, none⟩ 1 1 [.int .u8 (y : Int)] rfl rfl (new1c wr _ _) (by simp [Value.oneCell']) (by omega) (by unfold maxLen; omega) (by omega) (by have := hkp.size; simp; omega) (wr.heap.size + 1) (by simp) ?_; intro gg c' w4 ho4 hg hat hgl)
          have hk5 : Kept Nought w w4 := (hkp.alloc _).grown hg (fun b hb hlt => by have := (ho.lt b hb).1; omega)
          go_roundw
          case rel => exact ⟨j + 1, _, _, by omega, by go_num, rfl, by unfold Hid OwnN; rw [HY.out, ← List.append_assoc, List.map_append]; exact ho4, hk5⟩
          case measure => simp [intOf]; omega
        · have gj : (56 : Int) - 8 * (j : Int) < 0 := by omega
          have gj' : ¬ (56 : Int) - 8 * (j : Int) ≥ 0 := by omega
          have ho := HO2.out
          rw [show j = 8 by omega] at ho
          have hrow : Row .u8 wr (.slice a2 (k + 1 + 8 + j) c2) (padM N) := by
            unfold padM
            rw [← HZZ.out, ← HKZ.out, ← HTH.out, show k + 1 + 8 + j = k + 1 + 8 + 8 by omega]
            exact Row.of_own (base := w.heap.size) (e := 5) (by
              have hl : ((([128] ++ List.replicate k 0) ++ [0, 0, 0, 0, 0, 0, 0, th]) ++ padL N 8).length = k + 1 + 8 + 8 := by unfold padL; simp
              rw [hl]
              exact ho)
          have hfr : ∀ b, (Value.slice a2 (k + 1 + 8 + j) c2).ownBlock = some b → w.heap.size ≤ b := fun b hb => (HO2.out.lt b hb).1
          have HR := toHid hrow
          have HF := toHid hfr
          clear ho hrow hfr
          go_wp2_with fail
          go_ret
          exact ⟨_, rfl, HR.out, HF.out, HK2.out⟩
    · have h112 : ¬ ((N : Int) + ((k : Int) + 1)) % 128 = 112 := by have := mt hiff.1 hkz; omega
      clear HO0 HK0 hiff
      have ho := HO.out
      have hkp := HK.out
      go_wp2_with (at_builtin; refine wpList_append_lies _ rfl _ _ 22 rfl w.heap.size 5 i0 _ 1 1 Tryd.underlying22 hi0 hz0 hz1 hz2 rfl (by omega) _ _ _ rfl (ho.alloc _) ⟨wr.heap.size, 0, none⟩ 1 1 [.int .u8 0] rfl rfl (new1c wr _ _) (by simp [Value.oneCell']) (by omega) (by unfold maxLen; omega) (by omega) (by have := hkp.size; simp; omega) (wr.heap.size + 1) (by simp) ?_; intro gg c' w4 ho4 hg hat hgl)
      have hk5 : Kept Nought w w4 := (hkp.alloc _).grown hg (fun b hb hlt => by have := (ho.lt b hb).1; omega)
      go_roundw
      case rel => exact ⟨k + 1, _, _, by omega, rfl, by unfold Hid OwnN; rw [List.replicate_succ', ← List.append_assoc, List.map_append]; exact ho4, hk5⟩
      case measure => simp [sliceLen]; omega

end Go.Proofs.YthnkganmccgaeaaDoor


/- The plain side of layer 12: Block of what is none; Sum. -/
namespace Go.Proofs.YthnkganmccgaeaaDoor
open Go.RowKit

/-- So many blocks. -/
def blksM (h : List Nat) (all : List Nat) : Nat → List Nat
  | 0 => h
  | i + 1 => blkM (blksM h all i) ((all.drop (128 * i)).take 128)

/-- A word's first j bytes, the highest ahead. -/
def b8M (z j : Nat) : List Nat := (List.range j).map fun i => z / 2 ^ (56 - 8 * i) % 256

theorem b8M_succ (z j : Nat) : b8M z (j + 1) = b8M z j ++ [z / 2 ^ (56 - 8 * j) % 256] := by
  unfold b8M
  rw [List.range_succ, List.map_append]
  rfl

/-- A state's bytes. -/
def outM (s : List Nat) : Nat → List Nat
  | 0 => []
  | i + 1 => outM s i ++ b8M (s.getD i 0) 8

theorem outM_length (s : List Nat) : ∀ k, (outM s k).length = 8 * k
  | 0 => rfl
  | k + 1 => by unfold outM b8M; rw [List.length_append, outM_length s k]; simp; omega

/-- All 64 bytes of the hash. -/
def sum64M (short : Bool) (bs : List Nat) : List Nat := outM (blksM (H5 short) (bs ++ padM bs.length) ((bs ++ padM bs.length).length / 128)) 8

/-- The hash. -/
def sumM (short : Bool) (bs : List Nat) : List Nat := if short = true then (sum64M short bs).take 48 else sum64M short bs

theorem padM_length (n : Nat) : (padM n).length = 1 + padZM n + 16 := by
  unfold padM padL
  simp
  omega

theorem all_blocksM (n : Nat) : (n + (padM n).length) % 128 = 0 := by
  rw [padM_length]
  unfold padZM
  omega

theorem padM_digs (n : Nat) : Digs 256 (padM n) := by
  unfold padM padL
  intro d hd
  simp only [List.mem_append, List.mem_replicate, List.mem_map, List.mem_cons, List.not_mem_nil, or_false] at hd
  rcases hd with ((rfl | ⟨_, rfl⟩) | hd) | ⟨i, _, rfl⟩
  · omega
  · omega
  · omega
  · exact Nat.mod_lt _ (by omega)

theorem blkM_digs {s bs : List Nat} : Digs 18446744073709551616 (blkM s bs) ∧ (blkM s bs).length = 8 := by
  constructor
  · unfold blkM
    intro d hd
    obtain ⟨i, _, rfl⟩ := List.mem_map.1 hd
    exact Nat.mod_lt _ (by omega)
  · unfold blkM
    simp

theorem H5_digs (short : Bool) : Digs 18446744073709551616 (H5 short) ∧ (H5 short).length = 8 := by
  cases short
  · show Digs _ H512 ∧ _
    unfold Digs H5 H512
    decide
  · show Digs _ H384 ∧ _
    unfold Digs H5 H384
    decide

theorem blksM_digs {h all : List Nat} (hh : Digs 18446744073709551616 h ∧ h.length = 8) : ∀ i, Digs 18446744073709551616 (blksM h all i) ∧ (blksM h all i).length = 8
  | 0 => hh
  | _ + 1 => blkM_digs

end Go.Proofs.YthnkganmccgaeaaDoor


/- Arrays, rows and cells: what stays of them (no layer of its own). -/
namespace Go.Proofs.YthnkganmccgaeaaDoor
open Go.RowKit

theorem keepC {W : World} {a : Addr} {p j : Nat} {x q : Value} (h : W.cell? a = some q) (hne : a ≠ ⟨p, j, none⟩) : (W.setCell ⟨p, j, none⟩ x).cell? a = some q := (World.cell?_setCell_other (w := W) (a := ⟨p, j, none⟩) (b := a) (v := x) (fun e => hne e.symm)).trans h

theorem keepDr {W : World} {a : Addr} {v : Value} (h : W.cell? a = some v) : W.drew.cell? a = some v := ((Kept.refl Nought W).drew).cellN h

theorem all_one (k : IntKind) (zs : List Nat) : ((zs.map fun z => Value.int k (z : Nat)).toArray).all (·.oneCell') = true := by
  rw [Array.all_eq_true_iff_forall_mem]
  intro v hv
  rw [List.mem_toArray] at hv
  obtain ⟨z, _, rfl⟩ := List.mem_map.1 hv
  rfl

theorem kept_setRow (w : World) (b : Nat) (cs : Array Value) : Kept (fun x => x = b) w (w.setRow b cs) :=
  ⟨rfl, rfl, rfl, by simp [World.setRow], fun k _ hk => by
    have hk' : ¬ b = k := fun e => hk e.symm
    simp [World.setRow, Array.getElem?_modify, hk']⟩

theorem cell_other {w w' : World} {p b j : Nat} {u : Value} (h : w.cell? ⟨b, j, none⟩ = some u) (k : Kept (fun x => x = p) w w') (hne : b ≠ p) : w'.cell? ⟨b, j, none⟩ = some u := by
  have hlt : b < w.heap.size := by
    by_cases hh : b < w.heap.size
    · exact hh
    · have : w.heap[b]? = none := Array.getElem?_eq_none (by omega)
      simp [World.cell?, this] at h
  have e := k.block b hlt hne
  unfold World.cell? at *
  rw [e]
  exact h

theorem keepAl {W : World} {a : Addr} {O : Obj} {v : Value} (h : W.cell? a = some v) : (W.alloc O).cell? a = some v := ((Kept.refl Nought W).alloc O).cellN h

theorem keepS8 {W : World} {a : Addr} {p : Nat} {y0 y1 y2 y3 y4 y5 y6 y7 q : Value} (h : W.cell? a = some q) (hne : a.block ≠ p) : ((((((((W.setCell ⟨p, 0, none⟩ y0).setCell ⟨p, 1, none⟩ y1).setCell ⟨p, 2, none⟩ y2).setCell ⟨p, 3, none⟩ y3).setCell ⟨p, 4, none⟩ y4).setCell ⟨p, 5, none⟩ y5).setCell ⟨p, 6, none⟩ y6).setCell ⟨p, 7, none⟩ y7).cell? a = some q := by
  have e : ∀ (w : World) (j : Nat) (r : Value), (w.setCell ⟨p, j, none⟩ r).cell? a = w.cell? a := fun w j r => by
    unfold World.cell?
    rw [Below.heap_setCell w ⟨p, j, none⟩ r a.block hne]
  rw [e, e, e, e, e, e, e, e]
  exact h

theorem padL_at (N j : Nat) (hj : j < 8) : (padL N 8)[j]? = some (8 * N % 18446744073709551616 / 2 ^ (56 - 8 * j) % 256) := by
  unfold padL
  rw [List.getElem?_map, List.getElem?_range hj]
  rfl

theorem padL_length (N : Nat) : (padL N 8).length = 8 := by unfold padL; simp

theorem lt_of_cell {w : World} {a : Addr} {u : Value} (h : w.cell? a = some u) : a.block < w.heap.size := by
  by_cases hh : a.block < w.heap.size
  · exact hh
  · have : w.heap[a.block]? = none := Array.getElem?_eq_none (by omega)
    simp [World.cell?, this] at h

theorem row_none (k : IntKind) (w : World) (ad : Addr) : Row k w (.slice (some ad) 0 0) [] := ⟨some ad, 0, rfl, Nat.le_refl _, by unfold maxLen; omega, (fun e => by cases e), fun i hi => absurd hi (by simp)⟩

/-- append of bytes to a row of the call's own, inside a region that draws its order. -/
theorem step_append_row {w : World} {ops : Array Oper} {o : Oper} {a : Act} {K : Act → World → Prop} {Q : Exit → Act → World → Prop} {E : Prop} (hgd : o.guard = none) (s x : Operand)
    (ho : o.op = .call { callee := .builtin .append, args := #[s, x], argTypes := #[22, 22] })
    (base : Nat) (v : Value) (zs : List Nat) (hs : a.eval s = v) (hown : OwnB w base v zs) (ad : Addr) (n c : Nat) (hx : a.eval x = .slice (some ad) n c) (bs : List Nat) (hr : Row .u8 w (.slice (some ad) n c) bs) (hl : zs.length + n ≤ 100000000) (hbase : base ≤ w.heap.size)
    (h : ∀ v' w', OwnB w' base v' (zs ++ bs) → w.grownBy w' v.ownBlock → K (a.put o.dst v') w') :
    if Region.wanted o (yielded ops a.tmps) = true then Oper.wp Tryd.prog o a w K Q else E := by
  have hw : Region.wanted o (yielded ops a.tmps) = true := by simp [Region.wanted, hgd]
  rw [if_pos hw]
  obtain ⟨i0, hi0, hz0, hz1, hz2⟩ := info_parts Tryd.info8s
  obtain ⟨_, _, _, e1, hL, _, _, _, _⟩ := hr.open
  cases e1
  refine wp_append_own w s x 22 ho base 5 i0 (.int .u8 0) 1 1 Tryd.underlying22 hi0 hz0 hz1 hz2 rfl (by decide) v zs.length _ hs hown ad n c (bs.map fun z : Nat => Value.int .u8 (z : Int)) hx (by rw [List.length_map, hL.out, Nat.mul_one]) (news_row hr (Kept.refl _ _)) (ones8 .u8 bs) (by unfold maxLen; omega) (by omega) hbase ?_
  intro v' w' ho' hg _
  refine h v' w' (OwnB.of (n := zs.length + n) ?_) hg
  unfold OwnN
  rw [List.map_append]
  exact ho'

end Go.Proofs.YthnkganmccgaeaaDoor

