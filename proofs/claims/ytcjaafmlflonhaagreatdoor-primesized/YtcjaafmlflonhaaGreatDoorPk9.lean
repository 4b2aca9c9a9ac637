/- Put together of: Base3 Base4. -/
import Derived.Test.YtcjaafmlflonhaaGreatDoorPk1
import Derived.Test.YtcjaafmlflonhaaGreatDoorPk5
import Derived.BigRegion
import Derived.Test.YtcjaafmlflonhaaGreatDoorRows
import Derived.Shelf.Strconv.Itoa0
import Derived.Lib.ItoaNum
import Derived.Laws.CopyOwn

/- Melted of: BigBytes BigBit RefNat. -/

/- The plain numbers in bytes: ToBytes, FromBytes. -/
namespace Go.Proofs.YtcjaafmlflonhaaGreatDoor
open Go.RowKit

/-- The number of bytes, the highest ahead. -/
def bev (l : List Nat) : Nat := l.foldl (fun a b => a * 256 + b) 0

theorem bev_snoc (l : List Nat) (b : Nat) : bev (l ++ [b]) = bev l * 256 + b := by simp [bev]

theorem bev_take_succ {l : List Nat} {i : Nat} (h : i < l.length) : bev (l.take (i + 1)) = bev (l.take i) * 256 + l.getD i 0 := by
  rw [List.take_succ_eq_append_getElem h, bev_snoc, List.getD_eq_getElem?_getD, List.getElem?_eq_getElem h]
  rfl

theorem val_set {B : Nat} : ∀ {l : List Nat} {i d : Nat}, i < l.length → val B (l.set i (l.getD i 0 + d)) = val B l + B ^ i * d
  | x :: r, 0, d, _ => by simp [val]; omega
  | x :: r, i + 1, d, h => by
    have ih := val_set (B := B) (l := r) (i := i) (d := d) (by simpa using h)
    simp only [List.set_cons_succ, val, List.getD_cons_succ, ih, Nat.mul_add, Nat.pow_succ]
    rw [Nat.mul_comm (B ^ i) B, Nat.mul_assoc]
    omega

/-- The bytes that came so far end in the digit where the next belongs. -/
theorem from_digit (T k : Nat) : dig 4294967296 (T * 256 ^ (k + 1)) (k / 4) = T * 256 ^ (k % 4 + 1) % 4294967296 := by
  unfold dig
  have e : (256 : Nat) ^ (k + 1) = 256 ^ (k % 4 + 1) * 4294967296 ^ (k / 4) := by
    rw [show (4294967296 : Nat) ^ (k / 4) = 256 ^ (4 * (k / 4)) from by rw [Nat.pow_mul], ← Nat.pow_add]
    congr 1; omega
  rw [e, ← Nat.mul_assoc, Nat.mul_div_cancel _ (Nat.pow_pos (by omega))]

theorem from_or (T k b : Nat) (hb : b < 256) : bits .or .u32 ((T * 256 ^ (k % 4 + 1) % 4294967296 : Nat) : Int) (IntKind.u32.wrap ((b : Int) * 2 ^ (k % 4 * 8))) = ((T * 256 ^ (k % 4 + 1) % 4294967296 + b * 256 ^ (k % 4) : Nat) : Int) ∧
    T * 256 ^ (k % 4 + 1) % 4294967296 + b * 256 ^ (k % 4) < 4294967296 := by
  have h : k % 4 = 0 ∨ k % 4 = 1 ∨ k % 4 = 2 ∨ k % 4 = 3 := by omega
  have key : ∀ (r : Nat) (x y : Nat), x % 2 ^ r = 0 → y < 2 ^ r → x + y < 4294967296 → bits .or .u32 (x : Int) (y : Int) = ((x + y : Nat) : Int) := fun r x y h1 h2 h3 => by
    rw [u32_or_nat x y (by omega) (by omega), nat_join r x y h1 h2]
  rcases h with h | h | h | h <;> rw [h] <;> simp only [Nat.zero_add, Nat.reduceAdd, Nat.reducePow, Nat.reduceMul, Nat.zero_mul, Int.reducePow, Nat.pow_zero, Nat.pow_one, Nat.mul_one, Int.mul_one, Int.pow_zero]
  · refine ⟨?_, by omega⟩
    rw [IntKind.wrap_u32', show (b : Int) % 4294967296 = (b : Int) by omega]
    exact key 8 _ _ (by omega) (by omega) (by omega)
  · refine ⟨?_, by omega⟩
    rw [IntKind.wrap_u32', show (b : Int) * 256 % 4294967296 = ((b * 256 : Nat) : Int) by omega]
    exact key 16 _ _ (by omega) (by omega) (by omega)
  · refine ⟨?_, by omega⟩
    rw [IntKind.wrap_u32', show (b : Int) * 65536 % 4294967296 = ((b * 65536 : Nat) : Int) by omega]
    exact key 24 _ _ (by omega) (by omega) (by omega)
  · refine ⟨?_, by omega⟩
    rw [IntKind.wrap_u32', show (b : Int) * 16777216 % 4294967296 = ((b * 16777216 : Nat) : Int) by omega]
    exact key 32 _ _ (by omega) (by omega) (by omega)

/-- The next byte. -/
theorem from_step {zs : List Nat} {T k b n i : Nat} (hk : n = i + 1 + k) (hd : Digs 4294967296 zs) (hl : k / 4 < zs.length) (hv : val 4294967296 zs = T * 256 ^ (n - i)) :
    zs.getD (k / 4) 0 = T * 256 ^ (k % 4 + 1) % 4294967296 ∧ val 4294967296 (zs.set (k / 4) (zs.getD (k / 4) 0 + b * 256 ^ (k % 4))) = (T * 256 + b) * 256 ^ (n - (i + 1)) := by
  have e1 : n - i = k + 1 := by omega
  have e2 : n - (i + 1) = k := by omega
  rw [e1] at hv
  refine ⟨by rw [← dig_val (by omega) hd, hv, from_digit], ?_⟩
  rw [val_set hl, hv, e2, Nat.add_mul, Nat.pow_succ]
  have e3 : 4294967296 ^ (k / 4) * (b * 256 ^ (k % 4)) = b * 256 ^ k := by
    rw [show (4294967296 : Nat) ^ (k / 4) = 256 ^ (4 * (k / 4)) from by rw [Nat.pow_mul], Nat.mul_left_comm, ← Nat.pow_add]
    congr 2; omega
  rw [e3, Nat.mul_assoc, Nat.mul_comm 256]

set_option maxRecDepth 100000 in
set_option maxHeartbeats 800000 in
theorem rFromBytes (v : Value) (bs : List Nat) (w : World) (h : Row .u8 w v bs) (hd : Digs 256 bs) (hl : bs.length ≤ 100000000) :
    Calls Tryz.prog 43 #[v] w fun r w' => ∃ v', r = .returned v' ∧ IsBig w' v' (bev bs) ∧ (∀ b, v'.ownBlock = some b → w.heap.size ≤ b) ∧ Kept Nought w w' := by
  obtain ⟨i0, hi0, hz0, hz1, hz2⟩ := info_parts Tryz.info65
  obtain ⟨ao, n, cap, rfl, hN, _, _, _, h4⟩ := h.open
  rw [hN.out] at hl
  have xb := fun i => hd.getD (by omega) i
  clear h hd
  obtain ⟨m, hm⟩ : ∃ m, m = (n + 3) / 4 := ⟨_, rfl⟩
  have hm' : ((n : Int) + 3) / 4 = (m : Int) := by omega
  have hmn : 4 * m ≥ n := by omega
  have hmb : m ≤ 100000000 := by omega
  clear hm
  go_enter Tryz.func43, Tryz.ntmps43
  go_wp2_with (at_make; refine wpList_make_full _ rfl _ _ 41 rfl w.heap.size 65 i0 _ 1 Tryz.underlying41 hi0 hz0 hz1 _ _ _ _ m rfl rfl (by first | rfl | omega) (by first | rfl | omega) (by rw [hz2]; omega) (by unfold maxLen; omega) (Nat.le_refl _) ?_; intro w1 ho1 hg1)
  rw [zeros_map] at ho1
  have k1 := grown_kept hg1
  go_loopw [13] (fun i wr => ∃ (k : Nat) (zs : List Nat), k ≤ n ∧ i = .int .i64 k ∧ Hid (zs.length = m) ∧ Digs 4294967296 zs ∧ Hid (val 4294967296 zs = bev (bs.take k) * 256 ^ (n - k)) ∧ OwnN .u32 65 wr w.heap.size (.slice (some ⟨w.heap.size, 0, none⟩) m m) m zs ∧ Kept Nought w wr) (fun i _ => n - (intOf i).toNat)
  case atStart => exact ⟨0, List.replicate m 0, Nat.zero_le _, rfl, List.length_replicate, (fun d hd => by simp at hd; omega), by unfold Hid; rw [val_zeros _ (fun d hd => by simp at hd; exact hd.2)]; simp [bev], ho1, k1⟩
  case round =>
    clear ho1 hg1 k1
    obtain ⟨i, zs, hk, rfl, hzl, hzd, hzv, ho, hkp⟩ := hrel
    by_cases hkn : i < n
    · have hk1 : (i : Int) < (n : Int) := by omega
      obtain ⟨b, off, rfl, hcell⟩ := (h4 i hkn).grew hkp
      have hbx := xb i
      have HT : Hid (bev (bs.take (i + 1)) = bev (bs.take i) * 256 + bs.getD i 0) := bev_take_succ (by have := hN.out; omega)
      clear xb h4
      generalize bs.getD i 0 = y at *
      obtain ⟨j, hj⟩ : ∃ j, j = n - 1 - i := ⟨_, rfl⟩
      have hJ : (n : Int) - 1 - (i : Int) = (j : Int) := by omega
      have hj4 : j / 4 < m := by omega
      obtain ⟨f1, f2⟩ := from_step (b := y) (show n = i + 1 + j by omega) hzd (by have := hzl.out; omega) hzv.out
      rw [← HT.out] at f2
      obtain ⟨o1, o2⟩ := from_or (bev (bs.take i)) j y hbx
      rw [← f1] at o1 o2
      have hc : wr.cell? ⟨w.heap.size, j / 4, none⟩ = some (.int .u32 ((zs.getD (j / 4) 0 : Nat) : Int)) := by
        rw [World.ownsRow.cellAt ho (j / 4) (by omega), List.getElem?_map, List.getD_eq_getElem?_getD, List.getElem?_eq_getElem (by have := hzl.out; omega)]
        rfl
      have hf := World.ownsRow.frozenAt ho (j / 4)
      have hst := fun u => (World.ownsRow.stored ho (j / 4) u).1
      have F2 : Hid (val 4294967296 (zs.set (j / 4) (zs.getD (j / 4) 0 + y * 256 ^ (j % 4))) = bev (bs.take (i + 1)) * 256 ^ (n - (i + 1))) := f2
      have hjb : j ≤ 1000000000 := by omega
      clear f1 f2 hj HT hzv
      generalize zs.getD (j / 4) 0 = z at *
      generalize z + y * 256 ^ (j % 4) = Z at *
      rw [IntKind.wrap_u32'] at o1
      have O1 : Hid (bits .or .u32 (z : Int) ((y : Int) * 2 ^ (j % 4 * 8) % 4294967296) = (Z : Int)) := o1
      clear o1
      have j1 : (0 : Int) ≤ (j : Int) / 4 := by omega
      have j2 : (j : Int) / 4 < (m : Int) := by omega
      have j3 : ((j : Int) / 4).toNat = j / 4 := by omega
      go_wp2_with fail
      go_region
      all_goals
        go_wp2
        rw [O1.out]
        go_roundw
        case rel =>
          refine ⟨i + 1, zs.set (j / 4) Z, by omega, by go_num, by unfold Hid; rw [List.length_set]; exact hzl.out, ?_, F2, ?_, (hkp.setCell _ (fun h => by simp at h) _).drew⟩
          · intro d hd
            rcases List.mem_or_eq_of_mem_set hd with h | h
            · exact hzd d h
            · omega
          · unfold OwnN
            rw [List.map_set]
            exact hst _
        case measure => simp [intOf]; omega
    · have hk1 : ¬ (i : Int) < (n : Int) := by omega
      have hv : val 4294967296 zs = bev bs := by
        rw [hzv.out, show n - i = 0 by omega, List.take_of_length_le (by have := hN.out; omega)]
        simp
      have hr : Row .u32 wr _ zs := Row.of_own (base := w.heap.size) (e := 65) (by rw [hzl.out]; exact ho)
      have ht := rTrimBig _ _ _ hr hzd (by have := hzl.out; omega)
      rw [hv] at ht
      clear xb h4 hv hr
      go_wp2_with fail
      refine ht.mono ?_
      rintro e w' ⟨v', rfl, hb, ho', rfl⟩
      go_wp2
      go_ret
      exact ⟨v', rfl, hb, fun b hb' => by rw [ho'] at hb'; exact (ho.lt b hb').1, hkp⟩

end Go.Proofs.YtcjaafmlflonhaaGreatDoor

/- The plain numbers' bits: Bit, BitLen; whether two numbers are alike with their lengths: Same. -/
namespace Go.Proofs.YtcjaafmlflonhaaGreatDoor
open Go.RowKit

/-- Bit number i. -/
def bitN (V : Nat) (i : Int) : Nat := if i < 0 then 0 else V / 2 ^ i.toNat % 2

theorem bitN_nat (V j : Nat) : bitN V (j : Int) = V / 2 ^ j % 2 := by
  unfold bitN
  rw [if_neg (by omega), Int.toNat_natCast]

theorem bit_dig (V j : Nat) : dig 4294967296 V (j / 32) / 2 ^ (j % 32) % 2 = V / 2 ^ j % 2 := by
  unfold dig
  have e : (4294967296 : Nat) ^ (j / 32) = 2 ^ (32 * (j / 32)) := by rw [Nat.pow_mul]
  have e3 : (2 : Nat) ^ j = 2 ^ (32 * (j / 32)) * 2 ^ (j % 32) := by rw [← Nat.pow_add]; congr 1; omega
  rw [e, e3, ← Nat.div_div_eq_div_mul]
  generalize V / 2 ^ (32 * (j / 32)) = x
  have e4 : (4294967296 : Nat) = 2 ^ (j % 32) * 2 ^ (32 - j % 32) := by
    rw [← Nat.pow_add, show j % 32 + (32 - j % 32) = 32 by omega]
  rw [e4, Nat.mod_mul_right_div_self]
  have hd : 2 ∣ 2 ^ (32 - j % 32) := ⟨2 ^ (31 - j % 32), by rw [← Nat.pow_succ', show (31 - j % 32).succ = 32 - j % 32 by omega]⟩
  exact Nat.mod_mod_of_dvd _ hd

theorem bit_above {ds : List Nat} (hd : Digs 4294967296 ds) (j : Nat) (h : ds.length ≤ j / 32) : val 4294967296 ds / 2 ^ j % 2 = 0 := by
  have h1 := val_lt (by omega) hd
  have h2 : (4294967296 : Nat) ^ ds.length ≤ 2 ^ j := by
    have e : (4294967296 : Nat) ^ ds.length = 2 ^ (32 * ds.length) := by rw [Nat.pow_mul]
    rw [e]
    exact Nat.pow_le_pow_right (by omega) (by omega)
  rw [Nat.div_eq_of_lt (by omega)]

set_option maxRecDepth 100000 in
set_option maxHeartbeats 400000 in
theorem rBit (v : Value) (V : Nat) (i : Int) (w : World) (h : IsBig w v V) (hi : i ≤ 9223372036854775807) :
    Calls Tryz.prog 13 #[v, .int .i64 i] w fun r w' => r = .returned (.int .u64 (bitN V i : Nat)) ∧ w' = w := by
  obtain ⟨ds, hr, hd, _, rfl, hl⟩ := h
  have hV : ∀ i, ds.getD i 0 = dig 4294967296 (val 4294967296 ds) i := fun i => (dig_val (by omega) hd i).symm
  obtain ⟨ao, n, cap, rfl, hN, _, _, _, h4⟩ := hr.open
  rw [hN.out] at hl
  by_cases hneg : i < 0
  · have e : bitN (val 4294967296 ds) i = 0 := by unfold bitN; rw [if_pos hneg]
    rw [e]
    clear h4 hr hd hV e
    go_enter Tryz.func13, Tryz.ntmps13
    go_wp2
    go_ret
    exact ⟨rfl, rfl⟩
  · obtain ⟨j, rfl⟩ := Int.eq_ofNat_of_zero_le (show 0 ≤ i by omega)
    rw [bitN_nat]
    by_cases hj : j / 32 < n
    · obtain ⟨b, off, rfl, hc⟩ := h4 (j / 32) hj
      have hb := bit_dig (val 4294967296 ds) j
      rw [← hV] at hb
      rw [← hb]
      have hx : ds.getD (j / 32) 0 < 4294967296 := hd.getD (by omega) _
      clear h4 hr hd hV hb
      generalize ds.getD (j / 32) 0 = x at *
      have g1 : (j : Int) / 32 < (n : Int) := by omega
      have g2 : (0 : Int) ≤ (j : Int) / 32 := by omega
      have g3 : ((j : Int) / 32).toNat = j / 32 := by omega
      go_enter Tryz.func13, Tryz.ntmps13
      have hy := Nat.div_le_self x (2 ^ (j % 32))
      have hand : Hid (IntKind.u64.wrap (bits .and .u32 ((x : Int) / 2 ^ (j % 32)) 1) = ((x / 2 ^ (j % 32) % 2 : Nat) : Int)) := by
        unfold Hid
        have e : (x : Int) / 2 ^ (j % 32) = ((x / 2 ^ (j % 32) : Nat) : Int) := by simp
        have h1 := u32_and_nat (x / 2 ^ (j % 32)) 1 (by omega) (by omega)
        rw [nat_mask1] at h1
        rw [e, show (1 : Int) = ((1 : Nat) : Int) from rfl, h1, IntKind.wrap_u64]
        omega
      clear hy
      generalize x / 2 ^ (j % 32) % 2 = R at *
      go_wp2
      go_ret
      refine ⟨?_, rfl⟩
      show Ending.returned (Value.int .u64 (IntKind.u64.wrap (bits .and .u32 ((x : Int) / 2 ^ (j % 32)) 1))) = _
      rw [hand.out]
    · have g1 : ¬ (j : Int) / 32 < (n : Int) := by omega
      rw [bit_above hd j (by have := hN.out; omega)]
      clear h4 hr hd hV
      go_enter Tryz.func13, Tryz.ntmps13
      go_wp2
      go_ret
      exact ⟨rfl, rfl⟩

/-- How many bits a number has. -/
def blen (V : Nat) : Nat := if V = 0 then 0 else Nat.log2 V + 1

theorem blen_le (V n : Nat) : blen V ≤ n ↔ V < 2 ^ n := by
  unfold blen
  by_cases h : V = 0
  · subst h; simp [Nat.pow_pos]
  · rw [if_neg h]
    have := Nat.log2_lt (n := V) (k := n) h
    omega

theorem blen_zero {V k : Nat} (h : V < 2 ^ (k + 1)) (hb : V / 2 ^ k % 2 = 0) : V < 2 ^ k := by
  have h1 : V / 2 ^ k < 2 := by rw [Nat.div_lt_iff_lt_mul (Nat.pow_pos (by omega))]; rw [Nat.pow_succ] at h; omega
  have h2 : V / 2 ^ k = 0 := by
    generalize V / 2 ^ k = q at *
    omega
  rcases Nat.lt_or_ge V (2 ^ k) with h3 | h3
  · exact h3
  · have := (Nat.div_pos_iff).2 ⟨Nat.pow_pos (n := k) (show 0 < 2 by omega), h3⟩
    omega

theorem blen_one {V k : Nat} (h : V < 2 ^ (k + 1)) (hb : V / 2 ^ k % 2 ≠ 0) : blen V = k + 1 := by
  have h1 := (blen_le V (k + 1)).2 h
  have h2 : ¬ blen V ≤ k := fun hk => by
    have := (blen_le V k).1 hk
    rw [Nat.div_eq_of_lt this] at hb
    exact hb rfl
  omega

set_option maxRecDepth 100000 in
set_option maxHeartbeats 400000 in
theorem rBitLen (v : Value) (V : Nat) (w : World) (h : IsBig w v V) :
    Calls Tryz.prog 12 #[v] w fun r w' => r = .returned (.int .i64 (blen V : Nat)) ∧ w' = w := by
  have HB := fun j (hj : j ≤ 100000000000) => rBit v V ((j : Nat) : Int) w h (by omega)
  obtain ⟨ds, hr, hd, _, rfl, hl⟩ := h
  have hlt := val_lt (by omega) hd
  obtain ⟨ao, n, cap, rfl, hN, _, _, _, _⟩ := hr.open
  rw [hN.out] at hl hlt
  have hlt' : Hid (val 4294967296 ds < 2 ^ (32 * n)) := by unfold Hid; rw [Nat.pow_mul]; exact hlt
  clear hr hlt hd
  generalize val 4294967296 ds = V at *
  go_enter Tryz.func12, Tryz.ntmps12
  go_wp2_with fail
  go_loop [3] (fun i => ∃ k : Nat, k ≤ 32 * n ∧ i = .int .i64 k ∧ Hid (V < 2 ^ k)) (fun i => (intOf i).toNat)
  case atStart => exact ⟨32 * n, Nat.le_refl _, by go_num, hlt'⟩
  case round =>
    obtain ⟨k, hk, rfl, hV⟩ := hrel
    cases k with
    | zero =>
      have e : Hid (blen V = 0) := by
        have := hV.out
        have h0 : V = 0 := by simpa using this
        unfold Hid; rw [h0]; rfl
      clear HB
      go_wp2
      go_ret
      rw [e.out]
      exact ⟨rfl, rfl⟩
    | succ j =>
      have hB := HB j (by omega)
      rw [bitN_nat] at hB
      clear HB
      by_cases hb : V / 2 ^ j % 2 = 0
      · have hz : Hid (V < 2 ^ j) := blen_zero hV.out hb
        rw [hb] at hB
        clear hb hV hlt'
        go_wp2_with fail
        refine hB.mono ?_
        rintro e w' ⟨rfl, rfl⟩
        go_wp2
        go_round
        case rel => exact ⟨j, by omega, by go_num, hz⟩
        case measure => simp [intOf]
      · have hz : Hid (blen V = j + 1) := blen_one hV.out hb
        have h1 : V / 2 ^ j % 2 = 1 := by omega
        rw [h1] at hB
        clear hb hV hlt' h1
        go_wp2_with fail
        refine hB.mono ?_
        rintro e w' ⟨rfl, rfl⟩
        go_wp2
        go_ret
        rw [hz.out]
        exact ⟨rfl, rfl⟩

theorem eq_take_succ {a b : List Nat} {k : Nat} (ha : k < a.length) (hb : k < b.length) (h : a.take k = b.take k) (he : a.getD k 0 = b.getD k 0) : a.take (k + 1) = b.take (k + 1) := by
  rw [List.take_succ_eq_append_getElem ha, List.take_succ_eq_append_getElem hb, h]
  rw [List.getD_eq_getElem?_getD, List.getD_eq_getElem?_getD, List.getElem?_eq_getElem ha, List.getElem?_eq_getElem hb] at he
  simp only [Option.getD_some] at he
  rw [he]

set_option maxHeartbeats 400000 in
theorem rSame (u v : Value) (a b : List Nat) (w : World) (hu : Row .u64 w u a) (hv : Row .u64 w v b) :
    Calls Tryz.prog 10 #[u, v] w fun r w' => r = .returned (.bool (decide (a = b))) ∧ ∃ n, w' = w.drewN n := by
  obtain ⟨ao, n, ac, rfl, hN, h1, h2, _, hA⟩ := hu.open
  obtain ⟨bo, m, bc, rfl, hM, h1', h2', _, hB⟩ := hv.open
  clear hu hv
  by_cases hl : n = m
  · subst hl
    go_enter Tryz.func10, Tryz.ntmps10
    go_wp2_with fail
    go_loopw [5, 13] (fun _ i wr => ∃ k : Nat, k ≤ n ∧ i = .int .i64 k ∧ Hid (a.take k = b.take k) ∧ ∃ m, wr = w.drewN m) (fun _ i _ => n - (intOf i).toNat)
    case atStart => exact ⟨0, Nat.zero_le _, rfl, rfl, 0, rfl⟩
    case round =>
      obtain ⟨k, hk, rfl, ht, m, rfl⟩ := hrel
      by_cases hlt : k < n
      · obtain ⟨ga, oa, rfl, ca⟩ := hA k hlt
        obtain ⟨gb, ob, rfl, cb⟩ := hB k hlt
        have hst : Hid (a.getD k 0 = b.getD k 0 → a.take (k + 1) = b.take (k + 1)) := fun h => eq_take_succ (by have := hN.out; omega) (by have := hM.out; omega) ht.out h
        have hne : Hid (a.getD k 0 ≠ b.getD k 0 → decide (a = b) = false) := fun h => by
          simp only [decide_eq_false_iff_not]
          intro e; subst e; exact h rfl
        clear hA hB ht
        generalize a.getD k 0 = x at *
        generalize b.getD k 0 = y at *
        have hk0 : (0 : Int) ≤ (k : Int) := Int.natCast_nonneg _
        have hk1 : (k : Int) < (n : Int) := by omega
        by_cases he : x = y
        · subst he
          have hq : ((x : Int) == (x : Int)) = true := by simp
          go_wp2_with fail
          go_quiet (fail)
          go_wp2
          go_roundw
          case rel => exact ⟨k + 1, by omega, by go_num, hst.out (by first | rfl | trivial), _, rfl⟩
          case measure => simp [intOf]; omega
        · have hq : ((x : Int) == (y : Int)) = false := by simp; omega
          have hq2 : ((x : Int) != (y : Int)) = true := by simp; omega
          have hr : Hid (decide (a = b) = false) := hne.out he
          go_wp2_with fail
          go_quiet (fail)
          go_wp2
          go_ret
          rw [hr.out]
          exact ⟨rfl, _, World.drewN_drewN _ _ _⟩
      · have hr : Hid (decide (a = b) = true) := by
          have := ht.out
          have e1 := hN.out
          have e2 := hM.out
          rw [List.take_of_length_le (by omega), List.take_of_length_le (by omega)] at this
          unfold Hid; simpa using this
        clear hA hB ht
        have hk1 : ¬ (k : Int) < (n : Int) := by omega
        go_wp2
        go_ret
        rw [hr.out]
        exact ⟨rfl, _, rfl⟩
  · have hr : decide (a = b) = false := by
      simp only [decide_eq_false_iff_not]
      intro e; subst e; exact hl (hN.out.symm.trans hM.out)
    rw [hr]
    have hl' : ¬ (n : Int) = (m : Int) := by omega
    clear hA hB hr
    go_enter Tryz.func10, Tryz.ntmps10
    go_wp2
    go_ret
    exact ⟨rfl, 0, rfl⟩

end Go.Proofs.YtcjaafmlflonhaaGreatDoor

/- The plain answers of layer 3: OfBytes, Resize, Word, Bytes. -/
namespace Go.Proofs.YtcjaafmlflonhaaGreatDoor
open Go.RowKit

/-- The error's number, where a number is put into n words. -/
def resCode (V : Nat) (n : Int) : Int := if 300 < n then 2 else if n < 0 ∨ n.toNat < wordsN V then 1 else 0

/-- The words then. -/
def resList (V : Nat) (n : Int) : List Nat := if resCode V n = 0 then digs 18446744073709551616 V n.toNat else []

theorem res_long {V : Nat} {n : Int} (h : 300 < n) : resCode V n = 2 ∧ resList V n = [] := by
  have e : resCode V n = 2 := if_pos h
  exact ⟨e, by unfold resList; rw [if_neg (by rw [e]; decide)]⟩

theorem res_range {V : Nat} {n : Int} (h : ¬ 300 < n) (h2 : n < 0 ∨ n.toNat < wordsN V) : resCode V n = 1 ∧ resList V n = [] := by
  have e : resCode V n = 1 := by unfold resCode; rw [if_neg h, if_pos h2]
  exact ⟨e, by unfold resList; rw [if_neg (by rw [e]; decide)]⟩

theorem res_ok {V n : Nat} (h : n ≤ 300) (h2 : wordsN V ≤ n) : resCode V (n : Int) = 0 ∧ resList V (n : Int) = digs 18446744073709551616 V n := by
  have e : resCode V (n : Int) = 0 := by unfold resCode; rw [if_neg (by omega), if_neg (by simp; omega)]
  exact ⟨e, by unfold resList; rw [if_pos e, Int.toNat_natCast]⟩

/-- How many words a word is put into. -/
def clampN (n : Int) : Nat := (min (max n 1) 300).toNat

theorem blen_bd {w : World} {v : Value} {V : Nat} (h : IsBig w v V) : blen V ≤ 32000000000 := by
  obtain ⟨ds, _, hd, _, rfl, hl⟩ := h
  have h1 := val_lt (by omega) hd
  have e : (4294967296 : Nat) ^ ds.length = 2 ^ (32 * ds.length) := by rw [Nat.pow_mul]
  rw [e] at h1
  have := (blen_le _ _).2 h1
  omega

end Go.Proofs.YtcjaafmlflonhaaGreatDoor


/- Melted of: Lay0 NatA. -/

/- Where bits.Len64 lies in this translation: the table of numbers, each row checked. -/
namespace Go.Proofs.YtcjaafmlflonhaaGreatDoor
open Go.Shelf

def l129_ren : Go.Shelf.Ren := ⟨fun | 129 => 97 | n => n, fun | 53 => 23 | 3 => 3 | 4 => 4 | 46 => 66 | 5 => 5 | 9 => 9 | n => n, fun n => n⟩

theorem l129 : Lays.n129 Tryz.prog l129_ren := {
  mixed := by kernel_rfl,
  f129 := Tryz.func97.trans (congrArg some (by kernel_rfl)),
  t3 := Tryz.underlying3,
  a3 := Tryz.isAgg3,
  z3 := Tryz.sizeOf3,
  v3 := Tryz.zeroValue3,
  t4 := Tryz.underlying4,
  a4 := Tryz.isAgg4,
  z4 := Tryz.sizeOf4,
  v4 := Tryz.zeroValue4,
  t5 := Tryz.underlying5,
  a5 := Tryz.isAgg5,
  z5 := Tryz.sizeOf5,
  v5 := Tryz.zeroValue5,
  t9 := Tryz.underlying9,
  a9 := Tryz.isAgg9,
  z9 := Tryz.sizeOf9,
  v9 := Tryz.zeroValue9,
  t46 := Tryz.underlying66,
  a46 := Tryz.isAgg66,
  z46 := Tryz.sizeOf66,
  v46 := Tryz.zeroValue66,
  t53 := Tryz.underlying23,
  a53 := Tryz.isAgg23,
  z53 := Tryz.sizeOf23,
  v53 := Tryz.zeroValue23 }

end Go.Proofs.YtcjaafmlflonhaaGreatDoor

/- Package nat: needed, lengthError, Bits, Word, Bit, Resize: what they answer, for any number. -/
namespace Go.Proofs.YtcjaafmlflonhaaGreatDoor
open Go.RowKit

set_option maxHeartbeats 400000 in
theorem nNeeded (v : Value) (zs : List Nat) (w : World) (h : Row .u64 w v zs) :
    Calls Tryz.prog 82 #[v] w fun r w' => ∃ m v', r = .returned v' ∧ m ≤ zs.length ∧ Row .u64 w v' (zs.take m) ∧ (∀ i, m ≤ i → zs.getD i 0 = 0) ∧ (m = 0 ∨ zs.getD (m - 1) 0 ≠ 0) ∧ v'.ownBlock = v.ownBlock ∧ (∃ ao n cap, v = .slice ao n cap ∧ v' = .slice ao m cap) ∧ w' = w := by
  have hcut := fun ao n cap (e : v = .slice ao n cap) m (hm : m ≤ zs.length) => (show Row .u64 w (.slice ao n cap) zs from e ▸ h).cut hm
  obtain ⟨ao, n, cap, rfl, hN, h1, h2, h3, h4⟩ := h.open
  have HC : Hid (∀ m, m ≤ n → Row .u64 w (.slice ao m cap) (zs.take m)) := fun m hm => hcut ao n cap rfl m (by have := hN.out; omega)
  have HL : Hid (∀ i, n ≤ i → zs.getD i 0 = 0) := fun i hi => by have := hN.out; rw [List.getD_eq_getElem?_getD, List.getElem?_eq_none (by omega)]; rfl
  clear hcut h h3
  go_enter Tryz.func82, Tryz.ntmps82
  go_wp2_with fail
  go_loop [0] (fun a => ∃ m : Nat, m ≤ n ∧ a = .slice ao m cap ∧ Hid (∀ i, m ≤ i → zs.getD i 0 = 0)) (fun a => lenV a)
  case atStart => exact ⟨n, Nat.le_refl _, rfl, HL⟩
  case round =>
    obtain ⟨m, hm, rfl, hz⟩ := hrel
    cases m with
    | zero =>
      clear h4
      go_wp2
      go_ret
      exact ⟨0, _, rfl, Nat.zero_le _, HC.out 0 (Nat.zero_le _), hz.out, .inl rfl, own_len ao 0 n cap, ⟨ao, n, cap, ⟨rfl, rfl, rfl⟩, rfl⟩, rfl⟩
    | succ j =>
      obtain ⟨b, off, rfl, hc⟩ := h4 j (by omega)
      obtain ⟨z, hzz⟩ : ∃ z, z = zs.getD j 0 := ⟨_, rfl⟩
      rw [← hzz] at hc
      have HZ : Hid (z = zs.getD j 0) := hzz
      clear hzz h4
      by_cases h0 : z = 0
      · have hz0 : ((z : Int) == 0) = true := by simp [h0]
        subst h0
        go_wp2
        go_round
        case rel => exact ⟨j, by omega, rfl, fun i hi => by
          by_cases e : i = j
          · subst e; exact HZ.out.symm
          · exact hz.out i (by omega)⟩
        case measure => simp [lenV]
      · have hne : Hid (zs.getD (j + 1 - 1) 0 ≠ 0) := by
          unfold Hid
          rw [Nat.add_sub_cancel, ← HZ.out]
          exact h0
        have hz0 : ((z : Int) == 0) = false := by simp; omega
        have hz1 : ¬ ((z : Int) = 0) := by omega
        go_wp2
        go_ret
        exact ⟨j + 1, _, rfl, by have := hN.out; omega, HC.out _ hm, hz.out, .inr hne.out, own_len _ _ _ _, ⟨_, _, _, ⟨rfl, rfl, rfl⟩, rfl⟩, rfl⟩

theorem len_words {ds : List Nat} (hd : Digs 18446744073709551616 ds) (ht : Trimmed ds) : ds.length = wordsN (val 18446744073709551616 ds) := by
  have h1 := (len_le_iff (by omega) hd ht (wordsN (val 18446744073709551616 ds))).2 ((wordsN_le _ _).1 (Nat.le_refl _))
  have h2 := (wordsN_le (val 18446744073709551616 ds) ds.length).2 ((len_le_iff (by omega) hd ht _).1 (Nat.le_refl _))
  omega

/-- needed: the same number, its highest word not 0. -/
theorem nNeed (v : Value) (xs : List Nat) (w : World) (h : Row .u64 w v xs) (hd : Digs 18446744073709551616 xs) :
    Calls Tryz.prog 82 #[v] w fun r w' => ∃ v' ys, r = .returned v' ∧ Row .u64 w v' ys ∧ Digs 18446744073709551616 ys ∧ Trimmed ys ∧ val 18446744073709551616 ys = val 18446744073709551616 xs ∧ Hid (ys.length = wordsN (val 18446744073709551616 xs)) ∧ ys.length ≤ xs.length ∧ v'.ownBlock = v.ownBlock ∧ w' = w := by
  refine (nNeeded v xs w h).mono ?_
  rintro e w' ⟨m, v', rfl, hm, hr, hz, ht, ho, _, rfl⟩
  have e1 := take_trim (B := 18446744073709551616) hm hz
  have t1 := trimmed_take hm ht
  refine ⟨v', xs.take m, rfl, hr, hd.take m, t1, e1, ?_, by rw [List.length_take]; omega, ho, rfl⟩
  have := len_words (hd.take m) t1
  rw [e1] at this
  exact this

theorem nLenErr (n : Int) (w : World) : Calls Tryz.prog 65 #[.int .i64 n] w fun r w' => r = .returned (.int .i64 (if 300 < n then 2 else if n < 0 then 1 else 0)) ∧ w' = w := by
  by_cases h1 : 300 < n
  · rw [if_pos h1]
    go_enter Tryz.func65, Tryz.ntmps65
    go_wp2
    go_ret
    exact ⟨rfl, rfl⟩
  · rw [if_neg h1]
    by_cases h2 : n < 0
    · rw [if_pos h2]
      go_enter Tryz.func65, Tryz.ntmps65
      go_wp2
      go_ret
      exact ⟨rfl, rfl⟩
    · rw [if_neg h2]
      go_enter Tryz.func65, Tryz.ntmps65
      go_wp2
      go_ret
      exact ⟨rfl, rfl⟩

theorem bitLen_blen (x : Nat) (h : x < 18446744073709551616) : Lib.bitLen x = blen x := by
  by_cases h0 : x = 0
  · subst h0; rfl
  · obtain ⟨a, b, c⟩ := Lib.bitLenAux_bounds 64 x h h0
    unfold Lib.bitLen
    have h1 := (blen_le x _).2 c
    have h2 : ¬ blen x ≤ Lib.bitLenAux 64 x - 1 := fun k => by have := (blen_le x _).1 k; omega
    omega

theorem blen_top {ys : List Nat} (hd : Digs 18446744073709551616 ys) (ht : Trimmed ys) (hn : 0 < ys.length) : blen (val 18446744073709551616 ys) = 64 * (ys.length - 1) + blen (ys.getD (ys.length - 1) 0) := by
  have e := val_take_drop 18446744073709551616 ys (ys.length - 1) (by omega)
  have hdrop : ys.drop (ys.length - 1) = [ys.getD (ys.length - 1) 0] := by
    rw [List.drop_eq_getElem_cons (by omega), List.drop_eq_nil_of_le (by omega), List.getD_eq_getElem?_getD, List.getElem?_eq_getElem (by omega)]
    rfl
  rw [hdrop] at e
  have hlow : val 18446744073709551616 (ys.take (ys.length - 1)) < 18446744073709551616 ^ (ys.length - 1) := by
    have := val_lt (by omega) (hd.take (ys.length - 1))
    rwa [List.length_take, Nat.min_eq_left (by omega)] at this
  have htop : ys.getD (ys.length - 1) 0 ≠ 0 := by
    rcases ht with h | h
    · omega
    · exact h
  simp only [val, Nat.mul_zero, Nat.add_zero] at e
  generalize ys.getD (ys.length - 1) 0 = y at *
  generalize ys.length - 1 = k at *
  generalize val 18446744073709551616 (ys.take k) = L at *
  generalize val 18446744073709551616 ys = V at *
  have hB : (18446744073709551616 : Nat) ^ k = 2 ^ (64 * k) := by rw [Nat.pow_mul]
  rw [hB] at e hlow
  generalize hM : blen y = M
  have h1 : y < 2 ^ M := (blen_le _ _).1 (by omega)
  have h2 : 2 ^ (M - 1) ≤ y := by
    have : ¬ blen y ≤ M - 1 := by
      have : 0 < blen y := by
        rcases Nat.eq_zero_or_pos (blen y) with z | z
        · have := (blen_le y 0).1 (by omega); omega
        · exact z
      omega
    have := mt (blen_le y (M - 1)).2 this
    omega
  have hM1 : 1 ≤ M := by
    rcases Nat.eq_zero_or_pos M with z | z
    · rw [z] at h1; omega
    · exact z
  have u1 : V < 2 ^ (64 * k + M) := by
    rw [Nat.pow_add]
    have : 2 ^ (64 * k) * (y + 1) ≤ 2 ^ (64 * k) * 2 ^ M := Nat.mul_le_mul_left _ h1
    rw [Nat.mul_add, Nat.mul_one] at this
    omega
  have u2 : 2 ^ (64 * k + (M - 1)) ≤ V := by
    rw [Nat.pow_add]
    have : 2 ^ (64 * k) * 2 ^ (M - 1) ≤ 2 ^ (64 * k) * y := Nat.mul_le_mul_left _ h2
    omega
  have h3 := (blen_le V _).2 u1
  have h4 : ¬ blen V ≤ 64 * k + (M - 1) := fun c => by have := (blen_le V _).1 c; omega
  omega

set_option maxHeartbeats 400000 in
/-- Bits. -/
theorem nBits (v : Value) (xs : List Nat) (w : World) (h : Row .u64 w v xs) (hd : Digs 18446744073709551616 xs) (hl : xs.length ≤ 100000000) :
    Calls Tryz.prog 64 #[v] w fun r w' => r = .returned (.int .i64 (blen (val 18446744073709551616 xs) : Nat)) ∧ w' = w := by
  have hN := nNeed v xs w h hd
  obtain ⟨R, hR⟩ : ∃ R, R = blen (val 18446744073709551616 xs) := ⟨_, rfl⟩
  rw [← hR]
  have HR : Hid (R = blen (val 18446744073709551616 xs)) := hR
  clear hR
  go_enter Tryz.func64, Tryz.ntmps64
  go_wp2_with fail
  refine hN.mono ?_
  rintro e w' ⟨v', ys, rfl, hr, hdy, hty, hv, _, hle, _, rfl⟩
  rw [← hv] at HR
  obtain ⟨ao, n, cap, rfl, hL, h1, h2, h3, h4⟩ := hr.open
  cases n with
  | zero =>
    obtain rfl : ys = [] := List.eq_nil_of_length_eq_zero hL.out
    clear h4 hL
    go_wp2
    go_ret
    exact ⟨by rw [HR.out]; rfl, rfl⟩
  | succ j =>
    have hb := blen_top hdy hty (by have := hL.out; omega)
    have hj : ys.length - 1 = j := by have := hL.out; omega
    rw [hj] at hb
    have hjl : j < 100000000 := by have := hL.out; omega
    obtain ⟨b, off, rfl, hc⟩ := h4 j (by omega)
    have hy : ys.getD j 0 < 18446744073709551616 := hdy.getD (by omega) j
    rw [hb] at HR
    generalize ys.getD j 0 = y at *
    have hB64 : blen y ≤ 64 := (blen_le y 64).2 hy
    have hLen := Any.bits_Len64 l129 (y : Int) w' (by omega) (by omega)
    rw [show ((y : Int).toNat) = y from rfl, bitLen_blen y hy] at hLen
    clear h4 hb hv hr hdy hty hN h hd
    have hw1 : wrap64 ((j : Int) + 1 - 1) = j := by simp [wrap64]; omega
    have hw2 : wrap64 (64 * (j : Int)) = 64 * j := by simp [wrap64]; omega
    have hw3 : wrap64 (64 * (j : Int) + (blen y : Nat)) = 64 * j + (blen y : Nat) := by simp [wrap64]; omega
    generalize blen y = M at *
    go_wp2_with fail
    refine hLen.mono ?_
    rintro e w' ⟨rfl, rfl⟩
    go_wp2
    go_ret
    exact ⟨by rw [HR.out]; simp, rfl⟩

theorem word_digs (x m : Nat) (hx : x < 18446744073709551616) : digs 18446744073709551616 x (m + 1) = x :: List.replicate m 0 := by
  refine (digs_val (by omega) (B := 18446744073709551616) (l := x :: List.replicate m 0) (V := x) (n := m + 1) ?_ (by simp) ?_).symm
  · intro d hd
    rcases List.mem_cons.1 hd with rfl | hd
    · exact hx
    · rw [List.mem_replicate] at hd; omega
  · have hz : val 18446744073709551616 (List.replicate m 0) = 0 := val_zeros _ (fun d hd => (List.mem_replicate.1 hd).2)
    rw [Nat.mod_eq_of_lt (Nat.lt_of_lt_of_le hx (by rw [Nat.pow_succ]; exact Nat.le_mul_of_pos_left _ (Nat.pow_pos (by omega))))]
    simp only [val, hz]
    omega

end Go.Proofs.YtcjaafmlflonhaaGreatDoor

