/- Put together of: Base3. -/
import Derived.Test.YtldbfcifoijliaaGreatDoorPk1
import Derived.Test.YtldbfcifoijliaaGreatDoorPk3
import Derived.BigRegion

/- Melted of: BigBytes BigBit RefNat. -/

/- The plain numbers in bytes: ToBytes, FromBytes. -/
namespace Go.Proofs.YtldbfcifoijliaaGreatDoor
open Go.RowKit

/-- The first i of the n bytes of a number, the highest ahead. -/
def bes (V n : Nat) : Nat → List Nat
  | 0 => []
  | i + 1 => bes V n i ++ [dig 256 V (n - 1 - i)]

theorem bes_length (V n : Nat) : ∀ i, (bes V n i).length = i
  | 0 => rfl
  | i + 1 => by simp [bes, bes_length V n i]

theorem bes_digs (V n : Nat) : ∀ i, Digs 256 (bes V n i)
  | 0 => Digs.nil _
  | i + 1 => (bes_digs V n i).append (Digs.one (Nat.mod_lt _ (by omega)))

theorem byte_dig (V j : Nat) : dig 4294967296 V (j / 4) / 2 ^ (j % 4 * 8) % 256 = dig 256 V j := by
  unfold dig
  have e : (4294967296 : Nat) ^ (j / 4) = 256 ^ (4 * (j / 4)) := by rw [Nat.pow_mul]
  have e0 : (2 : Nat) ^ (j % 4 * 8) = 256 ^ (j % 4) := by rw [Nat.mul_comm, Nat.pow_mul]
  have e3 : (256 : Nat) ^ j = 256 ^ (4 * (j / 4)) * 256 ^ (j % 4) := by rw [← Nat.pow_add]; congr 1; omega
  rw [e, e0, e3, ← Nat.div_div_eq_div_mul]
  generalize V / 256 ^ (4 * (j / 4)) = x
  have h : j % 4 = 0 ∨ j % 4 = 1 ∨ j % 4 = 2 ∨ j % 4 = 3 := by omega
  rcases h with h | h | h | h <;> rw [h] <;> omega

theorem set_fill8 (V n k : Nat) (h : k < n) : (bes V n k ++ List.replicate (n - k) 0).set k (dig 256 V (n - 1 - k)) = bes V n (k + 1) ++ List.replicate (n - (k + 1)) 0 := by
  rw [List.set_append_right _ _ (by rw [bes_length]; omega), bes_length, Nat.sub_self, bes, show n - k = (n - (k + 1)) + 1 by omega, List.replicate_succ]
  simp

theorem Tryz.info5 : (Tryz.prog.info? 5).map (fun i => (i.zero, i.size, i.bytes)) = some (some (.int .u8 0), 1, 1) := by kernel_rfl

set_option maxRecDepth 100000 in
set_option maxHeartbeats 800000 in
theorem rToBytes (v : Value) (V n : Nat) (w : World) (h : IsBig w v V) (hn : n ≤ 1000000000) :
    Calls Tryz.prog 12 #[v, .int .i64 n] w fun r w' => ∃ v', r = .returned v' ∧ Row .u8 w' v' (bes V n n) ∧ v'.ownBlock = some w.heap.size ∧ Kept Nought w w' := by
  obtain ⟨i0, hi0, hz0, hz1, hz2⟩ := info_parts Tryz.info5
  obtain ⟨ds, hr, hd, _, rfl, _⟩ := h
  have HD := fun i W (hk : Kept Nought w W) => rDigit v ds i W (hr.grew hk)
  have hV : ∀ i, ds.getD i 0 = dig 4294967296 (val 4294967296 ds) i := fun i => (dig_val (by omega) hd i).symm
  have hlt : ∀ i, dig 4294967296 (val 4294967296 ds) i < 4294967296 := fun i => Nat.mod_lt _ (by omega)
  simp only [hV] at HD
  clear hr hd hV
  generalize val 4294967296 ds = V at *
  have hm : max (n : Int) 0 = (n : Int) := by omega
  go_enter Tryz.func12, Tryz.ntmps12
  go_wp2_with (at_make; refine wpList_make_full _ rfl _ _ 25 rfl w.heap.size 5 i0 _ 1 Tryz.underlying25 hi0 hz0 hz1 _ _ _ _ n rfl rfl rfl rfl (by rw [hz2]; omega) (by unfold maxLen; omega) (Nat.le_refl _) ?_; intro w1 ho1 hg1)
  rw [zeros_map] at ho1
  have k1 := grown_kept hg1
  go_loopw [13] (fun i wr => ∃ k : Nat, k ≤ n ∧ i = .int .i64 k ∧ OwnN .u8 5 wr w.heap.size (.slice (some ⟨w.heap.size, 0, none⟩) n n) n (bes V n k ++ List.replicate (n - k) 0) ∧ Kept Nought w wr) (fun i _ => n - (intOf i).toNat)
  case atStart => exact ⟨0, Nat.zero_le _, rfl, by rw [show bes V n 0 = [] from rfl, List.nil_append, Nat.sub_zero]; exact ho1, k1⟩
  case round =>
    clear ho1 hg1 k1
    obtain ⟨k, hk, rfl, ho, hkp⟩ := hrel
    by_cases hkn : k < n
    · have hk1 : (k : Int) < (n : Int) := by omega
      have hc : wr.cell? ⟨w.heap.size, k, none⟩ = some (.int .u8 0) := by
        rw [World.ownsRow.cellAt ho k (by omega), List.getElem?_map, List.getElem?_append_right (by rw [bes_length]; omega), bes_length, Nat.sub_self, List.getElem?_replicate, if_pos (by omega)]
        rfl
      have hf := World.ownsRow.frozenAt ho k
      have hst := fun u => (World.ownsRow.stored ho k u).1
      obtain ⟨j, hj⟩ : ∃ j, j = n - 1 - k := ⟨_, rfl⟩
      have hJ : (n : Int) - 1 - (k : Int) = (j : Int) := by omega
      have HF : Hid ((bes V n k ++ List.replicate (n - k) 0).set k (dig 256 V j) = bes V n (k + 1) ++ List.replicate (n - (k + 1)) 0) := by unfold Hid; rw [hj]; exact set_fill8 V n k hkn
      have hjb : j ≤ 1000000000 := by omega
      clear hj
      have hD := HD (j / 4) wr hkp
      rw [show ((j / 4 : Nat) : Int) = (j : Int) / 4 by omega] at hD
      have hl := hlt (j / 4)
      have hby := byte_dig V j
      clear HD hlt
      generalize dig 4294967296 V (j / 4) = d at *
      have e1 : (d : Int) / 2 ^ (j % 4 * 8) = ((d / 2 ^ (j % 4 * 8) : Nat) : Int) := by simp
      have HB : Hid ((d : Int) / 2 ^ (j % 4 * 8) % 256 = ((dig 256 V j : Nat) : Int)) := by unfold Hid; rw [e1, ← hby]; omega
      clear e1 hby
      go_wp2_with fail
      refine hD.mono ?_
      rintro e w' ⟨rfl, rfl⟩
      go_wp2
      rw [HB.out]
      go_roundw
      case rel =>
        refine ⟨k + 1, by omega, by go_num, ?_, hkp.setCell _ (fun h => by simp at h) _⟩
        unfold OwnN
        rw [← HF.out, List.map_set]
        exact hst _
      case measure => simp [intOf]; omega
    · have hk1 : ¬ (k : Int) < (n : Int) := by omega
      have e : k = n := by omega
      subst e
      rw [Nat.sub_self, List.replicate_zero, List.append_nil] at ho
      clear HD hlt
      go_wp2
      go_ret
      exact ⟨_, rfl, Row.of_own (by rw [bes_length]; exact ho), rfl, hkp⟩

/-- The number of bytes, the highest ahead. -/
def bev (l : List Nat) : Nat := l.foldl (fun a b => a * 256 + b) 0

theorem bev_snoc (l : List Nat) (b : Nat) : bev (l ++ [b]) = bev l * 256 + b := by simp [bev]

theorem bev_take_succ {l : List Nat} {i : Nat} (h : i < l.length) : bev (l.take (i + 1)) = bev (l.take i) * 256 + l.getD i 0 := by
  rw [List.take_succ_eq_append_getElem h, bev_snoc, List.getD_eq_getElem?_getD, List.getElem?_eq_getElem h]
  rfl

theorem val_set {B : Nat} : ∀ {l : List Nat} {i d : Nat}, i < l.length → val B (l.set i (l.getD i 0 + d)) = val B l + B ^ i * d
  | x :: r, 0, d, _ => by simp [val]; omega
  | x :: r, i + 1, d, h => by
    have ih := val_set (B := B) (l := r) (i := i) (d := d) (by simpa using h)
    simp only [List.set_cons_succ, val, List.getD_cons_succ, ih, Nat.mul_add, Nat.pow_succ]
    rw [Nat.mul_comm (B ^ i) B, Nat.mul_assoc]
    omega

/-- The bytes that came so far end in the digit where the next belongs. -/
theorem from_digit (T k : Nat) : dig 4294967296 (T * 256 ^ (k + 1)) (k / 4) = T * 256 ^ (k % 4 + 1) % 4294967296 := by
  unfold dig
  have e : (256 : Nat) ^ (k + 1) = 256 ^ (k % 4 + 1) * 4294967296 ^ (k / 4) := by
    rw [show (4294967296 : Nat) ^ (k / 4) = 256 ^ (4 * (k / 4)) from by rw [Nat.pow_mul], ← Nat.pow_add]
    congr 1; omega
  rw [e, ← Nat.mul_assoc, Nat.mul_div_cancel _ (Nat.pow_pos (by omega))]

theorem from_or (T k b : Nat) (hb : b < 256) : bits .or .u32 ((T * 256 ^ (k % 4 + 1) % 4294967296 : Nat) : Int) (IntKind.u32.wrap ((b : Int) * 2 ^ (k % 4 * 8))) = ((T * 256 ^ (k % 4 + 1) % 4294967296 + b * 256 ^ (k % 4) : Nat) : Int) ∧
    T * 256 ^ (k % 4 + 1) % 4294967296 + b * 256 ^ (k % 4) < 4294967296 := by
  have h : k % 4 = 0 ∨ k % 4 = 1 ∨ k % 4 = 2 ∨ k % 4 = 3 := by omega
  have key : ∀ (r : Nat) (x y : Nat), x % 2 ^ r = 0 → y < 2 ^ r → x + y < 4294967296 → bits .or .u32 (x : Int) (y : Int) = ((x + y : Nat) : Int) := fun r x y h1 h2 h3 => by
    rw [u32_or_nat x y (by omega) (by omega), nat_join r x y h1 h2]
  rcases h with h | h | h | h <;> rw [h] <;> simp only [Nat.zero_add, Nat.reduceAdd, Nat.reducePow, Nat.reduceMul, Nat.zero_mul, Int.reducePow, Nat.pow_zero, Nat.pow_one, Nat.mul_one, Int.mul_one, Int.pow_zero]
  · refine ⟨?_, by omega⟩
    rw [IntKind.wrap_u32', show (b : Int) % 4294967296 = (b : Int) by omega]
    exact key 8 _ _ (by omega) (by omega) (by omega)
  · refine ⟨?_, by omega⟩
    rw [IntKind.wrap_u32', show (b : Int) * 256 % 4294967296 = ((b * 256 : Nat) : Int) by omega]
    exact key 16 _ _ (by omega) (by omega) (by omega)
  · refine ⟨?_, by omega⟩
    rw [IntKind.wrap_u32', show (b : Int) * 65536 % 4294967296 = ((b * 65536 : Nat) : Int) by omega]
    exact key 24 _ _ (by omega) (by omega) (by omega)
  · refine ⟨?_, by omega⟩
    rw [IntKind.wrap_u32', show (b : Int) * 16777216 % 4294967296 = ((b * 16777216 : Nat) : Int) by omega]
    exact key 32 _ _ (by omega) (by omega) (by omega)

/-- The next byte. -/
theorem from_step {zs : List Nat} {T k b n i : Nat} (hk : n = i + 1 + k) (hd : Digs 4294967296 zs) (hl : k / 4 < zs.length) (hv : val 4294967296 zs = T * 256 ^ (n - i)) :
    zs.getD (k / 4) 0 = T * 256 ^ (k % 4 + 1) % 4294967296 ∧ val 4294967296 (zs.set (k / 4) (zs.getD (k / 4) 0 + b * 256 ^ (k % 4))) = (T * 256 + b) * 256 ^ (n - (i + 1)) := by
  have e1 : n - i = k + 1 := by omega
  have e2 : n - (i + 1) = k := by omega
  rw [e1] at hv
  refine ⟨by rw [← dig_val (by omega) hd, hv, from_digit], ?_⟩
  rw [val_set hl, hv, e2, Nat.add_mul, Nat.pow_succ]
  have e3 : 4294967296 ^ (k / 4) * (b * 256 ^ (k % 4)) = b * 256 ^ k := by
    rw [show (4294967296 : Nat) ^ (k / 4) = 256 ^ (4 * (k / 4)) from by rw [Nat.pow_mul], Nat.mul_left_comm, ← Nat.pow_add]
    congr 2; omega
  rw [e3, Nat.mul_assoc, Nat.mul_comm 256]

set_option maxRecDepth 100000 in
set_option maxHeartbeats 800000 in
theorem rFromBytes (v : Value) (bs : List Nat) (w : World) (h : Row .u8 w v bs) (hd : Digs 256 bs) (hl : bs.length ≤ 100000000) :
    Calls Tryz.prog 14 #[v] w fun r w' => ∃ v', r = .returned v' ∧ IsBig w' v' (bev bs) ∧ (∀ b, v'.ownBlock = some b → w.heap.size ≤ b) ∧ Kept Nought w w' := by
  obtain ⟨i0, hi0, hz0, hz1, hz2⟩ := info_parts Tryz.info62
  obtain ⟨ao, n, cap, rfl, hN, _, _, _, h4⟩ := h.open
  rw [hN.out] at hl
  have xb := fun i => hd.getD (by omega) i
  clear h hd
  obtain ⟨m, hm⟩ : ∃ m, m = (n + 3) / 4 := ⟨_, rfl⟩
  have hm' : ((n : Int) + 3) / 4 = (m : Int) := by omega
  have hmn : 4 * m ≥ n := by omega
  have hmb : m ≤ 100000000 := by omega
  clear hm
  go_enter Tryz.func14, Tryz.ntmps14
  go_wp2_with (at_make; refine wpList_make_full _ rfl _ _ 36 rfl w.heap.size 62 i0 _ 1 Tryz.underlying36 hi0 hz0 hz1 _ _ _ _ m rfl rfl (by first | rfl | omega) (by first | rfl | omega) (by rw [hz2]; omega) (by unfold maxLen; omega) (Nat.le_refl _) ?_; intro w1 ho1 hg1)
  rw [zeros_map] at ho1
  have k1 := grown_kept hg1
  go_loopw [13] (fun i wr => ∃ (k : Nat) (zs : List Nat), k ≤ n ∧ i = .int .i64 k ∧ Hid (zs.length = m) ∧ Digs 4294967296 zs ∧ Hid (val 4294967296 zs = bev (bs.take k) * 256 ^ (n - k)) ∧ OwnN .u32 62 wr w.heap.size (.slice (some ⟨w.heap.size, 0, none⟩) m m) m zs ∧ Kept Nought w wr) (fun i _ => n - (intOf i).toNat)
  case atStart => exact ⟨0, List.replicate m 0, Nat.zero_le _, rfl, List.length_replicate, (fun d hd => by simp at hd; omega), by unfold Hid; rw [val_zeros _ (fun d hd => by simp at hd; exact hd.2)]; simp [bev], ho1, k1⟩
  case round =>
    clear ho1 hg1 k1
    obtain ⟨i, zs, hk, rfl, hzl, hzd, hzv, ho, hkp⟩ := hrel
    by_cases hkn : i < n
    · have hk1 : (i : Int) < (n : Int) := by omega
      obtain ⟨b, off, rfl, hcell⟩ := (h4 i hkn).grew hkp
      have hbx := xb i
      have HT : Hid (bev (bs.take (i + 1)) = bev (bs.take i) * 256 + bs.getD i 0) := bev_take_succ (by have := hN.out; omega)
      clear xb h4
      generalize bs.getD i 0 = y at *
      obtain ⟨j, hj⟩ : ∃ j, j = n - 1 - i := ⟨_, rfl⟩
      have hJ : (n : Int) - 1 - (i : Int) = (j : Int) := by omega
      have hj4 : j / 4 < m := by omega
      obtain ⟨f1, f2⟩ := from_step (b := y) (show n = i + 1 + j by omega) hzd (by have := hzl.out; omega) hzv.out
      rw [← HT.out] at f2
      obtain ⟨o1, o2⟩ := from_or (bev (bs.take i)) j y hbx
      rw [← f1] at o1 o2
      have hc : wr.cell? ⟨w.heap.size, j / 4, none⟩ = some (.int .u32 ((zs.getD (j / 4) 0 : Nat) : Int)) := by
        rw [World.ownsRow.cellAt ho (j / 4) (by omega), List.getElem?_map, List.getD_eq_getElem?_getD, List.getElem?_eq_getElem (by have := hzl.out; omega)]
        rfl
      have hf := World.ownsRow.frozenAt ho (j / 4)
      have hst := fun u => (World.ownsRow.stored ho (j / 4) u).1
      have F2 : Hid (val 4294967296 (zs.set (j / 4) (zs.getD (j / 4) 0 + y * 256 ^ (j % 4))) = bev (bs.take (i + 1)) * 256 ^ (n - (i + 1))) := f2
      have hjb : j ≤ 1000000000 := by omega
      clear f1 f2 hj HT hzv
      generalize zs.getD (j / 4) 0 = z at *
      generalize z + y * 256 ^ (j % 4) = Z at *
      rw [IntKind.wrap_u32'] at o1
      have O1 : Hid (bits .or .u32 (z : Int) ((y : Int) * 2 ^ (j % 4 * 8) % 4294967296) = (Z : Int)) := o1
      clear o1
      have j1 : (0 : Int) ≤ (j : Int) / 4 := by omega
      have j2 : (j : Int) / 4 < (m : Int) := by omega
      have j3 : ((j : Int) / 4).toNat = j / 4 := by omega
      go_wp2_with fail
      go_region
      all_goals
        go_wp2
        rw [O1.out]
        go_roundw
        case rel =>
          refine ⟨i + 1, zs.set (j / 4) Z, by omega, by go_num, by unfold Hid; rw [List.length_set]; exact hzl.out, ?_, F2, ?_, (hkp.setCell _ (fun h => by simp at h) _).drew⟩
          · intro d hd
            rcases List.mem_or_eq_of_mem_set hd with h | h
            · exact hzd d h
            · omega
          · unfold OwnN
            rw [List.map_set]
            exact hst _
        case measure => simp [intOf]; omega
    · have hk1 : ¬ (i : Int) < (n : Int) := by omega
      have hv : val 4294967296 zs = bev bs := by
        rw [hzv.out, show n - i = 0 by omega, List.take_of_length_le (by have := hN.out; omega)]
        simp
      have hr : Row .u32 wr _ zs := Row.of_own (base := w.heap.size) (e := 62) (by rw [hzl.out]; exact ho)
      have ht := rTrimBig _ _ _ hr hzd (by have := hzl.out; omega)
      rw [hv] at ht
      clear xb h4 hv hr
      go_wp2_with fail
      refine ht.mono ?_
      rintro e w' ⟨v', rfl, hb, ho', rfl⟩
      go_wp2
      go_ret
      exact ⟨v', rfl, hb, fun b hb' => by rw [ho'] at hb'; exact (ho.lt b hb').1, hkp⟩

end Go.Proofs.YtldbfcifoijliaaGreatDoor

/- The plain numbers' bits: Bit, BitLen; whether two numbers are alike with their lengths: Same. -/
namespace Go.Proofs.YtldbfcifoijliaaGreatDoor
open Go.RowKit

/-- Bit number i. -/
def bitN (V : Nat) (i : Int) : Nat := if i < 0 then 0 else V / 2 ^ i.toNat % 2

theorem bitN_nat (V j : Nat) : bitN V (j : Int) = V / 2 ^ j % 2 := by
  unfold bitN
  rw [if_neg (by omega), Int.toNat_natCast]

theorem bit_dig (V j : Nat) : dig 4294967296 V (j / 32) / 2 ^ (j % 32) % 2 = V / 2 ^ j % 2 := by
  unfold dig
  have e : (4294967296 : Nat) ^ (j / 32) = 2 ^ (32 * (j / 32)) := by rw [Nat.pow_mul]
  have e3 : (2 : Nat) ^ j = 2 ^ (32 * (j / 32)) * 2 ^ (j % 32) := by rw [← Nat.pow_add]; congr 1; omega
  rw [e, e3, ← Nat.div_div_eq_div_mul]
  generalize V / 2 ^ (32 * (j / 32)) = x
  have e4 : (4294967296 : Nat) = 2 ^ (j % 32) * 2 ^ (32 - j % 32) := by
    rw [← Nat.pow_add, show j % 32 + (32 - j % 32) = 32 by omega]
  rw [e4, Nat.mod_mul_right_div_self]
  have hd : 2 ∣ 2 ^ (32 - j % 32) := ⟨2 ^ (31 - j % 32), by rw [← Nat.pow_succ', show (31 - j % 32).succ = 32 - j % 32 by omega]⟩
  exact Nat.mod_mod_of_dvd _ hd

theorem bit_above {ds : List Nat} (hd : Digs 4294967296 ds) (j : Nat) (h : ds.length ≤ j / 32) : val 4294967296 ds / 2 ^ j % 2 = 0 := by
  have h1 := val_lt (by omega) hd
  have h2 : (4294967296 : Nat) ^ ds.length ≤ 2 ^ j := by
    have e : (4294967296 : Nat) ^ ds.length = 2 ^ (32 * ds.length) := by rw [Nat.pow_mul]
    rw [e]
    exact Nat.pow_le_pow_right (by omega) (by omega)
  rw [Nat.div_eq_of_lt (by omega)]

set_option maxRecDepth 100000 in
set_option maxHeartbeats 400000 in
theorem rBit (v : Value) (V : Nat) (i : Int) (w : World) (h : IsBig w v V) (hi : i ≤ 9223372036854775807) :
    Calls Tryz.prog 58 #[v, .int .i64 i] w fun r w' => r = .returned (.int .u64 (bitN V i : Nat)) ∧ w' = w := by
  obtain ⟨ds, hr, hd, _, rfl, hl⟩ := h
  have hV : ∀ i, ds.getD i 0 = dig 4294967296 (val 4294967296 ds) i := fun i => (dig_val (by omega) hd i).symm
  obtain ⟨ao, n, cap, rfl, hN, _, _, _, h4⟩ := hr.open
  rw [hN.out] at hl
  by_cases hneg : i < 0
  · have e : bitN (val 4294967296 ds) i = 0 := by unfold bitN; rw [if_pos hneg]
    rw [e]
    clear h4 hr hd hV e
    go_enter Tryz.func58, Tryz.ntmps58
    go_wp2
    go_ret
    exact ⟨rfl, rfl⟩
  · obtain ⟨j, rfl⟩ := Int.eq_ofNat_of_zero_le (show 0 ≤ i by omega)
    rw [bitN_nat]
    by_cases hj : j / 32 < n
    · obtain ⟨b, off, rfl, hc⟩ := h4 (j / 32) hj
      have hb := bit_dig (val 4294967296 ds) j
      rw [← hV] at hb
      rw [← hb]
      have hx : ds.getD (j / 32) 0 < 4294967296 := hd.getD (by omega) _
      clear h4 hr hd hV hb
      generalize ds.getD (j / 32) 0 = x at *
      have g1 : (j : Int) / 32 < (n : Int) := by omega
      have g2 : (0 : Int) ≤ (j : Int) / 32 := by omega
      have g3 : ((j : Int) / 32).toNat = j / 32 := by omega
      go_enter Tryz.func58, Tryz.ntmps58
      have hy := Nat.div_le_self x (2 ^ (j % 32))
      have hand : Hid (IntKind.u64.wrap (bits .and .u32 ((x : Int) / 2 ^ (j % 32)) 1) = ((x / 2 ^ (j % 32) % 2 : Nat) : Int)) := by
        unfold Hid
        have e : (x : Int) / 2 ^ (j % 32) = ((x / 2 ^ (j % 32) : Nat) : Int) := by simp
        have h1 := u32_and_nat (x / 2 ^ (j % 32)) 1 (by omega) (by omega)
        rw [nat_mask1] at h1
        rw [e, show (1 : Int) = ((1 : Nat) : Int) from rfl, h1, IntKind.wrap_u64]
        omega
      clear hy
      generalize x / 2 ^ (j % 32) % 2 = R at *
      go_wp2
      go_ret
      refine ⟨?_, rfl⟩
      show Ending.returned (Value.int .u64 (IntKind.u64.wrap (bits .and .u32 ((x : Int) / 2 ^ (j % 32)) 1))) = _
      rw [hand.out]
    · have g1 : ¬ (j : Int) / 32 < (n : Int) := by omega
      rw [bit_above hd j (by have := hN.out; omega)]
      clear h4 hr hd hV
      go_enter Tryz.func58, Tryz.ntmps58
      go_wp2
      go_ret
      exact ⟨rfl, rfl⟩

/-- How many bits a number has. -/
def blen (V : Nat) : Nat := if V = 0 then 0 else Nat.log2 V + 1

theorem blen_le (V n : Nat) : blen V ≤ n ↔ V < 2 ^ n := by
  unfold blen
  by_cases h : V = 0
  · subst h; simp [Nat.pow_pos]
  · rw [if_neg h]
    have := Nat.log2_lt (n := V) (k := n) h
    omega

theorem blen_zero {V k : Nat} (h : V < 2 ^ (k + 1)) (hb : V / 2 ^ k % 2 = 0) : V < 2 ^ k := by
  have h1 : V / 2 ^ k < 2 := by rw [Nat.div_lt_iff_lt_mul (Nat.pow_pos (by omega))]; rw [Nat.pow_succ] at h; omega
  have h2 : V / 2 ^ k = 0 := by
    generalize V / 2 ^ k = q at *
    omega
  rcases Nat.lt_or_ge V (2 ^ k) with h3 | h3
  · exact h3
  · have := (Nat.div_pos_iff).2 ⟨Nat.pow_pos (n := k) (show 0 < 2 by omega), h3⟩
    omega

theorem blen_one {V k : Nat} (h : V < 2 ^ (k + 1)) (hb : V / 2 ^ k % 2 ≠ 0) : blen V = k + 1 := by
  have h1 := (blen_le V (k + 1)).2 h
  have h2 : ¬ blen V ≤ k := fun hk => by
    have := (blen_le V k).1 hk
    rw [Nat.div_eq_of_lt this] at hb
    exact hb rfl
  omega

set_option maxRecDepth 100000 in
set_option maxHeartbeats 400000 in
theorem rBitLen (v : Value) (V : Nat) (w : World) (h : IsBig w v V) :
    Calls Tryz.prog 37 #[v] w fun r w' => r = .returned (.int .i64 (blen V : Nat)) ∧ w' = w := by
  have HB := fun j (hj : j ≤ 100000000000) => rBit v V ((j : Nat) : Int) w h (by omega)
  obtain ⟨ds, hr, hd, _, rfl, hl⟩ := h
  have hlt := val_lt (by omega) hd
  obtain ⟨ao, n, cap, rfl, hN, _, _, _, _⟩ := hr.open
  rw [hN.out] at hl hlt
  have hlt' : Hid (val 4294967296 ds < 2 ^ (32 * n)) := by unfold Hid; rw [Nat.pow_mul]; exact hlt
  clear hr hlt hd
  generalize val 4294967296 ds = V at *
  go_enter Tryz.func37, Tryz.ntmps37
  go_wp2_with fail
  go_loop [3] (fun i => ∃ k : Nat, k ≤ 32 * n ∧ i = .int .i64 k ∧ Hid (V < 2 ^ k)) (fun i => (intOf i).toNat)
  case atStart => exact ⟨32 * n, Nat.le_refl _, by go_num, hlt'⟩
  case round =>
    obtain ⟨k, hk, rfl, hV⟩ := hrel
    cases k with
    | zero =>
      have e : Hid (blen V = 0) := by
        have := hV.out
        have h0 : V = 0 := by simpa using this
        unfold Hid; rw [h0]; rfl
      clear HB
      go_wp2
      go_ret
      rw [e.out]
      exact ⟨rfl, rfl⟩
    | succ j =>
      have hB := HB j (by omega)
      rw [bitN_nat] at hB
      clear HB
      by_cases hb : V / 2 ^ j % 2 = 0
      · have hz : Hid (V < 2 ^ j) := blen_zero hV.out hb
        rw [hb] at hB
        clear hb hV hlt'
        go_wp2_with fail
        refine hB.mono ?_
        rintro e w' ⟨rfl, rfl⟩
        go_wp2
        go_round
        case rel => exact ⟨j, by omega, by go_num, hz⟩
        case measure => simp [intOf]
      · have hz : Hid (blen V = j + 1) := blen_one hV.out hb
        have h1 : V / 2 ^ j % 2 = 1 := by omega
        rw [h1] at hB
        clear hb hV hlt' h1
        go_wp2_with fail
        refine hB.mono ?_
        rintro e w' ⟨rfl, rfl⟩
        go_wp2
        go_ret
        rw [hz.out]
        exact ⟨rfl, rfl⟩

end Go.Proofs.YtldbfcifoijliaaGreatDoor

/- The plain answers of layer 3: OfBytes, Resize, Word, Bytes. -/
namespace Go.Proofs.YtldbfcifoijliaaGreatDoor
open Go.RowKit

/-- The error's number, where a number is put into n words. -/
def resCode (V : Nat) (n : Int) : Int := if 300 < n then 2 else if n < 0 ∨ n.toNat < wordsN V then 1 else 0

/-- The words then. -/
def resList (V : Nat) (n : Int) : List Nat := if resCode V n = 0 then digs 18446744073709551616 V n.toNat else []

theorem res_long {V : Nat} {n : Int} (h : 300 < n) : resCode V n = 2 ∧ resList V n = [] := by
  have e : resCode V n = 2 := if_pos h
  exact ⟨e, by unfold resList; rw [if_neg (by rw [e]; decide)]⟩

theorem res_range {V : Nat} {n : Int} (h : ¬ 300 < n) (h2 : n < 0 ∨ n.toNat < wordsN V) : resCode V n = 1 ∧ resList V n = [] := by
  have e : resCode V n = 1 := by unfold resCode; rw [if_neg h, if_pos h2]
  exact ⟨e, by unfold resList; rw [if_neg (by rw [e]; decide)]⟩

theorem res_ok {V n : Nat} (h : n ≤ 300) (h2 : wordsN V ≤ n) : resCode V (n : Int) = 0 ∧ resList V (n : Int) = digs 18446744073709551616 V n := by
  have e : resCode V (n : Int) = 0 := by unfold resCode; rw [if_neg (by omega), if_neg (by simp; omega)]
  exact ⟨e, by unfold resList; rw [if_pos e, Int.toNat_natCast]⟩

/-- How many words a word is put into. -/
def clampN (n : Int) : Nat := (min (max n 1) 300).toNat

/-- The error's number, where a number of so many words is put into bytes. -/
def bytCode (V len : Nat) (n : Int) : Int := if 2400 < n ∨ 300 < len then 2 else if n < 0 ∨ n.toNat < (blen V + 7) / 8 then 1 else 0

def bytList (V len : Nat) (n : Int) : List Nat := if bytCode V len n = 0 then bes V n.toNat n.toNat else []

theorem byt_long {V len : Nat} {n : Int} (h : 2400 < n ∨ 300 < len) : bytCode V len n = 2 ∧ bytList V len n = [] := by
  have e : bytCode V len n = 2 := if_pos h
  exact ⟨e, by unfold bytList; rw [if_neg (by rw [e]; decide)]⟩

theorem byt_range {V len : Nat} {n : Int} (h : ¬ (2400 < n ∨ 300 < len)) (h2 : n < 0 ∨ n.toNat < (blen V + 7) / 8) : bytCode V len n = 1 ∧ bytList V len n = [] := by
  have e : bytCode V len n = 1 := by unfold bytCode; rw [if_neg h, if_pos h2]
  exact ⟨e, by unfold bytList; rw [if_neg (by rw [e]; decide)]⟩

theorem byt_ok {V len n : Nat} (h : n ≤ 2400) (hl : len ≤ 300) (h2 : (blen V + 7) / 8 ≤ n) : bytCode V len (n : Int) = 0 ∧ bytList V len (n : Int) = bes V n n := by
  have e : bytCode V len (n : Int) = 0 := by unfold bytCode; rw [if_neg (by omega), if_neg (by simp; omega)]
  exact ⟨e, by unfold bytList; rw [if_pos e, Int.toNat_natCast]⟩

theorem blen_bd {w : World} {v : Value} {V : Nat} (h : IsBig w v V) : blen V ≤ 32000000000 := by
  obtain ⟨ds, _, hd, _, rfl, hl⟩ := h
  have h1 := val_lt (by omega) hd
  have e : (4294967296 : Nat) ^ ds.length = 2 ^ (32 * ds.length) := by rw [Nat.pow_mul]
  rw [e] at h1
  have := (blen_le _ _).2 h1
  omega

end Go.Proofs.YtldbfcifoijliaaGreatDoor

