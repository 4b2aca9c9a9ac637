/- Put together of: Base3 BigM Key1 Bev1. -/
import Derived.Test.YtcjaafmlflonhaaDoorPk4
import Derived.BigRegion

/- Melted of: BigBytes BigBit RefNat. -/

/- The plain numbers in bytes: ToBytes, FromBytes. -/
namespace Go.Proofs.YtcjaafmlflonhaaDoor
open Go.RowKit

/-- The number of bytes, the highest ahead. -/
def bev (l : List Nat) : Nat := l.foldl (fun a b => a * 256 + b) 0

theorem bev_snoc (l : List Nat) (b : Nat) : bev (l ++ [b]) = bev l * 256 + b := by simp [bev]

theorem bev_take_succ {l : List Nat} {i : Nat} (h : i < l.length) : bev (l.take (i + 1)) = bev (l.take i) * 256 + l.getD i 0 := by
  rw [List.take_succ_eq_append_getElem h, bev_snoc, List.getD_eq_getElem?_getD, List.getElem?_eq_getElem h]
  rfl

theorem val_set {B : Nat} : ∀ {l : List Nat} {i d : Nat}, i < l.length → val B (l.set i (l.getD i 0 + d)) = val B l + B ^ i * d
  | x :: r, 0, d, _ => by simp [val]; omega
  | x :: r, i + 1, d, h => by
    have ih := val_set (B := B) (l := r) (i := i) (d := d) (by simpa using h)
    simp only [List.set_cons_succ, val, List.getD_cons_succ, ih, Nat.mul_add, Nat.pow_succ]
    rw [Nat.mul_comm (B ^ i) B, Nat.mul_assoc]
    omega

/-- The bytes that came so far end in the digit where the next belongs. -/
theorem from_digit (T k : Nat) : dig 4294967296 (T * 256 ^ (k + 1)) (k / 4) = T * 256 ^ (k % 4 + 1) % 4294967296 := by
  unfold dig
  have e : (256 : Nat) ^ (k + 1) = 256 ^ (k % 4 + 1) * 4294967296 ^ (k / 4) := by
    rw [show (4294967296 : Nat) ^ (k / 4) = 256 ^ (4 * (k / 4)) from by rw [Nat.pow_mul], ← Nat.pow_add]
    congr 1; omega
  rw [e, ← Nat.mul_assoc, Nat.mul_div_cancel _ (Nat.pow_pos (by omega))]

theorem from_or (T k b : Nat) (hb : b < 256) : bits .or .u32 ((T * 256 ^ (k % 4 + 1) % 4294967296 : Nat) : Int) (IntKind.u32.wrap ((b : Int) * 2 ^ (k % 4 * 8))) = ((T * 256 ^ (k % 4 + 1) % 4294967296 + b * 256 ^ (k % 4) : Nat) : Int) ∧
    T * 256 ^ (k % 4 + 1) % 4294967296 + b * 256 ^ (k % 4) < 4294967296 := by
  have h : k % 4 = 0 ∨ k % 4 = 1 ∨ k % 4 = 2 ∨ k % 4 = 3 := by omega
  have key : ∀ (r : Nat) (x y : Nat), x % 2 ^ r = 0 → y < 2 ^ r → x + y < 4294967296 → bits .or .u32 (x : Int) (y : Int) = ((x + y : Nat) : Int) := fun r x y h1 h2 h3 => by
    rw [u32_or_nat x y (by omega) (by omega), nat_join r x y h1 h2]
  rcases h with h | h | h | h <;> rw [h] <;> simp only [Nat.zero_add, Nat.reduceAdd, Nat.reducePow, Nat.reduceMul, Nat.zero_mul, Int.reducePow, Nat.pow_zero, Nat.pow_one, Nat.mul_one, Int.mul_one, Int.pow_zero]
  · refine ⟨?_, by omega⟩
    rw [IntKind.wrap_u32', show (b : Int) % 4294967296 = (b : Int) by omega]
    exact key 8 _ _ (by omega) (by omega) (by omega)
  · refine ⟨?_, by omega⟩
    rw [IntKind.wrap_u32', show (b : Int) * 256 % 4294967296 = ((b * 256 : Nat) : Int) by omega]
    exact key 16 _ _ (by omega) (by omega) (by omega)
  · refine ⟨?_, by omega⟩
    rw [IntKind.wrap_u32', show (b : Int) * 65536 % 4294967296 = ((b * 65536 : Nat) : Int) by omega]
    exact key 24 _ _ (by omega) (by omega) (by omega)
  · refine ⟨?_, by omega⟩
    rw [IntKind.wrap_u32', show (b : Int) * 16777216 % 4294967296 = ((b * 16777216 : Nat) : Int) by omega]
    exact key 32 _ _ (by omega) (by omega) (by omega)

/-- The next byte. -/
theorem from_step {zs : List Nat} {T k b n i : Nat} (hk : n = i + 1 + k) (hd : Digs 4294967296 zs) (hl : k / 4 < zs.length) (hv : val 4294967296 zs = T * 256 ^ (n - i)) :
    zs.getD (k / 4) 0 = T * 256 ^ (k % 4 + 1) % 4294967296 ∧ val 4294967296 (zs.set (k / 4) (zs.getD (k / 4) 0 + b * 256 ^ (k % 4))) = (T * 256 + b) * 256 ^ (n - (i + 1)) := by
  have e1 : n - i = k + 1 := by omega
  have e2 : n - (i + 1) = k := by omega
  rw [e1] at hv
  refine ⟨by rw [← dig_val (by omega) hd, hv, from_digit], ?_⟩
  rw [val_set hl, hv, e2, Nat.add_mul, Nat.pow_succ]
  have e3 : 4294967296 ^ (k / 4) * (b * 256 ^ (k % 4)) = b * 256 ^ k := by
    rw [show (4294967296 : Nat) ^ (k / 4) = 256 ^ (4 * (k / 4)) from by rw [Nat.pow_mul], Nat.mul_left_comm, ← Nat.pow_add]
    congr 2; omega
  rw [e3, Nat.mul_assoc, Nat.mul_comm 256]

set_option maxRecDepth 100000 in
set_option maxHeartbeats 800000 in
theorem rFromBytes (v : Value) (bs : List Nat) (w : World) (h : Row .u8 w v bs) (hd : Digs 256 bs) (hl : bs.length ≤ 100000000) :
    Calls Tryd.prog 15 #[v] w fun r w' => ∃ v', r = .returned v' ∧ IsBig w' v' (bev bs) ∧ (∀ b, v'.ownBlock = some b → w.heap.size ≤ b) ∧ Kept Nought w w' := by
  obtain ⟨i0, hi0, hz0, hz1, hz2⟩ := info_parts Tryd.info62
  obtain ⟨ao, n, cap, rfl, hN, _, _, _, h4⟩ := h.open
  rw [hN.out] at hl
  have xb := fun i => hd.getD (by omega) i
  clear h hd
  obtain ⟨m, hm⟩ : ∃ m, m = (n + 3) / 4 := ⟨_, rfl⟩
  have hm' : ((n : Int) + 3) / 4 = (m : Int) := by omega
  have hmn : 4 * m ≥ n := by omega
  have hmb : m ≤ 100000000 := by omega
  clear hm
  go_enter Tryd.func15, Tryd.ntmps15
  go_wp2_with (at_make; refine wpList_make_full _ rfl _ _ 39 rfl w.heap.size 62 i0 _ 1 Tryd.underlying39 hi0 hz0 hz1 _ _ _ _ m rfl rfl (by first | rfl | omega) (by first | rfl | omega) (by rw [hz2]; omega) (by unfold maxLen; omega) (Nat.le_refl _) ?_; intro w1 ho1 hg1)
  rw [zeros_map] at ho1
  have k1 := grown_kept hg1
  go_loopw [13] (fun i wr => ∃ (k : Nat) (zs : List Nat), k ≤ n ∧ i = .int .i64 k ∧ Hid (zs.length = m) ∧ Digs 4294967296 zs ∧ Hid (val 4294967296 zs = bev (bs.take k) * 256 ^ (n - k)) ∧ OwnN .u32 62 wr w.heap.size (.slice (some ⟨w.heap.size, 0, none⟩) m m) m zs ∧ Kept Nought w wr) (fun i _ => n - (intOf i).toNat)
  case atStart => exact ⟨0, List.replicate m 0, Nat.zero_le _, rfl, List.length_replicate, (fun d hd => by simp at hd; omega), by unfold Hid; rw [val_zeros _ (fun d hd => by simp at hd; exact hd.2)]; simp [bev], ho1, k1⟩
  case round =>
    clear ho1 hg1 k1
    obtain ⟨i, zs, hk, rfl, hzl, hzd, hzv, ho, hkp⟩ := hrel
    by_cases hkn : i < n
    · have hk1 : (i : Int) < (n : Int) := by omega
      obtain ⟨b, off, rfl, hcell⟩ := (h4 i hkn).grew hkp
      have hbx := xb i
      have HT : Hid (bev (bs.take (i + 1)) = bev (bs.take i) * 256 + bs.getD i 0) := bev_take_succ (by have := hN.out; omega)
      clear xb h4
      generalize bs.getD i 0 = y at *
      obtain ⟨j, hj⟩ : ∃ j, j = n - 1 - i := ⟨_, rfl⟩
      have hJ : (n : Int) - 1 - (i : Int) = (j : Int) := by omega
      have hj4 : j / 4 < m := by omega
      obtain ⟨f1, f2⟩ := from_step (b := y) (show n = i + 1 + j by omega) hzd (by have := hzl.out; omega) hzv.out
      rw [← HT.out] at f2
      obtain ⟨o1, o2⟩ := from_or (bev (bs.take i)) j y hbx
      rw [← f1] at o1 o2
      have hc : wr.cell? ⟨w.heap.size, j / 4, none⟩ = some (.int .u32 ((zs.getD (j / 4) 0 : Nat) : Int)) := by
        rw [World.ownsRow.cellAt ho (j / 4) (by omega), List.getElem?_map, List.getD_eq_getElem?_getD, List.getElem?_eq_getElem (by have := hzl.out; omega)]
        rfl
      have hf := World.ownsRow.frozenAt ho (j / 4)
      have hst := fun u => (World.ownsRow.stored ho (j / 4) u).1
      have F2 : Hid (val 4294967296 (zs.set (j / 4) (zs.getD (j / 4) 0 + y * 256 ^ (j % 4))) = bev (bs.take (i + 1)) * 256 ^ (n - (i + 1))) := f2
      have hjb : j ≤ 1000000000 := by omega
      clear f1 f2 hj HT hzv
      generalize zs.getD (j / 4) 0 = z at *
      generalize z + y * 256 ^ (j % 4) = Z at *
      rw [IntKind.wrap_u32'] at o1
      have O1 : Hid (bits .or .u32 (z : Int) ((y : Int) * 2 ^ (j % 4 * 8) % 4294967296) = (Z : Int)) := o1
      clear o1
      have j1 : (0 : Int) ≤ (j : Int) / 4 := by omega
      have j2 : (j : Int) / 4 < (m : Int) := by omega
      have j3 : ((j : Int) / 4).toNat = j / 4 := by omega
      go_wp2_with fail
      go_region
      all_goals
        go_wp2
        rw [O1.out]
        go_roundw
        case rel =>
          refine ⟨i + 1, zs.set (j / 4) Z, by omega, by go_num, by unfold Hid; rw [List.length_set]; exact hzl.out, ?_, F2, ?_, (hkp.setCell _ (fun h => by simp at h) _).drew⟩
          · intro d hd
            rcases List.mem_or_eq_of_mem_set hd with h | h
            · exact hzd d h
            · omega
          · unfold OwnN
            rw [List.map_set]
            exact hst _
        case measure => simp [intOf]; omega
    · have hk1 : ¬ (i : Int) < (n : Int) := by omega
      have hv : val 4294967296 zs = bev bs := by
        rw [hzv.out, show n - i = 0 by omega, List.take_of_length_le (by have := hN.out; omega)]
        simp
      have hr : Row .u32 wr _ zs := Row.of_own (base := w.heap.size) (e := 62) (by rw [hzl.out]; exact ho)
      have ht := rTrimBig _ _ _ hr hzd (by have := hzl.out; omega)
      rw [hv] at ht
      clear xb h4 hv hr
      go_wp2_with fail
      refine ht.mono ?_
      rintro e w' ⟨v', rfl, hb, ho', rfl⟩
      go_wp2
      go_ret
      exact ⟨v', rfl, hb, fun b hb' => by rw [ho'] at hb'; exact (ho.lt b hb').1, hkp⟩

end Go.Proofs.YtcjaafmlflonhaaDoor

/- The plain numbers' bits: Bit, BitLen; whether two numbers are alike with their lengths: Same. -/
namespace Go.Proofs.YtcjaafmlflonhaaDoor
open Go.RowKit

/-- Bit number i. -/
def bitN (V : Nat) (i : Int) : Nat := if i < 0 then 0 else V / 2 ^ i.toNat % 2

theorem bitN_nat (V j : Nat) : bitN V (j : Int) = V / 2 ^ j % 2 := by
  unfold bitN
  rw [if_neg (by omega), Int.toNat_natCast]

theorem bit_dig (V j : Nat) : dig 4294967296 V (j / 32) / 2 ^ (j % 32) % 2 = V / 2 ^ j % 2 := by
  unfold dig
  have e : (4294967296 : Nat) ^ (j / 32) = 2 ^ (32 * (j / 32)) := by rw [Nat.pow_mul]
  have e3 : (2 : Nat) ^ j = 2 ^ (32 * (j / 32)) * 2 ^ (j % 32) := by rw [← Nat.pow_add]; congr 1; omega
  rw [e, e3, ← Nat.div_div_eq_div_mul]
  generalize V / 2 ^ (32 * (j / 32)) = x
  have e4 : (4294967296 : Nat) = 2 ^ (j % 32) * 2 ^ (32 - j % 32) := by
    rw [← Nat.pow_add, show j % 32 + (32 - j % 32) = 32 by omega]
  rw [e4, Nat.mod_mul_right_div_self]
  have hd : 2 ∣ 2 ^ (32 - j % 32) := ⟨2 ^ (31 - j % 32), by rw [← Nat.pow_succ', show (31 - j % 32).succ = 32 - j % 32 by omega]⟩
  exact Nat.mod_mod_of_dvd _ hd

theorem bit_above {ds : List Nat} (hd : Digs 4294967296 ds) (j : Nat) (h : ds.length ≤ j / 32) : val 4294967296 ds / 2 ^ j % 2 = 0 := by
  have h1 := val_lt (by omega) hd
  have h2 : (4294967296 : Nat) ^ ds.length ≤ 2 ^ j := by
    have e : (4294967296 : Nat) ^ ds.length = 2 ^ (32 * ds.length) := by rw [Nat.pow_mul]
    rw [e]
    exact Nat.pow_le_pow_right (by omega) (by omega)
  rw [Nat.div_eq_of_lt (by omega)]

set_option maxRecDepth 100000 in
set_option maxHeartbeats 400000 in
theorem rBit (v : Value) (V : Nat) (i : Int) (w : World) (h : IsBig w v V) (hi : i ≤ 9223372036854775807) :
    Calls Tryd.prog 18 #[v, .int .i64 i] w fun r w' => r = .returned (.int .u64 (bitN V i : Nat)) ∧ w' = w := by
  obtain ⟨ds, hr, hd, _, rfl, hl⟩ := h
  have hV : ∀ i, ds.getD i 0 = dig 4294967296 (val 4294967296 ds) i := fun i => (dig_val (by omega) hd i).symm
  obtain ⟨ao, n, cap, rfl, hN, _, _, _, h4⟩ := hr.open
  rw [hN.out] at hl
  by_cases hneg : i < 0
  · have e : bitN (val 4294967296 ds) i = 0 := by unfold bitN; rw [if_pos hneg]
    rw [e]
    clear h4 hr hd hV e
    go_enter Tryd.func18, Tryd.ntmps18
    go_wp2
    go_ret
    exact ⟨rfl, rfl⟩
  · obtain ⟨j, rfl⟩ := Int.eq_ofNat_of_zero_le (show 0 ≤ i by omega)
    rw [bitN_nat]
    by_cases hj : j / 32 < n
    · obtain ⟨b, off, rfl, hc⟩ := h4 (j / 32) hj
      have hb := bit_dig (val 4294967296 ds) j
      rw [← hV] at hb
      rw [← hb]
      have hx : ds.getD (j / 32) 0 < 4294967296 := hd.getD (by omega) _
      clear h4 hr hd hV hb
      generalize ds.getD (j / 32) 0 = x at *
      have g1 : (j : Int) / 32 < (n : Int) := by omega
      have g2 : (0 : Int) ≤ (j : Int) / 32 := by omega
      have g3 : ((j : Int) / 32).toNat = j / 32 := by omega
      go_enter Tryd.func18, Tryd.ntmps18
      have hy := Nat.div_le_self x (2 ^ (j % 32))
      have hand : Hid (IntKind.u64.wrap (bits .and .u32 ((x : Int) / 2 ^ (j % 32)) 1) = ((x / 2 ^ (j % 32) % 2 : Nat) : Int)) := by
        unfold Hid
        have e : (x : Int) / 2 ^ (j % 32) = ((x / 2 ^ (j % 32) : Nat) : Int) := by simp
        have h1 := u32_and_nat (x / 2 ^ (j % 32)) 1 (by omega) (by omega)
        rw [nat_mask1] at h1
        rw [e, show (1 : Int) = ((1 : Nat) : Int) from rfl, h1, IntKind.wrap_u64]
        omega
      clear hy
      generalize x / 2 ^ (j % 32) % 2 = R at *
      go_wp2
      go_ret
      refine ⟨?_, rfl⟩
      show Ending.returned (Value.int .u64 (IntKind.u64.wrap (bits .and .u32 ((x : Int) / 2 ^ (j % 32)) 1))) = _
      rw [hand.out]
    · have g1 : ¬ (j : Int) / 32 < (n : Int) := by omega
      rw [bit_above hd j (by have := hN.out; omega)]
      clear h4 hr hd hV
      go_enter Tryd.func18, Tryd.ntmps18
      go_wp2
      go_ret
      exact ⟨rfl, rfl⟩

/-- How many bits a number has. -/
def blen (V : Nat) : Nat := if V = 0 then 0 else Nat.log2 V + 1

theorem blen_le (V n : Nat) : blen V ≤ n ↔ V < 2 ^ n := by
  unfold blen
  by_cases h : V = 0
  · subst h; simp [Nat.pow_pos]
  · rw [if_neg h]
    have := Nat.log2_lt (n := V) (k := n) h
    omega

theorem eq_take_succ {a b : List Nat} {k : Nat} (ha : k < a.length) (hb : k < b.length) (h : a.take k = b.take k) (he : a.getD k 0 = b.getD k 0) : a.take (k + 1) = b.take (k + 1) := by
  rw [List.take_succ_eq_append_getElem ha, List.take_succ_eq_append_getElem hb, h]
  rw [List.getD_eq_getElem?_getD, List.getD_eq_getElem?_getD, List.getElem?_eq_getElem ha, List.getElem?_eq_getElem hb] at he
  simp only [Option.getD_some] at he
  rw [he]

set_option maxHeartbeats 400000 in
theorem rSame (u v : Value) (a b : List Nat) (w : World) (hu : Row .u64 w u a) (hv : Row .u64 w v b) :
    Calls Tryd.prog 8 #[u, v] w fun r w' => r = .returned (.bool (decide (a = b))) ∧ ∃ n, w' = w.drewN n := by
  obtain ⟨ao, n, ac, rfl, hN, h1, h2, _, hA⟩ := hu.open
  obtain ⟨bo, m, bc, rfl, hM, h1', h2', _, hB⟩ := hv.open
  clear hu hv
  by_cases hl : n = m
  · subst hl
    go_enter Tryd.func8, Tryd.ntmps8
    go_wp2_with fail
    go_loopw [5, 13] (fun _ i wr => ∃ k : Nat, k ≤ n ∧ i = .int .i64 k ∧ Hid (a.take k = b.take k) ∧ ∃ m, wr = w.drewN m) (fun _ i _ => n - (intOf i).toNat)
    case atStart => exact ⟨0, Nat.zero_le _, rfl, rfl, 0, rfl⟩
    case round =>
      obtain ⟨k, hk, rfl, ht, m, rfl⟩ := hrel
      by_cases hlt : k < n
      · obtain ⟨ga, oa, rfl, ca⟩ := hA k hlt
        obtain ⟨gb, ob, rfl, cb⟩ := hB k hlt
        have hst : Hid (a.getD k 0 = b.getD k 0 → a.take (k + 1) = b.take (k + 1)) := fun h => eq_take_succ (by have := hN.out; omega) (by have := hM.out; omega) ht.out h
        have hne : Hid (a.getD k 0 ≠ b.getD k 0 → decide (a = b) = false) := fun h => by
          simp only [decide_eq_false_iff_not]
          intro e; subst e; exact h rfl
        clear hA hB ht
        generalize a.getD k 0 = x at *
        generalize b.getD k 0 = y at *
        have hk0 : (0 : Int) ≤ (k : Int) := Int.natCast_nonneg _
        have hk1 : (k : Int) < (n : Int) := by omega
        by_cases he : x = y
        · subst he
          have hq : ((x : Int) == (x : Int)) = true := by simp
          go_wp2_with fail
          go_quiet (fail)
          go_wp2
          go_roundw
          case rel => exact ⟨k + 1, by omega, by go_num, hst.out (by first | rfl | trivial), _, rfl⟩
          case measure => simp [intOf]; omega
        · have hq : ((x : Int) == (y : Int)) = false := by simp; omega
          have hq2 : ((x : Int) != (y : Int)) = true := by simp; omega
          have hr : Hid (decide (a = b) = false) := hne.out he
          go_wp2_with fail
          go_quiet (fail)
          go_wp2
          go_ret
          rw [hr.out]
          exact ⟨rfl, _, World.drewN_drewN _ _ _⟩
      · have hr : Hid (decide (a = b) = true) := by
          have := ht.out
          have e1 := hN.out
          have e2 := hM.out
          rw [List.take_of_length_le (by omega), List.take_of_length_le (by omega)] at this
          unfold Hid; simpa using this
        clear hA hB ht
        have hk1 : ¬ (k : Int) < (n : Int) := by omega
        go_wp2
        go_ret
        rw [hr.out]
        exact ⟨rfl, _, rfl⟩
  · have hr : decide (a = b) = false := by
      simp only [decide_eq_false_iff_not]
      intro e; subst e; exact hl (hN.out.symm.trans hM.out)
    rw [hr]
    have hl' : ¬ (n : Int) = (m : Int) := by omega
    clear hA hB hr
    go_enter Tryd.func8, Tryd.ntmps8
    go_wp2
    go_ret
    exact ⟨rfl, 0, rfl⟩

end Go.Proofs.YtcjaafmlflonhaaDoor

/- The plain answers of layer 3: OfBytes, Resize, Word, Bytes. -/
namespace Go.Proofs.YtcjaafmlflonhaaDoor
open Go.RowKit

/-- The error's number, where a number is put into n words. -/
def resCode (V : Nat) (n : Int) : Int := if 300 < n then 2 else if n < 0 ∨ n.toNat < wordsN V then 1 else 0

/-- The words then. -/
def resList (V : Nat) (n : Int) : List Nat := if resCode V n = 0 then digs 18446744073709551616 V n.toNat else []

theorem res_long {V : Nat} {n : Int} (h : 300 < n) : resCode V n = 2 ∧ resList V n = [] := by
  have e : resCode V n = 2 := if_pos h
  exact ⟨e, by unfold resList; rw [if_neg (by rw [e]; decide)]⟩

theorem res_range {V : Nat} {n : Int} (h : ¬ 300 < n) (h2 : n < 0 ∨ n.toNat < wordsN V) : resCode V n = 1 ∧ resList V n = [] := by
  have e : resCode V n = 1 := by unfold resCode; rw [if_neg h, if_pos h2]
  exact ⟨e, by unfold resList; rw [if_neg (by rw [e]; decide)]⟩

theorem res_ok {V n : Nat} (h : n ≤ 300) (h2 : wordsN V ≤ n) : resCode V (n : Int) = 0 ∧ resList V (n : Int) = digs 18446744073709551616 V n := by
  have e : resCode V (n : Int) = 0 := by unfold resCode; rw [if_neg (by omega), if_neg (by simp; omega)]
  exact ⟨e, by unfold resList; rw [if_pos e, Int.toNat_natCast]⟩

/-- How many words a word is put into. -/
def clampN (n : Int) : Nat := (min (max n 1) 300).toNat

end Go.Proofs.YtcjaafmlflonhaaDoor


/- Melted of: BigMod BigGcd BigExp BigInv. -/

/- The plain rest, and reckoning with members. -/
namespace Go.Proofs.YtcjaafmlflonhaaDoor
open Go.RowKit

attribute [local go_sem ↓] Go.wp_at_zero Go.wp_at_succ

theorem rMod (u v : Value) (A M : Nat) (w : World) (hu : IsBig w u A) (hv : IsBig w v M) (hM : 0 < M) (hla : dlen A ≤ 10000000) :
    Calls Tryd.prog 14 #[u, v] w fun r w' => ∃ v', r = .returned v' ∧ IsBig w' v' (A % M) ∧ (∀ b, v'.ownBlock = some b → u.ownBlock = some b ∨ w.heap.size ≤ b) ∧ Kept Nought w w' := by
  have hD := rDivMod u v A M w hu hv hM hla
  clear hu hv hM hla
  go_enter Tryd.func14, Tryd.ntmps14
  go_wp2_with fail
  refine hD.mono ?_
  rintro e w1 ⟨v1, v2, rfl, b1, b2, o1, o2, k⟩
  go_wp2
  go_ret
  exact ⟨v2, rfl, b2, o2, k⟩

end Go.Proofs.YtcjaafmlflonhaaDoor

/- The plain greatest divisor. -/
namespace Go.Proofs.YtcjaafmlflonhaaDoor
open Go.RowKit

attribute [local go_sem ↓] Go.wp_at_zero Go.wp_at_succ

theorem Row.inj {k : IntKind} {w : World} {v : Value} {zs ys : List Nat} (h : Row k w v zs) (h' : Row k w v ys) : zs = ys := by
  obtain ⟨ao, cap, e1, _, _, _, h4⟩ := h
  obtain ⟨ao', cap', e2, _, _, _, h4'⟩ := h'
  rw [e1] at e2
  injection e2 with e3 e4 e5
  subst e3
  refine List.ext_getElem e4 ?_
  intro i h1 h2
  obtain ⟨b, off, q1, q2⟩ := h4 i h1
  obtain ⟨b', off', q1', q2'⟩ := h4' i h2
  rw [q1] at q1'
  injection q1' with q3
  injection q3 with q4 q5
  subst q4 q5
  rw [q2] at q2'
  injection q2' with q6
  injection q6 with q7 q8
  have q9 : zs.getD i 0 = ys.getD i 0 := by omega
  rwa [List.getD_eq_getElem?_getD, List.getD_eq_getElem?_getD, List.getElem?_eq_getElem h1, List.getElem?_eq_getElem h2] at q9

theorem IsBig.inj {w : World} {v : Value} {V V' : Nat} (h : IsBig w v V) (h' : IsBig w v V') : V = V' := by
  obtain ⟨ds, h1, _, _, h2, _⟩ := h
  obtain ⟨es, g1, _, _, g2, _⟩ := h'
  rw [← h2, ← g2, h1.inj g1]

/-- The number that a cell holds, 0 where it holds none. -/
def cellN (w : World) (a : Addr) : Nat :=
  match w.cell? a with
  | some (.int _ z) => z.toNat
  | _ => 0

/-- The number that a slice is, 0 where it is none. -/
def bigOf (w : World) : Value → Nat
  | .slice (some a) n _ => val 4294967296 ((List.range n).map fun i => cellN w ⟨a.block, a.off + i, none⟩)
  | _ => 0

theorem IsBig.of {w : World} {v : Value} {V : Nat} (h : IsBig w v V) : bigOf w v = V := by
  obtain ⟨ds, h1, _, _, rfl, _⟩ := h
  obtain ⟨ao, cap, rfl, _, _, _, hc⟩ := h1
  cases ao with
  | none =>
    have : ds = [] := by
      rcases ds with _ | ⟨d, r⟩
      · rfl
      · obtain ⟨b, off, e, _⟩ := hc 0 (by simp)
        cases e
    subst this
    rfl
  | some a =>
    show val 4294967296 ((List.range ds.length).map fun i => cellN w ⟨a.block, a.off + i, none⟩) = _
    congr 1
    refine List.ext_getElem (by simp) (fun i h1 h2 => ?_)
    obtain ⟨b, off, e, hcell⟩ := hc i h2
    cases e
    rw [List.getElem_map, List.getElem_range]
    unfold cellN
    rw [hcell, List.getD_eq_getElem?_getD, List.getElem?_eq_getElem h2]
    simp

/-- A number as a slice: its length is 0 or above it, as the number is. -/
theorem IsBig.length {w : World} {v : Value} {V : Nat} (h : IsBig w v V) : ∃ ao n cap, v = .slice ao n cap ∧ Hid (n = dlen V) ∧ n ≤ 1000000000 := by
  obtain ⟨ds, h1, h2, h3, h4, h5⟩ := h
  obtain ⟨ao, n, cap, e, hN, _⟩ := h1.open
  refine ⟨ao, n, cap, e, ?_, by rw [← hN.out]; exact h5⟩
  have := len_dlen h2 h3
  rw [h4] at this
  unfold Hid
  rw [← this, hN.out]

theorem dlen_pos {A : Nat} (h : 0 < A) : 0 < dlen A := by
  rcases Nat.eq_zero_or_pos (dlen A) with h0 | h0
  · have := (dlen_le A 0).1 (by omega)
    rw [Nat.pow_zero] at this
    omega
  · exact h0

set_option maxHeartbeats 400000 in
theorem rGcd (u v : Value) (A B : Nat) (w : World) (hu : IsBig w u A) (hv : IsBig w v B) (hla : dlen A ≤ 10000000) (hlb : dlen B ≤ 10000000) :
    Calls Tryd.prog 30 #[u, v] w fun r w' => ∃ v', r = .returned v' ∧ IsBig w' v' (Nat.gcd A B) ∧ (∀ b, v'.ownBlock = some b → u.ownBlock = some b ∨ v.ownBlock = some b ∨ w.heap.size ≤ b) ∧ Kept Nought w w' := by
  go_enter Tryd.func30, Tryd.ntmps30
  go_wp2_with fail
  go_loopw [0, 1] (fun a b wr => ∃ (C D : Nat), IsBig wr a C ∧ IsBig wr b D ∧ Hid (Nat.gcd C D = Nat.gcd A B) ∧ Hid (dlen C ≤ 10000000) ∧ Hid (dlen D ≤ 10000000) ∧ Hid (∀ x, a.ownBlock = some x → u.ownBlock = some x ∨ v.ownBlock = some x ∨ w.heap.size ≤ x) ∧ Hid (∀ x, b.ownBlock = some x → u.ownBlock = some x ∨ v.ownBlock = some x ∨ w.heap.size ≤ x) ∧ Kept Nought w wr) (fun _ b wr => bigOf wr b)
  case atStart => exact ⟨A, B, hu, hv, rfl, hla, hlb, fun x h => .inl h, fun x h => .inr (.inl h), Kept.refl _ _⟩
  case round =>
    clear hu hv hla hlb
    obtain ⟨C, D, hc, hd, hg, lc, ld, oc, od, hk⟩ := hrel
    obtain ⟨ao, n, cap, rfl, hn, hn9⟩ := hd.length
    rcases Nat.eq_zero_or_pos D with h0 | h0
    · have hn0 : n = 0 := by rw [hn.out, h0]; rfl
      subst hn0
      have hg2 : Hid (C = Nat.gcd A B) := by have := hg.out; rw [h0, Nat.gcd_zero_right] at this; exact this
      clear hg h0 hn
      go_wp2
      go_ret
      exact ⟨_, rfl, by rw [← hg2.out]; exact hc, oc.out, hk⟩
    · have hn1 : 0 < n := by rw [hn.out]; exact dlen_pos h0
      have hM := rMod _ _ C D wr hc hd h0 lc.out
      have hlt := Nat.mod_lt C h0
      have hof := hd.of
      go_wp2_with fail
      refine hM.mono ?_
      rintro e w1 ⟨v1, rfl, b1, o1, k1⟩
      go_wp2
      go_roundw
      case rel => exact ⟨D, C % D, hd.grew k1, b1, by unfold Hid; rw [← hg.out, Nat.gcd_comm D, ← Nat.gcd_rec, Nat.gcd_comm], ld, Nat.le_trans (dlen_mono (Nat.mod_le _ _)) lc.out, od, fun x hx => (o1 x hx).elim (oc.out x) (fun h => .inr (.inr (Nat.le_trans hk.size h))), hk.trans k1⟩
      case measure => rw [b1.of, hof]; exact hlt

end Go.Proofs.YtcjaafmlflonhaaDoor

/- The plain power. -/
namespace Go.Proofs.YtcjaafmlflonhaaDoor
open Go.RowKit

attribute [local go_sem ↓] Go.wp_at_zero Go.wp_at_succ

end Go.Proofs.YtcjaafmlflonhaaDoor

/- The plain inverse. -/
namespace Go.Proofs.YtcjaafmlflonhaaDoor
open Go.RowKit

attribute [local go_sem ↓] Go.wp_at_zero Go.wp_at_succ

end Go.Proofs.YtcjaafmlflonhaaDoor


/- The plain side of layers 18 and 19 (package sconceref18): one, Size, Good, Common. -/
namespace Go.Proofs.YtcjaafmlflonhaaDoor
open Go.RowKit

theorem r18one (w : World) : Calls Tryd.prog 17 #[] w fun r w' => ∃ v', r = .returned v' ∧ IsBig w' v' 1 ∧ (∀ b, v'.ownBlock = some b → w.heap.size ≤ b) ∧ Kept Nought w w' := by
  have h := rSmall 1 (by omega) w
  go_enter Tryd.func17, Tryd.ntmps17
  go_wp2_with fail
  refine h.mono ?_
  rintro e w1 ⟨v1, rfl, h1, h2, h3⟩
  go_wp2_with fail
  go_ret
  exact ⟨_, rfl, h1, h2, h3⟩

end Go.Proofs.YtcjaafmlflonhaaDoor


/- Bytes as numbers: lengths and bounds. -/
namespace Go.Proofs.YtcjaafmlflonhaaDoor
open Go.RowKit

theorem bev_foldB (m : List Nat) : ∀ a, m.foldl (fun a b => a * 256 + b) a = a * 256 ^ m.length + bev m := by
  unfold bev
  induction m with
  | nil => intro a; simp
  | cons x m ih =>
    intro a
    rw [List.foldl_cons, ih, List.foldl_cons, ih (0 * 256 + x), List.length_cons, Nat.pow_succ]
    simp only [Nat.zero_mul, Nat.zero_add, Nat.add_mul, Nat.mul_assoc, Nat.add_assoc, Nat.mul_comm 256]

theorem bev_appendB (l m : List Nat) : bev (l ++ m) = bev l * 256 ^ m.length + bev m := by
  show (l ++ m).foldl _ 0 = _
  rw [List.foldl_append, bev_foldB]
  rfl

theorem bev_ltB {l : List Nat} (h : Digs 256 l) : bev l < 256 ^ l.length := by
  induction l with
  | nil => simp [bev]
  | cons x m ih =>
    have e := bev_appendB [x] m
    rw [List.singleton_append] at e
    have hx := h.head
    have hm := ih h.tail
    rw [e, List.length_cons, Nat.pow_succ]
    have : (x + 1) * 256 ^ m.length ≤ 256 * 256 ^ m.length := Nat.mul_le_mul_right _ hx
    rw [Nat.add_mul, Nat.one_mul] at this
    have e2 : bev [x] = x := by simp [bev]
    rw [e2, Nat.mul_comm (256 ^ m.length)]
    omega

end Go.Proofs.YtcjaafmlflonhaaDoor

