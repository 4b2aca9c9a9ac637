/- Put together of: Hsh3 Src1 Mgf1 Rnd1. -/
import Derived.Test.YtnhkfdbeacmepaaDoorPk1
import Derived.Test.YtnhkfdbeacmepaaDoorPk4
import Derived.Test.YtnhkfdbeacmepaaDoorPk20
import Derived.RangeFuncWrites
import Derived.RangeFuncNested
import Derived.RangeFuncBound
import Derived.RangeFuncCalls
import Derived.RangeFuncLeaves
import Derived.RangeFuncBox
import Derived.Shelf.Abstract
import Derived.Shelf.RegionOpen
import Derived.OwnWalkIn
import Derived.TacticsInMore
import Derived.LoopNIn
import Derived.LoopIn
import Derived.Deep.RegionHeld3

/- The plain side of layers 13 and 14: Prefix, Mask. -/
namespace Go.Proofs.YtnhkfdbeacmepaaDoor
open Go.RowKit

/-- So many hashes of a seed and a number behind it. -/
def mskL (h : Int) (seed : List Nat) : Nat → List Nat
  | 0 => []
  | i + 1 => mskL h seed i ++ hshN h (seed ++ [i / 16777216 % 256, i / 65536 % 256, i / 256 % 256, i % 256])

theorem mskL_length (h : Int) (seed : List Nat) : ∀ i, (mskL h seed i).length = i * hszN h
  | 0 => by simp [mskL]
  | i + 1 => by unfold mskL; rw [List.length_append, mskL_length h seed i, hshN_length, Nat.succ_mul]

theorem mskL_digs (h : Int) (seed : List Nat) : ∀ i, Digs 256 (mskL h seed i)
  | 0 => Digs.nil _
  | i + 1 => (mskL_digs h seed i).app (hshN_digs _ _)

theorem mskL_more (h : Int) (seed : List Nat) (i : Nat) : ∀ d, ∃ t, mskL h seed (i + d) = mskL h seed i ++ t
  | 0 => ⟨[], by simp⟩
  | d + 1 => by
    obtain ⟨t, ht⟩ := mskL_more h seed i d
    exact ⟨t ++ _, by rw [← Nat.add_assoc]; show mskL h seed (i + d) ++ _ = _; rw [ht, List.append_assoc]⟩

theorem mskL_take (h : Int) (seed : List Nat) {i j n : Nat} (hij : i ≤ j) (hn : n ≤ (mskL h seed i).length) : (mskL h seed j).take n = (mskL h seed i).take n := by
  obtain ⟨t, ht⟩ := mskL_more h seed i (j - i)
  rw [show i + (j - i) = j by omega] at ht
  rw [ht, List.take_append_of_le_length hn]

/-- A mask's error. -/
def mskE (h n : Int) : Nat := if hszN h = 0 then 130 else if n < 0 then 1 else if n > 10000 then 2 else 0

/-- A mask of n bytes. -/
def mskN (h : Int) (seed : List Nat) (n : Nat) : List Nat := (mskL h seed n).take n

theorem mskE_zero {h n : Int} (hE : mskE h n = 0) : hszN h ≠ 0 ∧ 0 ≤ n ∧ n ≤ 10000 := by
  unfold mskE at hE
  by_cases h0 : hszN h = 0
  · rw [if_pos h0] at hE
    omega
  · rw [if_neg h0] at hE
    by_cases h1 : n < 0
    · rw [if_pos h1] at hE
      omega
    · rw [if_neg h1] at hE
      by_cases h2 : n > 10000
      · rw [if_pos h2] at hE
        omega
      · exact ⟨h0, by omega, by omega⟩

theorem hsz_le (h : Int) : hszN h ≤ 64 := by
  rcases hsz_cases h with ⟨_, e⟩ | ⟨_, e⟩ | ⟨_, e⟩ | ⟨_, _, _, e⟩ <;> omega

set_option maxRecDepth 20000 in
set_option maxHeartbeats 1000000 in
/-- Mask. -/
theorem r13Mask (h : Int) (v : Value) (seed : List Nat) (n : Nat) (w : World) (hr : Row .u8 w v seed) (hd : Digs 256 seed) (hl : seed.length ≤ 900000) (hE : mskE h n = 0) :
    Calls Tryd.prog 31 #[.int .i64 h, v, .int .i64 (n : Int)] w fun e w' => ∃ v', e = .returned (.tuple #[v', .int .i64 0]) ∧ OwnB w' w.heap.size v' (mskN h seed n) ∧ Kept Nought w w' := by
  obtain ⟨i0, hi0, hz0, hz1, hz2⟩ := info_parts Tryd.info8s
  obtain ⟨hz, _, hn⟩ := mskE_zero hE
  have J := toHid fun W => r13Size h W
  have HR := toHid hr
  have HD := toHid hd
  have hzb := hsz_le h
  obtain ⟨z, hzz⟩ : ∃ z, z = hszN h := ⟨_, rfl⟩
  rw [← hzz] at J hz hzb
  have HZ := toHid hzz
  have h0' : ((z : Int) == 0) = false := beq_eq_false_iff_ne.2 (by omega)
  have h1 : ¬ (n : Int) < 0 := by omega
  have h2 : ¬ (n : Int) > 10000 := by omega
  have h2' : ¬ (10000 : Int) < (n : Int) := by omega
  have h2n : n ≤ 10000 := by omega
  have h3 : (0 : Int) ≤ (n : Int) := by omega
  obtain ⟨so, sn, sc, rfl, hLs, hsc, hsm, _, _⟩ := hr.open
  clear hr hd hzz hE hn
  go_enter Tryd.func31, Tryd.ntmps31
  go_wp2_with fail
  refine (J.out _).mono ?_
  rintro e w1 ⟨rfl, k1⟩
  have HK1 := toHid k1
  clear J k1
  go_wp2_with fail
  go_loopw [8, 9] (fun out iv wr => ∃ (i L : Nat) (ao : Option Addr) (c : Nat), Hid (L = i * z) ∧ i ≤ L ∧ L ≤ 20000 ∧ iv = .int .i64 (i : Int) ∧ out = .slice ao L c ∧ Hid (OwnB wr w.heap.size (.slice ao L c) (mskL h seed i)) ∧ Hid (Kept Nought w wr)) (fun out _ _ => n - sliceLen out)
  case atStart => exact ⟨0, 0, none, 0, by unfold Hid; simp, Nat.zero_le _, by omega, rfl, rfl, OwnB.nil _ _, HK1.out⟩
  case round =>
    clear HK1
    obtain ⟨i, L, ao, c, HL, hi, hLb, rfl, rfl, HO, HK⟩ := hrel
    by_cases hLn : L < n
    · have g1 : (L : Int) < (n : Int) := by omega
      have g0 : (0 : Int) ≤ (i : Int) := by omega
      have hib : i ≤ 10000 := by omega
      have e0 : (i : Int) / 16777216 % 256 = 0 := by omega
      have e0' : (i : Int) / 16777216 = 0 := by omega
      have e1 : (i : Int) / 65536 % 256 = 0 := by omega
      have e1' : (i : Int) / 65536 = 0 := by omega
      obtain ⟨b2, hb2⟩ : ∃ b, b = i / 256 % 256 := ⟨_, rfl⟩
      obtain ⟨b3, hb3⟩ : ∃ b, b = i % 256 := ⟨_, rfl⟩
      have e2 : (i : Int) / 256 = (b2 : Int) := by omega
      have e3 : (i : Int) % 256 = (b3 : Int) := by omega
      have HN : Hid (mskL h seed (i + 1) = mskL h seed i ++ hshN h (seed ++ [0, 0, b2, b3])) := by
        unfold Hid
        show mskL h seed i ++ hshN h (seed ++ [i / 16777216 % 256, i / 65536 % 256, i / 256 % 256, i % 256]) = _
        rw [show i / 16777216 % 256 = 0 by omega, show i / 65536 % 256 = 0 by omega, ← hb2, ← hb3]
      have HDS : Hid (Digs 256 (seed ++ [0, 0, b2, b3])) := HD.out.app (fun d hd => by
        simp only [List.mem_cons, List.not_mem_nil, or_false] at hd
        omega)
      have hkp := HK.out
      clear hb2 hb3
      go_wp2_with (at_builtin; refine wpList_append_row rfl _ _ rfl wr.heap.size _ [] rfl (OwnB.nil _ _) _ rfl seed (HR.out.grew hkp) (by simp; omega) (Nat.le_refl _) ?_)
      intro v1 w1 ho1 hg1
      have k1 : Kept Nought wr w1 := (Kept.refl Nought wr).grown hg1 (fun k hk hlt => by cases hk)
      obtain ⟨yo, yn, yc, rfl, hLy, hyc, hym, _, _⟩ := ho1.row.open
      have hyb : yn ≤ 900000 := by have := hLy.out; omega
      have HO1 : Hid (OwnN .u8 5 w1 wr.heap.size (.slice yo yn yc) yn seed) := by have := ho1; unfold OwnB at this; rw [hLy.out] at this; exact this
      have HK1 := toHid k1
      clear ho1 hg1 k1 hkp
      have ho2 := HO1.out
      have hsz1 := HK1.out.size
      go_wp2_with (at_builtin; refine wpList_append_lies _ rfl _ _ 22 rfl wr.heap.size 5 i0 _ 1 1 Tryd.underlying22 hi0 hz0 hz1 hz2 rfl (by omega) _ _ _ rfl (ho2.alloc _) ⟨w1.heap.size, 0, none⟩ 4 4 [.int .u8 0, .int .u8 0, .int .u8 (b2 : Int), .int .u8 (b3 : Int)] rfl rfl (World.news_of_block (cs := #[.int .u8 0, .int .u8 0, .int .u8 (b2 : Int), .int .u8 (b3 : Int)]) (t := 5) (fr := (0, 0)) (Go.heap_alloc_new w1 _)) (by simp [Value.oneCell']) (by omega) (by unfold maxLen; omega) (by omega) (by simp; omega) (w1.heap.size + 1) (by simp) ?_)
      intro gg c4 w4 ho4 hg4 hat hgl
      have k4 : Kept Nought wr w4 := (HK1.out.alloc _).grown hg4 (fun b hb hlt => by have := (ho2.lt b hb).1; omega)
      have HO4 : Hid (OwnB w4 wr.heap.size (.slice (some ⟨gg, 0, none⟩) (yn + 4) c4) (seed ++ [0, 0, b2, b3])) := by
        refine OwnB.of (n := yn + 4) ?_
        unfold OwnN
        rw [List.map_append]
        exact ho4
      have HK4 := toHid k4
      have J := toHid (r13Sum h _ _ w4 HO4.out.row HDS.out (by rw [List.length_append]; simp; omega))
      clear ho4 hg4 hat hgl k4 ho2
      go_wp2_with fail
      refine J.out.mono ?_
      rintro e w5 ⟨v5, rfl, ho5, k5⟩
      have k5' := HK4.out.trans k5
      obtain ⟨zo, zn, zc, rfl, hLz, hzc, hzm, _, _⟩ := ho5.row.open
      have hzn : zn = z := by rw [← hLz.out, hshN_length, HZ.out]
      subst hzn
      have HO5 := toHid ho5
      have HK5 := toHid k5'
      have HLm : Hid ((mskL h seed i).length = L) := by unfold Hid; rw [mskL_length, ← HZ.out, HL.out]
      have HOW := toHid (HO.out.grew k5')
      clear J ho5 k5 k5' HO4 HK4 HO1 HK1 HO
      have hsz5 : w.heap.size ≤ w5.heap.size := Nat.le_trans HK.out.size HK5.out.size
      go_wp2_with (at_builtin; refine wpList_append_row rfl _ _ rfl w.heap.size _ _ rfl HOW.out _ rfl _ HO5.out.row (by rw [HLm.out, hLz.out]; omega) hsz5 ?_)
      intro v6 w6 ho6 hg6
      rw [← HN.out] at ho6
      have k6 : Kept Nought w w6 := (HK.out.trans HK5.out).grown hg6 (fun b hb hlt => by have := (HOW.out.lt b hb).1; omega)
      obtain ⟨xo, xn, xc, rfl, hLx, hxc, hxm, _, _⟩ := ho6.row.open
      have hxn : xn = L + zn := by rw [← hLx.out, mskL_length, ← HZ.out, HL.out, Nat.succ_mul]
      subst hxn
      have HO6 := toHid ho6
      have HK6 := toHid k6
      clear ho6 hg6 k6
      go_wp2_with fail
      go_roundw
      case rel => exact ⟨i + 1, _, _, _, by unfold Hid; rw [HL.out, Nat.succ_mul], by omega, by omega, by go_num, rfl, HO6.out, HK6.out⟩
      case measure => simp [sliceLen]; omega
    · have g1 : ¬ (L : Int) < (n : Int) := by omega
      have hin : i ≤ n ∨ n < i := by omega
      have HM : Hid (mskN h seed n = (mskL h seed i).take n) := by
        unfold Hid mskN
        rcases hin with hin | hin
        · exact mskL_take h seed hin (by rw [mskL_length, ← HZ.out, ← HL.out]; omega)
        · exact (mskL_take h seed (Nat.le_of_lt hin) (by rw [mskL_length, ← HZ.out]; exact Nat.le_mul_of_pos_right _ (by omega))).symm
      have HLm : Hid ((mskL h seed i).length = L) := by unfold Hid; rw [mskL_length, ← HZ.out, HL.out]
      have ho := HO.out
      have hoN : OwnN .u8 5 wr w.heap.size (.slice ao L c) L (mskL h seed i) := by unfold OwnB at ho; rw [HLm.out] at ho; exact ho
      have hcut : OwnB wr w.heap.size (.slice ao n c) (mskN h seed n) := by
        rw [HM.out]
        exact OwnB.of (own_cut hoN (by omega))
      obtain ⟨_, _, _, e7, _, hcc, hcm, _, _⟩ := ho.row.open
      cases e7
      have HCUT := toHid hcut
      have gc : (n : Int) ≤ (c : Int) := by omega
      have gn : n ≤ c := by omega
      rcases hoN.2 with ⟨e, hL0⟩ | ⟨g, cap, cur, e, _⟩
      · cases e
        obtain rfl : n = 0 := by omega
        clear ho hoN hcut
        go_wp2_with fail
        go_ret2
        exact ⟨_, rfl, HCUT.out, HK.out⟩
      · cases e
        clear ho hoN hcut
        go_wp2_with fail
        go_ret2
        exact ⟨_, rfl, HCUT.out, HK.out⟩

end Go.Proofs.YtnhkfdbeacmepaaDoor


/- What a copy of a row reads. -/
namespace Go.Proofs.YtnhkfdbeacmepaaDoor
open Go.RowKit

/-- What a copy reads. -/
theorem row_src {k : IntKind} {w W : World} {ao : Option Addr} {n cap : Nat} {zs : List Nat} (h : Row k w (.slice ao n cap) zs) (kk : Kept Nought w W) (hp : 0 < (zs.map fun z : Nat => Value.int k (z : Int)).length) : ∃ ad, ao = some ad ∧ ∀ j u, (zs.map fun z : Nat => Value.int k (z : Int))[j]? = some u → W.cell? (ad.add j) = some u := by
  rw [List.length_map] at hp
  obtain ⟨ao', n', cap', e, hL, _, _, _, hn⟩ := h.open
  cases e
  obtain ⟨b, off, rfl, _⟩ := hn 0 (by have := hL.out; omega)
  exact ⟨_, rfl, news_row h kk⟩

end Go.Proofs.YtnhkfdbeacmepaaDoor


/- Package mgf: the bytes of a count (layCount); bytes put together bit by bit (Xor). -/
namespace Go.Proofs.YtnhkfdbeacmepaaDoor
open Go.RowKit

/-- The bytes of a count, the highest ahead. -/
def cnt4 (c : Nat) : List Nat := [c / 16777216 % 256, c / 65536 % 256, c / 256 % 256, c % 256]

theorem cnt4_length (c : Nat) : (cnt4 c).length = 4 := rfl

theorem cnt4_digs (c : Nat) : Digs 256 (cnt4 c) := fun d hd => by
  simp only [cnt4, List.mem_cons, List.not_mem_nil, or_false] at hd
  omega

/-- While they are written: the last i are there. -/
def layN (ps : List Nat) (c i : Nat) : List Nat := ps.take (4 - i) ++ (cnt4 c).drop (4 - i)

theorem layN_length {ps : List Nat} (c : Nat) (hp : ps.length = 4) {i : Nat} (hi : i ≤ 4) : (layN ps c i).length = 4 := by
  unfold layN
  rw [List.length_append, List.length_take, List.length_drop, cnt4_length]
  omega

theorem layN_zero {ps : List Nat} (c : Nat) (hp : ps.length = 4) : layN ps c 0 = ps := by
  unfold layN
  rw [List.take_of_length_le (by omega), List.drop_of_length_le (by rw [cnt4_length]; omega), List.append_nil]

theorem layN_four (ps : List Nat) (c : Nat) : layN ps c 4 = cnt4 c := by simp [layN]

theorem layN_set {ps : List Nat} (c : Nat) (hp : ps.length = 4) {i q y : Nat} (hi : i < 4) (hq : q = 8 * i) (hy : y = c / 2 ^ q % 256) : (layN ps c i).set (3 - i) y = layN ps c (i + 1) := by
  match ps, hp with
  | [a, b, d, e], _ =>
    subst hq hy
    obtain rfl | rfl | rfl | rfl : i = 0 ∨ i = 1 ∨ i = 2 ∨ i = 3 := by omega
    all_goals simp [layN, cnt4]

set_option maxRecDepth 20000 in
set_option maxHeartbeats 1000000 in
/-- layCount. -/
theorem gLay (g off cap c : Nat) (ss ps : List Nat) (w : World) (hA : Arr .u8 5 w g (ss ++ ps)) (hl : ss.length = off) (hp : ps.length = 4) :
    Calls Tryd.prog 85 #[.slice (some ⟨g, off, none⟩) 4 cap, .int .u32 (c : Int)] w fun e w' => (∃ v, e = .returned v) ∧ Arr .u8 5 w' g (ss ++ cnt4 c) ∧ Kept (fun b => b = g) w w' := by
  have HA := toHid hA
  have HL := toHid hl
  have HP := toHid hp
  clear hA hl hp
  go_enter Tryd.func85, Tryd.ntmps85
  go_wp2_with fail
  go_loopw [7] (fun iv wr => ∃ i : Nat, i ≤ 4 ∧ iv = .int .i64 (i : Int) ∧ Hid (Arr .u8 5 wr g (ss ++ layN ps c i)) ∧ Hid (Kept (fun b => b = g) w wr)) (fun iv _ => 4 - (intOf iv).toNat)
  case atStart => exact ⟨0, by omega, rfl, by unfold Hid; rw [layN_zero c HP.out]; exact HA.out, Kept.refl _ _⟩
  case round =>
    obtain ⟨i, hi, rfl, HB, HK⟩ := hrel
    by_cases hi4 : i < 4
    · have g1 : (i : Int) < 4 := by omega
      have g0 : (0 : Int) ≤ (i : Int) := by omega
      obtain ⟨k, hk⟩ : ∃ k, k = 3 - i := ⟨_, rfl⟩
      have gk : (4 : Int) - 1 - (i : Int) = (k : Int) := by omega
      have gk' : (3 : Int) - (i : Int) = (k : Int) := by omega
      have gk0 : (0 : Int) ≤ (k : Int) := by omega
      have gk1 : (k : Int) < 4 := by omega
      have gk2 : k < 4 := by omega
      obtain ⟨q, hq⟩ : ∃ q, q = 8 * i := ⟨_, rfl⟩
      have gq : (8 : Int) * (i : Int) = (q : Int) := by omega
      have gq0 : (0 : Int) ≤ (q : Int) := by omega
      have hq64 : q < 32 := by omega
      obtain ⟨y, hy⟩ : ∃ y, y = c / 2 ^ q % 256 := ⟨_, rfl⟩
      have gy : (c : Int) / 2 ^ q % 256 = (y : Int) := by
        rw [hy]
        simp
      have hlen : (ss ++ layN ps c i).length = off + 4 := by rw [List.length_append, layN_length c HP.out hi, HL.out]
      have ck := HB.out.cell (off + k) (by omega)
      have fk := HB.out.free (off + k)
      have HN : Hid (Arr .u8 5 (wr.setCell ⟨g, off + k, none⟩ (.int .u8 (y : Nat))) g (ss ++ layN ps c (i + 1))) := by
        have := HB.out.set (off + k) y
        rw [List.set_append_right _ _ (by rw [HL.out]; omega), HL.out, show off + k - off = 3 - i by omega, layN_set c HP.out hi4 hq hy] at this
        exact this
      clear hk hq hy hlen
      go_wp2_with fail
      go_roundw
      case rel => exact ⟨i + 1, by omega, by go_num, HN.out, HK.out.setCell ⟨g, off + k, none⟩ (fun _ => rfl) (.int .u8 (y : Int))⟩
      case measure => simp [intOf]; omega
    · obtain rfl : i = 4 := by omega
      have g1 : ¬ ((4 : Nat) : Int) < 4 := by omega
      go_wp2_with fail
      go_end0
      exact ⟨⟨_, rfl⟩, by have := HB.out; rw [layN_four] at this; exact this, HK.out⟩

theorem xorK_zero (xs bs : List Nat) : xorK xs bs 0 = xs := by simp [xorK]

/-- Where the second's bytes end, nothing more is put together. -/
theorem xorK_min {xs bs : List Nat} {m : Nat} (hm : m = min xs.length bs.length) : xorK xs bs m = xorN xs bs := by
  unfold xorK
  have h : xs.drop m = (xorN xs bs).drop m := by
    apply List.ext_getElem?
    intro i
    rw [List.getElem?_drop, List.getElem?_drop]
    by_cases hi : m + i < xs.length
    · have h0 : bs.getD (m + i) 0 = 0 := by
        rw [List.getD_eq_getElem?_getD, List.getElem?_eq_none (by omega)]
        rfl
      unfold xorN
      rw [List.getElem?_map, List.getElem?_range hi, Option.map_some, h0, Nat.xor_zero, List.getD_eq_getElem?_getD, List.getElem?_eq_getElem hi]
      rfl
    · rw [List.getElem?_eq_none (by omega), List.getElem?_eq_none (by rw [xorN_length]; omega)]
  rw [h, List.take_append_drop]

set_option maxRecDepth 20000 in
set_option maxHeartbeats 1000000 in
/-- Xor. -/
theorem gXor (u v : Value) (xs bs : List Nat) (w : World) (hx : Row .u8 w u xs) (hb : Row .u8 w v bs) (dx : Digs 256 xs) (db : Digs 256 bs) (hl : xs.length ≤ 1000000) :
    Calls Tryd.prog 51 #[u, v] w fun e w' => ∃ v', e = .returned v' ∧ OwnB w' w.heap.size v' (xorN xs bs) ∧ Kept Nought w w' := by
  obtain ⟨i0, hi0, hz0, hz1, hz2⟩ := info_parts Tryd.info8s
  have HX := toHid hx
  have HB := toHid hb
  obtain ⟨ao, na, ca, rfl, hLa, hac, ham, _⟩ := hx.open
  obtain ⟨bo, nb, cb, rfl, hLb, hbc, hbm, _⟩ := hb.open
  have HDX := toHid dx
  have HDB := toHid db
  obtain ⟨CS, hCS⟩ : ∃ CS, CS = xs.map fun z : Nat => Value.int .u8 (z : Int) := ⟨_, rfl⟩
  have HC := toHid hCS
  have HLC : Hid (CS.length = na) := by unfold Hid; rw [hCS, List.length_map]; exact hLa.out
  have HSRC : Hid (∀ W, Kept Nought w W → 0 < CS.length → ∃ ad, ao = some ad ∧ ∀ j u, CS[j]? = some u → W.cell? (ad.add j) = some u) := by rw [hCS]; exact fun W k hp => row_src HX.out k hp
  have HO1 : Hid (∀ u ∈ CS, u.oneCell' = true) := by rw [hCS]; exact ones8 _ _
  have hna : na ≤ 1000000 := by have := hLa.out; omega
  obtain ⟨m, hm⟩ : ∃ m, m = min na nb := ⟨_, rfl⟩
  have gm : min (na : Int) (nb : Int) = (m : Int) := by omega
  have gm1 : m ≤ na := by omega
  have gm2 : m ≤ nb := by omega
  have HM := toHid hm
  clear hx hb dx db hCS hm
  go_enter Tryd.func51, Tryd.ntmps51
  go_wp2_with (at_make; refine wpList_make_full _ rfl _ _ 22 rfl w.heap.size 5 i0 _ 1 Tryd.underlying22 hi0 hz0 hz1 _ _ _ _ na rfl rfl rfl rfl (by rw [hz2]; omega) (by unfold maxLen; omega) (Nat.le_refl _) ?_; intro w1 ho1 hg1; rw [zeros_map] at ho1; have k1 := grown_kept hg1; obtain ⟨w2, hrun, hb2, k2⟩ := run_copy_part (P := Tryd.prog) 22 22 3 5 w.heap.size 0 na na (some ⟨w.heap.size, 0, none⟩) ao na ca _ 5 CS Tryd.underlying22 (by rw [hi0]; simp [hz1]) (own_block ho1) (by rw [HLC.out]; exact (Nat.min_self _).symm) (fun hp => ⟨rfl, HSRC.out _ k1 hp⟩) (by have := HLC.out; simp; omega) HO1.out; have HB2 : Hid _ := hb2; have HK2 := toHid (kept_new k1 k2 (Nat.le_refl _)); clear hb2 ho1 hg1 k1 k2)
  have HA2 : Hid (Arr .u8 5 w2 w.heap.size (xorK xs bs 0)) := by
    have := HB2.out
    rw [HC.out, splice_fill, hLa.out, Nat.sub_self, List.replicate_zero, List.append_nil] at this
    unfold Hid
    rw [xorK_zero]
    exact this
  clear HB2 HSRC HO1 HLC HC hrun
  go_loopw [18] (fun iv wr => ∃ k : Nat, k ≤ m ∧ iv = .int .i64 (k : Int) ∧ Hid (Arr .u8 5 wr w.heap.size (xorK xs bs k)) ∧ Hid (Kept Nought w wr)) (fun iv _ => m - (intOf iv).toNat)
  case atStart => exact ⟨0, Nat.zero_le _, rfl, HA2.out, HK2.out⟩
  case round =>
    clear HA2 HK2
    obtain ⟨k, hk, rfl, HA, HK⟩ := hrel
    by_cases hkm : k < m
    · have g1 : (k : Int) < (m : Int) := by omega
      have g0 : (0 : Int) ≤ (k : Int) := by omega
      have ga : (k : Int) < (na : Int) := by omega
      have gb : (k : Int) < (nb : Int) := by omega
      have hkx : k < xs.length := by have := hLa.out; omega
      have ck := HA.out.cell k (by rw [xorK_length]; exact hkx)
      rw [xorK_getD hkx] at ck
      have fk := HA.out.free k
      obtain ⟨_, _, _, e5, _, _, _, _, hnb⟩ := (HB.out.grew HK.out).open
      cases e5
      obtain ⟨bb, boff, rfl, hcb⟩ := hnb k (by omega)
      have lx : xs.getD k 0 < 256 := HDX.out.getD (by omega) k
      have lb : bs.getD k 0 < 256 := HDB.out.getD (by omega) k
      have hset := xorK_set (bs := bs) hkx
      generalize xs.getD k 0 = X at *
      generalize bs.getD k 0 = Y at *
      have e6 := u8_xor_nat X Y (by omega) (by omega)
      obtain ⟨Z, hZ⟩ : ∃ Z, Z = X ^^^ Y := ⟨_, rfl⟩
      rw [← hZ] at e6 hset
      have HS : Hid (Arr .u8 5 (wr.setCell ⟨w.heap.size, k, none⟩ (.int .u8 (Z : Int))) w.heap.size (xorK xs bs (k + 1))) := by
        have := HA.out.set k Z
        rw [hset] at this
        exact this
      have HKS : Hid (Kept Nought w (wr.setCell ⟨w.heap.size, k, none⟩ (.int .u8 (Z : Int)))) := HK.out.setCell _ (fun h => by simp at h) _
      clear hnb hset hZ
      go_wp2_with fail
      go_region
      all_goals
        go_wp2_with fail
        go_roundw
        case rel => exact ⟨k + 1, by omega, by go_num, HS.out.grew (Kept.refl _ _).drew, HKS.out.drew⟩
        case measure => simp [intOf]; omega
    · have g1 : ¬ (k : Int) < (m : Int) := by omega
      have hA := HA.out
      rw [show k = m by omega, xorK_min (by rw [hLa.out, hLb.out]; exact HM.out)] at hA
      have hO : OwnB wr w.heap.size (.slice (some ⟨w.heap.size, 0, none⟩) na na) (xorN xs bs) := OwnB.of (own_of_block hA (by rw [xorN_length]; exact hLa.out) (by unfold maxLen; omega) (Nat.le_refl _))
      have HOO := toHid hO
      clear hA hO
      go_wp2_with fail
      go_ret
      exact ⟨_, rfl, HOO.out, HK.out⟩

end Go.Proofs.YtnhkfdbeacmepaaDoor


/- A region that draws its order in a round of a range over a function: as everywhere. -/
namespace Go.Proofs.YtnhkfdbeacmepaaDoor
open Go.RowKit Go.Shelf

theorem oper_round {P : Program} {o : Oper} {a : Act} {w : World} {l n : Nat} {K : Act → World → Prop} {Q : Exit → Act → World → Prop} (hd : ∀ c, o.op ≠ .defer c) (h : o.wp P a w K Q) : o.wpIn (Fence.wide.inRound l) n P a w K Q := by
  refine ⟨fun _ _ => trivial, ?_⟩
  rw [show (Fence.wide.inRound l).round = some l from rfl, Oper.semAt_some l a.eval o hd]
  unfold Oper.wp at h
  generalize (execOp a.eval o).run P w = r at *
  cases r with
  | ok x w' =>
    cases x with
    | enter f args => exact ⟨fun e => (by cases e), CallsIn.inRound l (callsIn_wide.2 h)⟩
    | row row args => exact ⟨fun e => (by cases e), fun c cs _ => let ⟨v, w'', r, s⟩ := h c cs; ⟨v, w'', r, stepsIn_wide.2 s⟩⟩
    | round l f tmps assign body => exact h.elim
    | _ => exact h
  | halt x w' => cases x <;> exact h

def noDefer (ops : Array Oper) : Bool := ops.toList.all fun o => match o.op with | .defer _ => false | _ => true

theorem noDefer_at {ops : Array Oper} (h : noDefer ops = true) {i : Nat} {o : Oper} (ho : ops[i]? = some o) : ∀ c, o.op ≠ .defer c := by
  intro c e
  unfold noDefer at h
  rw [List.all_eq_true] at h
  have hm : o ∈ ops.toList := by
    rw [Array.mem_toList_iff]
    exact Array.mem_of_getElem? ho
  have := h o hm
  rw [e] at this
  cases this

theorem anyIn_of_any {P : Program} {md : Region.Mode} {ops : Array Oper} {Q : Exit → Act → World → Prop} {l n : Nat} (hnd : noDefer ops = true) (hlo : ¬ LetsOut Q) : ∀ (fuel : Nat) (listed : Array Bool) (a : Act) (w : World), wpAny P md ops Q fuel listed a w → wpAnyIn (Fence.wide.inRound l) n P md ops Q fuel listed a w
  | 0, _, _, _, h => h
  | fuel + 1, listed, a, w, h => ⟨h.1, fun i hi => by
    have h2 := h.2 i hi
    unfold wpOp at h2
    unfold wpOpIn
    cases ho : ops[i]? with
    | none =>
      rw [ho] at h2
      exact anyIn_of_any hnd hlo fuel _ a w h2
    | some o =>
      rw [ho] at h2
      dsimp only at h2 ⊢
      split
      · rename_i hw
        rw [if_pos hw] at h2
        rcases h2 with h2 | h2
        · exact Oper.wpIn_mono (fun a w => anyIn_of_any hnd hlo fuel _ a w) (oper_round (noDefer_at hnd ho) h2)
        · exact absurd h2.2 hlo
      · rename_i hw
        rw [if_neg hw] at h2
        exact ⟨fun _ _ => trivial, anyIn_of_any hnd hlo fuel _ _ w h2⟩⟩

/-- A drawn region in a round, by the law that holds what S says. -/
theorem region_round {P : Program} {ops : Array Oper} {Q : Exit → Act → World → Prop} {S : World → Prop} {l n id : Nat} {a : Act} {w : World} (hm : P.follows .mixedOrders = true) (hnd : noDefer ops = true) (hlo : ¬ LetsOut Q)
    (h : wpAnyH P .any ops Q S ops.size (Array.replicate ops.size false) a w.drew) : (Code.region id ops true).wpIn (Fence.wide.inRound l) n P Q a w :=
  wpIn_region_any hm (anyIn_of_any hnd hlo _ _ _ _ (wpAny_of_held _ _ _ _ h))

end Go.Proofs.YtnhkfdbeacmepaaDoor

