/- The plain side of layers 13 and 14: Prefix, Mask. -/
import Derived.Test.YtglioppchhepmaaDoorHsh2
namespace Go.Proofs.YtglioppchhepmaaDoor
open Go.RowKit

/-- What stands ahead of a hash in a signature. -/
def preN (h : Int) : List Nat := if hszN h = 0 then [] else [48, 17 + hszN h, 48, 13, 6, 9, 96, 134, 72, 1, 101, 3, 4, 2, h.toNat, 5, 0, 4, hszN h]

theorem preN_digs (h : Int) : Digs 256 (preN h) := by
  unfold preN
  rcases hsz_cases h with ⟨rfl, e⟩ | ⟨rfl, e⟩ | ⟨rfl, e⟩ | ⟨h1, h2, h3, e⟩
  case inr.inr.inr =>
    rw [e]
    exact Digs.nil _
  all_goals
    rw [e]
    unfold Digs
    decide

/-- So many hashes of a seed and a number behind it. -/
def mskL (h : Int) (seed : List Nat) : Nat → List Nat
  | 0 => []
  | i + 1 => mskL h seed i ++ hshN h (seed ++ [i / 16777216 % 256, i / 65536 % 256, i / 256 % 256, i % 256])

theorem mskL_length (h : Int) (seed : List Nat) : ∀ i, (mskL h seed i).length = i * hszN h
  | 0 => by simp [mskL]
  | i + 1 => by unfold mskL; rw [List.length_append, mskL_length h seed i, hshN_length, Nat.succ_mul]

theorem mskL_digs (h : Int) (seed : List Nat) : ∀ i, Digs 256 (mskL h seed i)
  | 0 => Digs.nil _
  | i + 1 => (mskL_digs h seed i).app (hshN_digs _ _)

theorem mskL_more (h : Int) (seed : List Nat) (i : Nat) : ∀ d, ∃ t, mskL h seed (i + d) = mskL h seed i ++ t
  | 0 => ⟨[], by simp⟩
  | d + 1 => by
    obtain ⟨t, ht⟩ := mskL_more h seed i d
    exact ⟨t ++ _, by rw [← Nat.add_assoc]; show mskL h seed (i + d) ++ _ = _; rw [ht, List.append_assoc]⟩

theorem mskL_take (h : Int) (seed : List Nat) {i j n : Nat} (hij : i ≤ j) (hn : n ≤ (mskL h seed i).length) : (mskL h seed j).take n = (mskL h seed i).take n := by
  obtain ⟨t, ht⟩ := mskL_more h seed i (j - i)
  rw [show i + (j - i) = j by omega] at ht
  rw [ht, List.take_append_of_le_length hn]

/-- A mask's error. -/
def mskE (h n : Int) : Nat := if hszN h = 0 then 130 else if n < 0 then 1 else if n > 10000 then 2 else 0

/-- A mask of n bytes. -/
def mskN (h : Int) (seed : List Nat) (n : Nat) : List Nat := (mskL h seed n).take n

/-- What Mask answers. -/
def mskA (h : Int) (seed : List Nat) (n : Int) : List Nat := if mskE h n = 0 then mskN h seed n.toNat else []

set_option maxRecDepth 20000 in
set_option maxHeartbeats 1000000 in
/-- Mask of what has none. -/
theorem r13MaskBad (h : Int) (v : Value) (n : Int) (w : World) (hE : mskE h n ≠ 0) :
    Calls Tryd.prog 8 #[.int .i64 h, v, .int .i64 n] w fun e w' => e = .returned (.tuple #[.slice none 0 0, .int .i64 (mskE h n : Nat)]) ∧ Kept Nought w w' := by
  have J := fun W => r13Size h W
  unfold mskE at *
  by_cases h0 : hszN h = 0
  · rw [if_pos h0]
    rw [h0] at J
    clear hE
    go_enter Tryd.func8, Tryd.ntmps8
    go_wp2_with fail
    refine (J _).mono ?_
    rintro e w1 ⟨rfl, k1⟩
    clear J
    go_wp2_with fail
    go_ret2
    exact ⟨rfl, k1⟩
  · rw [if_neg h0] at *
    have h0' : ¬ ((hszN h : Nat) : Int) = 0 := by omega
    generalize hszN h = z at *
    by_cases h1 : n < 0
    · rw [if_pos h1] at *
      clear hE h0
      go_enter Tryd.func8, Tryd.ntmps8
      go_wp2_with fail
      refine (J _).mono ?_
      rintro e w1 ⟨rfl, k1⟩
      clear J
      go_wp2_with fail
      go_ret2
      exact ⟨rfl, k1⟩
    · rw [if_neg h1] at *
      by_cases h2 : n > 10000
      · rw [if_pos h2] at *
        have h2' : (10000 : Int) < n := h2
        clear hE h0
        go_enter Tryd.func8, Tryd.ntmps8
        go_wp2_with fail
        refine (J _).mono ?_
        rintro e w1 ⟨rfl, k1⟩
        clear J
        go_wp2_with fail
        go_ret2
        exact ⟨rfl, k1⟩
      · rw [if_neg h2] at hE
        exact absurd rfl hE

theorem mskE_zero {h n : Int} (hE : mskE h n = 0) : hszN h ≠ 0 ∧ 0 ≤ n ∧ n ≤ 10000 := by
  unfold mskE at hE
  by_cases h0 : hszN h = 0
  · rw [if_pos h0] at hE
    omega
  · rw [if_neg h0] at hE
    by_cases h1 : n < 0
    · rw [if_pos h1] at hE
      omega
    · rw [if_neg h1] at hE
      by_cases h2 : n > 10000
      · rw [if_pos h2] at hE
        omega
      · exact ⟨h0, by omega, by omega⟩

theorem hsz_le (h : Int) : hszN h ≤ 64 := by
  rcases hsz_cases h with ⟨_, e⟩ | ⟨_, e⟩ | ⟨_, e⟩ | ⟨_, _, _, e⟩ <;> omega

set_option maxRecDepth 20000 in
set_option maxHeartbeats 1000000 in
/-- Mask. -/
theorem r13Mask (h : Int) (v : Value) (seed : List Nat) (n : Nat) (w : World) (hr : Row .u8 w v seed) (hd : Digs 256 seed) (hl : seed.length ≤ 900000) (hE : mskE h n = 0) :
    Calls Tryd.prog 8 #[.int .i64 h, v, .int .i64 (n : Int)] w fun e w' => ∃ v', e = .returned (.tuple #[v', .int .i64 0]) ∧ OwnB w' w.heap.size v' (mskN h seed n) ∧ Kept Nought w w' := by
  obtain ⟨i0, hi0, hz0, hz1, hz2⟩ := info_parts Tryd.info8s
  obtain ⟨hz, _, hn⟩ := mskE_zero hE
  have J := toHid fun W => r13Size h W
  have HR := toHid hr
  have HD := toHid hd
  have hzb := hsz_le h
  obtain ⟨z, hzz⟩ : ∃ z, z = hszN h := ⟨_, rfl⟩
  rw [← hzz] at J hz hzb
  have HZ := toHid hzz
  have h0' : ((z : Int) == 0) = false := beq_eq_false_iff_ne.2 (by omega)
  have h1 : ¬ (n : Int) < 0 := by omega
  have h2 : ¬ (n : Int) > 10000 := by omega
  have h2' : ¬ (10000 : Int) < (n : Int) := by omega
  have h2n : n ≤ 10000 := by omega
  have h3 : (0 : Int) ≤ (n : Int) := by omega
  obtain ⟨so, sn, sc, rfl, hLs, hsc, hsm, _, _⟩ := hr.open
  clear hr hd hzz hE hn
  go_enter Tryd.func8, Tryd.ntmps8
  go_wp2_with fail
  refine (J.out _).mono ?_
  rintro e w1 ⟨rfl, k1⟩
  have HK1 := toHid k1
  clear J k1
  go_wp2_with fail
  go_loopw [8, 9] (fun out iv wr => ∃ (i L : Nat) (ao : Option Addr) (c : Nat), Hid (L = i * z) ∧ i ≤ L ∧ L ≤ 20000 ∧ iv = .int .i64 (i : Int) ∧ out = .slice ao L c ∧ Hid (OwnB wr w.heap.size (.slice ao L c) (mskL h seed i)) ∧ Hid (Kept Nought w wr)) (fun out _ _ => n - sliceLen out)
  case atStart => exact ⟨0, 0, none, 0, by unfold Hid; simp, Nat.zero_le _, by omega, rfl, rfl, OwnB.nil _ _, HK1.out⟩
  case round =>
    clear HK1
    obtain ⟨i, L, ao, c, HL, hi, hLb, rfl, rfl, HO, HK⟩ := hrel
    by_cases hLn : L < n
    · have g1 : (L : Int) < (n : Int) := by omega
      have g0 : (0 : Int) ≤ (i : Int) := by omega
      have hib : i ≤ 10000 := by omega
      have e0 : (i : Int) / 16777216 % 256 = 0 := by omega
      have e0' : (i : Int) / 16777216 = 0 := by omega
      have e1 : (i : Int) / 65536 % 256 = 0 := by omega
      have e1' : (i : Int) / 65536 = 0 := by omega
      obtain ⟨b2, hb2⟩ : ∃ b, b = i / 256 % 256 := ⟨_, rfl⟩
      obtain ⟨b3, hb3⟩ : ∃ b, b = i % 256 := ⟨_, rfl⟩
      have e2 : (i : Int) / 256 = (b2 : Int) := by omega
      have e3 : (i : Int) % 256 = (b3 : Int) := by omega
      have HN : Hid (mskL h seed (i + 1) = mskL h seed i ++ hshN h (seed ++ [0, 0, b2, b3])) := by
        unfold Hid
        show mskL h seed i ++ hshN h (seed ++ [i / 16777216 % 256, i / 65536 % 256, i / 256 % 256, i % 256]) = _
        rw [show i / 16777216 % 256 = 0 by omega, show i / 65536 % 256 = 0 by omega, ← hb2, ← hb3]
      have HDS : Hid (Digs 256 (seed ++ [0, 0, b2, b3])) := HD.out.app (fun d hd => by
        simp only [List.mem_cons, List.not_mem_nil, or_false] at hd
        omega)
      have hkp := HK.out
      clear hb2 hb3
      go_wp2_with (at_builtin; refine wpList_append_row rfl _ _ rfl wr.heap.size _ [] rfl (OwnB.nil _ _) _ rfl seed (HR.out.grew hkp) (by simp; omega) (Nat.le_refl _) ?_)
      intro v1 w1 ho1 hg1
      have k1 : Kept Nought wr w1 := (Kept.refl Nought wr).grown hg1 (fun k hk hlt => by cases hk)
      obtain ⟨yo, yn, yc, rfl, hLy, hyc, hym, _, _⟩ := ho1.row.open
      have hyb : yn ≤ 900000 := by have := hLy.out; omega
      have HO1 : Hid (OwnN .u8 5 w1 wr.heap.size (.slice yo yn yc) yn seed) := by have := ho1; unfold OwnB at this; rw [hLy.out] at this; exact this
      have HK1 := toHid k1
      clear ho1 hg1 k1 hkp
      have ho2 := HO1.out
      have hsz1 := HK1.out.size
      go_wp2_with (at_builtin; refine wpList_append_lies _ rfl _ _ 22 rfl wr.heap.size 5 i0 _ 1 1 Tryd.underlying22 hi0 hz0 hz1 hz2 rfl (by omega) _ _ _ rfl (ho2.alloc _) ⟨w1.heap.size, 0, none⟩ 4 4 [.int .u8 0, .int .u8 0, .int .u8 (b2 : Int), .int .u8 (b3 : Int)] rfl rfl (World.news_of_block (cs := #[.int .u8 0, .int .u8 0, .int .u8 (b2 : Int), .int .u8 (b3 : Int)]) (t := 5) (fr := (0, 0)) (Go.heap_alloc_new w1 _)) (by simp [Value.oneCell']) (by omega) (by unfold maxLen; omega) (by omega) (by simp; omega) (w1.heap.size + 1) (by simp) ?_)
      intro gg c4 w4 ho4 hg4 hat hgl
      have k4 : Kept Nought wr w4 := (HK1.out.alloc _).grown hg4 (fun b hb hlt => by have := (ho2.lt b hb).1; omega)
      have HO4 : Hid (OwnB w4 wr.heap.size (.slice (some ⟨gg, 0, none⟩) (yn + 4) c4) (seed ++ [0, 0, b2, b3])) := by
        refine OwnB.of (n := yn + 4) ?_
        unfold OwnN
        rw [List.map_append]
        exact ho4
      have HK4 := toHid k4
      have J := toHid (r13Sum h _ _ w4 HO4.out.row HDS.out (by rw [List.length_append]; simp; omega))
      clear ho4 hg4 hat hgl k4 ho2
      go_wp2_with fail
      refine J.out.mono ?_
      rintro e w5 ⟨v5, rfl, ho5, k5⟩
      have k5' := HK4.out.trans k5
      obtain ⟨zo, zn, zc, rfl, hLz, hzc, hzm, _, _⟩ := ho5.row.open
      have hzn : zn = z := by rw [← hLz.out, hshN_length, HZ.out]
      subst hzn
      have HO5 := toHid ho5
      have HK5 := toHid k5'
      have HLm : Hid ((mskL h seed i).length = L) := by unfold Hid; rw [mskL_length, ← HZ.out, HL.out]
      have HOW := toHid (HO.out.grew k5')
      clear J ho5 k5 k5' HO4 HK4 HO1 HK1 HO
      have hsz5 : w.heap.size ≤ w5.heap.size := Nat.le_trans HK.out.size HK5.out.size
      go_wp2_with (at_builtin; refine wpList_append_row rfl _ _ rfl w.heap.size _ _ rfl HOW.out _ rfl _ HO5.out.row (by rw [HLm.out, hLz.out]; omega) hsz5 ?_)
      intro v6 w6 ho6 hg6
      rw [← HN.out] at ho6
      have k6 : Kept Nought w w6 := (HK.out.trans HK5.out).grown hg6 (fun b hb hlt => by have := (HOW.out.lt b hb).1; omega)
      obtain ⟨xo, xn, xc, rfl, hLx, hxc, hxm, _, _⟩ := ho6.row.open
      have hxn : xn = L + zn := by rw [← hLx.out, mskL_length, ← HZ.out, HL.out, Nat.succ_mul]
      subst hxn
      have HO6 := toHid ho6
      have HK6 := toHid k6
      clear ho6 hg6 k6
      go_wp2_with fail
      go_roundw
      case rel => exact ⟨i + 1, _, _, _, by unfold Hid; rw [HL.out, Nat.succ_mul], by omega, by omega, by go_num, rfl, HO6.out, HK6.out⟩
      case measure => simp [sliceLen]; omega
    · have g1 : ¬ (L : Int) < (n : Int) := by omega
      have hin : i ≤ n ∨ n < i := by omega
      have HM : Hid (mskN h seed n = (mskL h seed i).take n) := by
        unfold Hid mskN
        rcases hin with hin | hin
        · exact mskL_take h seed hin (by rw [mskL_length, ← HZ.out, ← HL.out]; omega)
        · exact (mskL_take h seed (Nat.le_of_lt hin) (by rw [mskL_length, ← HZ.out]; exact Nat.le_mul_of_pos_right _ (by omega))).symm
      have HLm : Hid ((mskL h seed i).length = L) := by unfold Hid; rw [mskL_length, ← HZ.out, HL.out]
      have ho := HO.out
      have hoN : OwnN .u8 5 wr w.heap.size (.slice ao L c) L (mskL h seed i) := by unfold OwnB at ho; rw [HLm.out] at ho; exact ho
      have hcut : OwnB wr w.heap.size (.slice ao n c) (mskN h seed n) := by
        rw [HM.out]
        exact OwnB.of (own_cut hoN (by omega))
      obtain ⟨_, _, _, e7, _, hcc, hcm, _, _⟩ := ho.row.open
      cases e7
      have HCUT := toHid hcut
      have gc : (n : Int) ≤ (c : Int) := by omega
      have gn : n ≤ c := by omega
      rcases hoN.2 with ⟨e, hL0⟩ | ⟨g, cap, cur, e, _⟩
      · cases e
        obtain rfl : n = 0 := by omega
        clear ho hoN hcut
        go_wp2_with fail
        go_ret2
        exact ⟨_, rfl, HCUT.out, HK.out⟩
      · cases e
        clear ho hoN hcut
        go_wp2_with fail
        go_ret2
        exact ⟨_, rfl, HCUT.out, HK.out⟩

end Go.Proofs.YtglioppchhepmaaDoor
