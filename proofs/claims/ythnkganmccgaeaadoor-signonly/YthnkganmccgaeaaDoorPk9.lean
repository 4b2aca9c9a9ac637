/- Put together of: Shc7 Cat1. -/
import Derived.Test.YthnkganmccgaeaaDoorPk4
import Derived.Test.YthnkganmccgaeaaDoorPk8
import Derived.Lib.AppendZeros

/- Package sha512: hashed: block after block. -/
namespace Go.Proofs.YthnkganmccgaeaaDoor
open Go.RowKit

theorem hs_digsM {s all : List Nat} (hs : s.length = 8) (hd : Digs 18446744073709551616 s) : ∀ i, Digs 18446744073709551616 (blksM s all i) ∧ (blksM s all i).length = 8
  | 0 => ⟨hd, hs⟩
  | _ + 1 => blkM_digs

/-- Blocks behind blocks. -/
theorem hs_moreM (s all : List Nat) (a : Nat) : ∀ b, blksM s all (a + b) = blksM (blksM s all a) (all.drop (128 * a)) b
  | 0 => rfl
  | b + 1 => by
    show blkM (blksM s all (a + b)) ((all.drop (128 * (a + b))).take 128) = blkM (blksM (blksM s all a) (all.drop (128 * a)) b) (((all.drop (128 * a)).drop (128 * b)).take 128)
    rw [hs_moreM s all a b, List.drop_drop, show 128 * (a + b) = 128 * a + 128 * b by omega]

/-- What lies behind the blocks has no part in it. -/
theorem hs_takeM (s all : List Nat) (m : Nat) : ∀ a, 128 * a ≤ m → blksM s (all.take m) a = blksM s all a
  | 0, _ => rfl
  | a + 1, h => by
    unfold blksM
    rw [hs_takeM s all m a (by omega), List.drop_take, List.take_take, show min 128 (m - 128 * a) = 128 by omega]

set_option maxRecDepth 40000 in
set_option maxHeartbeats 4000000 in
/-- hashed, of whole blocks. -/
theorem mHashed (ao : Option Addr) (n cap M : Nat) (s bs : List Nat) (sv : Array Value) (hsv : sv = (s.map fun z => Value.int .u64 (z : Nat)).toArray) (w : World) (hT : Tab12 w) (hs : s.length = 8) (hsd : Digs 18446744073709551616 s) (hb : Row .u8 w (.slice ao n cap) bs) (hbd : Digs 256 bs) (hn : n = 128 * M) (hnb : n ≤ 2000000) :
    Calls Tryd.prog 43 #[.agg sv, .slice ao n cap] w fun e w' => e = .returned (.agg ((blksM s bs M).map fun z => Value.int .u64 (z : Nat)).toArray) ∧ Kept Nought w w' := by
  obtain ⟨s0, s1, s2, s3, s4, s5, s6, s7, hsl⟩ : ∃ s0 s1 s2 s3 s4 s5 s6 s7, s = [s0, s1, s2, s3, s4, s5, s6, s7] := by
    match s, hs with
    | [a, b, c, d, e, f, g, h], _ => exact ⟨a, b, c, d, e, f, g, h, rfl⟩
  have e0 : sv = #[.int .u64 (s0 : Nat), .int .u64 (s1 : Nat), .int .u64 (s2 : Nat), .int .u64 (s3 : Nat), .int .u64 (s4 : Nat), .int .u64 (s5 : Nat), .int .u64 (s6 : Nat), .int .u64 (s7 : Nat)] := by rw [hsv, hsl]; rfl
  subst e0
  clear hsv
  obtain ⟨W, hW⟩ : ∃ W, W = (w.alloc (.cells #[.int .u64 (s0 : Nat), .int .u64 (s1 : Nat), .int .u64 (s2 : Nat), .int .u64 (s3 : Nat), .int .u64 (s4 : Nat), .int .u64 (s5 : Nat), .int .u64 (s6 : Nat), .int .u64 (s7 : Nat)] 50)).alloc (.cells #[.int .u64 0, .int .u64 0, .int .u64 0, .int .u64 0, .int .u64 0, .int .u64 0, .int .u64 0, .int .u64 0] 50) := ⟨_, rfl⟩
  have k0 : Kept Nought w W := by rw [hW]; exact ((Kept.refl Nought w).alloc _).alloc _
  have hS0 : Arr .u64 50 W w.heap.size s := by
    rw [hW, hsl]
    exact heapAt_alloc (heap_alloc_new w _)
  have hO0 : Arr .u64 50 W (w.heap.size + 1) [0, 0, 0, 0, 0, 0, 0, 0] := by
    rw [hW]
    have := heap_alloc_new (w.alloc (.cells #[.int .u64 (s0 : Nat), .int .u64 (s1 : Nat), .int .u64 (s2 : Nat), .int .u64 (s3 : Nat), .int .u64 (s4 : Nat), .int .u64 (s5 : Nat), .int .u64 (s6 : Nat), .int .u64 (s7 : Nat)] 50)) (.cells #[.int .u64 0, .int .u64 0, .int .u64 0, .int .u64 0, .int .u64 0, .int .u64 0, .int .u64 0, .int .u64 0] 50)
    rwa [show (w.alloc (.cells #[.int .u64 (s0 : Nat), .int .u64 (s1 : Nat), .int .u64 (s2 : Nat), .int .u64 (s3 : Nat), .int .u64 (s4 : Nat), .int .u64 (s5 : Nat), .int .u64 (s6 : Nat), .int .u64 (s7 : Nat)] 50)).heap.size = w.heap.size + 1 by simp] at this
  obtain ⟨_, _, _, e1, hLb, hcap, _, _, _⟩ := hb.open
  cases e1
  have HS0 := toHid hS0
  have HO0 := toHid hO0
  have HK0 := toHid k0
  have HW := toHid hW
  have HB := toHid hb
  have HBD := toHid hbd
  have HT := toHid hT
  have HSD := toHid hsd
  have HN := toHid hn
  clear hW hS0 hO0 k0 hb hbd hT hsd hsl hn
  go_enter Tryd.func43, Tryd.ntmps43
  go_wp2_with fail
  rw [← HW.out]
  go_loopw [5] (fun iv wr => ∃ j ii : Nat, j ≤ M ∧ Hid (ii = 128 * j) ∧ iv = .int .i64 (ii : Int) ∧ Hid (Arr .u64 50 wr w.heap.size (blksM s bs j)) ∧ Hid (Kept (fun b => b = w.heap.size) W wr)) (fun iv _ => n - (intOf iv).toNat)
  case atStart => exact ⟨0, 0, Nat.zero_le _, rfl, rfl, HS0.out, Kept.refl _ _⟩
  case round =>
    obtain ⟨j, ii, hj, HII, rfl, HR, HK⟩ := hrel
    by_cases hjM : j < M
    · have hii := HII.out
      have hMM := HN.out
      have hlt : ii + 128 ≤ n := by omega
      obtain ⟨_, _, _, e1, _, _, _, _, hnum⟩ := HB.out.open
      cases e1
      obtain ⟨yb, yoff, e1, _⟩ := hnum 0 (by omega)
      cases e1
      have hyw : yb < w.heap.size := HB.out.lt (fun e => by have := hLb.out; rw [e] at this; simp at this; omega) yb rfl
      have g1 : (ii : Int) < (n : Int) := by omega
      have g0 : (0 : Int) ≤ (ii : Int) := by omega
      obtain ⟨i2, hi2⟩ : ∃ i2, i2 = ii + 128 := ⟨_, rfl⟩
      have gw : IntKind.i64.wrap ((ii : Int) + 128) = (i2 : Int) := by rw [IntKind.wrap_i64]; omega
      have gc : (i2 : Int) ≤ (cap : Int) := by omega
      have gd : (ii : Int) ≤ (i2 : Int) := by omega
      have ge : i2 - ii = 128 := by omega
      have gf : ¬ cap = ii := by omega
      have gl : ii ≤ i2 := by omega
      have gm : i2 ≤ cap := by omega
      obtain ⟨hbd8, hbl8⟩ := hs_digsM (all := bs) hs HSD.out j
      obtain ⟨x0, x1, x2, x3, x4, x5, x6, x7, hxx⟩ : ∃ x0 x1 x2 x3 x4 x5 x6 x7, blksM s bs j = [x0, x1, x2, x3, x4, x5, x6, x7] := by
        match h : blksM s bs j, hbl8 with
        | [a, b, c, d, e, f, g, h'], _ => exact ⟨a, b, c, d, e, f, g, h', rfl⟩
      have hnx : blksM s bs (j + 1) = blkM [x0, x1, x2, x3, x4, x5, x6, x7] ((bs.drop ii).take 128) := by
        show blkM (blksM s bs j) ((bs.drop (128 * j)).take 128) = _
        rw [hxx, hii]
      obtain ⟨z0, z1, z2, z3, z4, z5, z6, z7, hzz⟩ : ∃ z0 z1 z2 z3 z4 z5 z6 z7, blkM [x0, x1, x2, x3, x4, x5, x6, x7] ((bs.drop ii).take 128) = [z0, z1, z2, z3, z4, z5, z6, z7] := by
        match h : blkM [x0, x1, x2, x3, x4, x5, x6, x7] ((bs.drop ii).take 128), (blkM_digs (s := [x0, x1, x2, x3, x4, x5, x6, x7]) (bs := (bs.drop ii).take 128)).2 with
        | [a, b, c, d, e, f, g, h'], _ => exact ⟨a, b, c, d, e, f, g, h', rfl⟩
      have hRR := HR.out
      rw [hxx] at hRR hbd8
      have kwr : Kept Nought w wr := HK0.out.next HK.out (fun x hx e => by
        have e' : x = w.heap.size := e
        omega)
      have JB : Hid (∀ W', Kept Nought wr W' → Calls Tryd.prog 53 #[.agg #[.int .u64 (x0 : Int), .int .u64 (x1 : Int), .int .u64 (x2 : Int), .int .u64 (x3 : Int), .int .u64 (x4 : Int), .int .u64 (x5 : Int), .int .u64 (x6 : Int), .int .u64 (x7 : Int)], .slice (some ⟨yb, yoff + ii, none⟩) 128 (cap - ii)] W' fun e w' => e = .returned (.tuple #[.agg #[.int .u64 (z0 : Int), .int .u64 (z1 : Int), .int .u64 (z2 : Int), .int .u64 (z3 : Int), .int .u64 (z4 : Int), .int .u64 (z5 : Int), .int .u64 (z6 : Int), .int .u64 (z7 : Int)], .bool true]) ∧ Kept Nought wr w') := fun W' k => by
        have := mBlock (some ⟨yb, yoff + ii, none⟩) (cap - ii) [x0, x1, x2, x3, x4, x5, x6, x7] ((bs.drop ii).take 128) _ rfl W' (HT.out.grew (kwr.trans k)) rfl hbd8 (row_part (HB.out.grew (kwr.trans k)) hlt) ((HBD.out.drop ii).take 128)
        rw [hzz] at this
        refine this.mono ?_
        rintro e w' ⟨rfl, k'⟩
        exact ⟨rfl, k.trans k'⟩
      have HNX : Hid (blksM s bs (j + 1) = [z0, z1, z2, z3, z4, z5, z6, z7]) := hnx.trans hzz
      have HI2 := toHid hi2
      have HRR := toHid hRR
      have c0 := hRR.cell 0 (by simp)
      have c1 := hRR.cell 1 (by simp)
      have c2 := hRR.cell 2 (by simp)
      have c3 := hRR.cell 3 (by simp)
      have c4 := hRR.cell 4 (by simp)
      have c5 := hRR.cell 5 (by simp)
      have c6 := hRR.cell 6 (by simp)
      have c7 := hRR.cell 7 (by simp)
      clear hii hMM hi2 hbd8 hbl8 hxx hnx hzz hRR HR kwr hnum
      go_wp2_with fail
      go_region_with (go_at_call 53; refine (JB.out _ ((Kept.refl _ _).drew)).mono ?_; rintro e w8 ⟨rfl, k8⟩; have hR8 := HRR.out.grew k8; have o0 := hR8.free 0; have o1 := hR8.free 1; have o2 := hR8.free 2; have o3 := hR8.free 3; have o4 := hR8.free 4; have o5 := hR8.free 5; have o6 := hR8.free 6; have o7 := hR8.free 7; have d0 := k8.cellN c0; have d1 := k8.cellN c1; have d2 := k8.cellN c2; have d3 := k8.cellN c3; have d4 := k8.cellN c4; have d5 := k8.cellN c5; have d6 := k8.cellN c6; have d7 := k8.cellN c7)
      all_goals
        go_wp2_with fail
        go_roundw
        case rel => exact ⟨j + 1, ii + 128, by omega, by unfold Hid; have := HII.out; omega, by go_num, by unfold Hid; rw [HNX.out]; exact hR8.put8 rfl z0 z1 z2 z3 z4 z5 z6 z7, (HK.out.next k8 (fun x _ f => f.elim)).next (kept8 w8 w.heap.size (.int .u64 (z0 : Int)) (.int .u64 (z1 : Int)) (.int .u64 (z2 : Int)) (.int .u64 (z3 : Int)) (.int .u64 (z4 : Int)) (.int .u64 (z5 : Int)) (.int .u64 (z6 : Int)) (.int .u64 (z7 : Int))) (fun x _ h => h)⟩
        case measure => simp [intOf]; omega
    · have g1 : ¬ (ii : Int) < (n : Int) := by have := HII.out; have := HN.out; omega
      have hRR := HR.out
      rw [show j = M by omega] at hRR
      have hbl8 := (hs_digsM (all := bs) hs HSD.out M).2
      obtain ⟨x0, x1, x2, x3, x4, x5, x6, x7, hxx⟩ : ∃ x0 x1 x2 x3 x4 x5 x6 x7, blksM s bs M = [x0, x1, x2, x3, x4, x5, x6, x7] := by
        match h : blksM s bs M, hbl8 with
        | [a, b, c, d, e, f, g, h'], _ => exact ⟨a, b, c, d, e, f, g, h', rfl⟩
      rw [hxx] at hRR
      have c0 := hRR.cell 0 (by simp)
      have c1 := hRR.cell 1 (by simp)
      have c2 := hRR.cell 2 (by simp)
      have c3 := hRR.cell 3 (by simp)
      have c4 := hRR.cell 4 (by simp)
      have c5 := hRR.cell 5 (by simp)
      have c6 := hRR.cell 6 (by simp)
      have c7 := hRR.cell 7 (by simp)
      have hOO := HO0.out.kept HK.out (by omega)
      have p0 := hOO.cell 0 (by simp)
      have o0 := hOO.free 0
      have p1 := hOO.cell 1 (by simp)
      have o1 := hOO.free 1
      have p2 := hOO.cell 2 (by simp)
      have o2 := hOO.free 2
      have p3 := hOO.cell 3 (by simp)
      have o3 := hOO.free 3
      have p4 := hOO.cell 4 (by simp)
      have o4 := hOO.free 4
      have p5 := hOO.cell 5 (by simp)
      have o5 := hOO.free 5
      have p6 := hOO.cell 6 (by simp)
      have o6 := hOO.free 6
      have p7 := hOO.cell 7 (by simp)
      have o7 := hOO.free 7
      have hF := hOO.put8 rfl x0 x1 x2 x3 x4 x5 x6 x7
      have y0 := hF.cell 0 (by simp)
      have y1 := hF.cell 1 (by simp)
      have y2 := hF.cell 2 (by simp)
      have y3 := hF.cell 3 (by simp)
      have y4 := hF.cell 4 (by simp)
      have y5 := hF.cell 5 (by simp)
      have y6 := hF.cell 6 (by simp)
      have y7 := hF.cell 7 (by simp)
      have KF := toHid ((HK0.out.next HK.out (fun x hx e => by have e' : x = w.heap.size := e; omega)).next (kept8 wr (w.heap.size + 1) (.int .u64 (x0 : Int)) (.int .u64 (x1 : Int)) (.int .u64 (x2 : Int)) (.int .u64 (x3 : Int)) (.int .u64 (x4 : Int)) (.int .u64 (x5 : Int)) (.int .u64 (x6 : Int)) (.int .u64 (x7 : Int))) (fun x hx e => by have e' : x = w.heap.size + 1 := e; omega))
      have HXX := toHid hxx
      clear hRR hbl8 hxx hOO hF HR HK HS0 HO0 HK0 HB HBD HT
      go_wp2_with fail
      rw [HXX.out]
      exact bodyPost_ret (v := .agg #[.int .u64 (x0 : Int), .int .u64 (x1 : Int), .int .u64 (x2 : Int), .int .u64 (x3 : Int), .int .u64 (x4 : Int), .int .u64 (x5 : Int), .int .u64 (x6 : Int), .int .u64 (x7 : Int)]) (by simp [results, Tryd.results43, go_sem, y0, y1, y2, y3, y4, y5, y6, y7]) rfl ⟨rfl, KF.out⟩

end Go.Proofs.YthnkganmccgaeaaDoor


/- slices.Concat of two rows of bytes, and slices.Grow of nil, which it calls. -/
namespace Go.Proofs.YthnkganmccgaeaaDoor
open Go.RowKit

set_option maxRecDepth 20000 in
set_option maxHeartbeats 2000000 in
/-- slices.Grow of nil: a new row with room. -/
theorem sGrow (n : Nat) (hn0 : 0 < n) (hn : n ≤ 100000000) (w : World) :
    Calls Tryd.prog 33 #[.slice none 0 0, .int .i64 (n : Int)] w fun e w' => ∃ v', e = .returned v' ∧ OwnB w' w.heap.size v' [] ∧ Kept Nought w w' := by
  obtain ⟨i0, hi0, hz0, hz1, hz2⟩ := info_parts Tryd.info8s
  have h0 : ¬ (n : Int) < 0 := by omega
  have h1 : (n : Int) > 0 := by omega
  have hrz := fun ty => Lib.run_append_nil_zeros (P := Tryd.prog) w 22 3 ty 5 i0 (.int .u8 0) .i64 .i64 Tryd.underlying22 Tryd.underlying3 hi0 hz0 n hn0 (by omega) (by omega) (by rw [hz2]; omega)
  have hGn : n ≤ grownCap w n 0 5 := grownCap_ge w _ _ _
  have hGm : grownCap w n 0 5 ≤ maxLen := grownCap_le_maxLen w n 0 5 (by unfold maxLen; omega)
  obtain ⟨G, hG⟩ : ∃ G, G = grownCap w n 0 5 := ⟨_, rfl⟩
  rw [← hG] at hrz hGn hGm
  obtain ⟨cs, hcs⟩ : ∃ cs, cs = Builtin.zeroCells (Value.int .u8 0).cells n ++ Builtin.zeroCells (Value.int .u8 0).cells (G - n) := ⟨_, rfl⟩
  have hsz : cs.size = G := by
    rw [hcs, Array.size_append, size_zeroCells, size_zeroCells]
    show n * 1 + (G - n) * 1 = G
    omega
  rw [← hcs] at hrz
  have HO : Hid (OwnB (w.drew.alloc (.cells cs 5)) w.heap.size (.slice (some ⟨w.heap.size, 0, none⟩) 0 G) []) := by
    refine ⟨rfl, .inr ⟨w.heap.size, G, cs, rfl, Nat.le_refl _, heap_alloc_new w.drew _, Nat.zero_le _, hGm, by omega, ?_⟩⟩
    simp
  have HK : Hid (Kept Nought w (w.drew.alloc (.cells cs 5))) := ((Kept.refl Nought w).drew).alloc _
  have hG63 : G ≤ 9223372036854775807 := by unfold maxLen at hGm; omega
  clear hG hcs hsz hGm
  go_enter Tryd.func33, Tryd.ntmps33
  go_wp2_with (at_builtin; refine Lib.wpList_append_run _ rfl _ _ _ _ rfl _ _ rfl rfl _ _ (hrz _) ?_)
  all_goals
    go_ret
    exact ⟨_, rfl, HO.out, HK.out⟩

/-- The first t of two numbers, added up. -/
def sum2 (n m : Nat) : Nat → Nat
  | 0 => 0
  | 1 => n
  | _ => n + m

/-- The first t of two rows, one behind the other. -/
def cat2 (xs ys : List Nat) : Nat → List Nat
  | 0 => []
  | 1 => xs
  | _ => xs ++ ys

set_option maxRecDepth 20000 in
set_option maxHeartbeats 2000000 in
/-- slices.Concat of two rows. -/
theorem sConcat (lb n m : Nat) (a1 a2 : Option Addr) (c1 c2 : Nat) (xs ys : List Nat) (w : World) (hc0 : w.cell? ⟨lb, 0, none⟩ = some (.slice a1 n c1)) (hc1 : w.cell? ⟨lb, 1, none⟩ = some (.slice a2 m c2)) (hx : Row .u8 w (.slice a1 n c1) xs) (hy : Row .u8 w (.slice a2 m c2) ys) (h0 : 0 < n + m) (hl : n + m ≤ 10000000) :
    Calls Tryd.prog 22 #[.slice (some ⟨lb, 0, none⟩) 2 2] w fun e w' => ∃ v', e = .returned v' ∧ OwnB w' w.heap.size v' (xs ++ ys) ∧ Kept Nought w w' := by
  obtain ⟨_, _, _, e1, hLx, _, _, _, _⟩ := hx.open
  cases e1
  obtain ⟨_, _, _, e1, hLy, _, _, _, _⟩ := hy.open
  cases e1
  obtain ⟨N, hN⟩ : ∃ N, N = n + m := ⟨_, rfl⟩
  have gN : (n : Int) + (m : Int) = (N : Int) := by omega
  have JG := toHid (fun W => sGrow N (by omega) (by omega) W)
  have JC : Hid (∀ W, Kept Nought w W → W.cell? ⟨lb, 0, none⟩ = some (.slice a1 n c1) ∧ W.cell? ⟨lb, 1, none⟩ = some (.slice a2 m c2)) := fun W k => ⟨k.cellN hc0, k.cellN hc1⟩
  have JX : Hid (∀ W, Kept Nought w W → Row .u8 W (.slice a1 n c1) xs) := fun W k => hx.grew k
  have JY : Hid (∀ W, Kept Nought w W → Row .u8 W (.slice a2 m c2) ys) := fun W k => hy.grew k
  have HN := toHid hN
  have gn : ¬ (n : Int) < 0 := by omega
  have gNN : ¬ (N : Int) < 0 := by omega
  have hNb : N ≤ 10000000 := by omega
  clear hx hy hN
  go_enter Tryd.func22, Tryd.ntmps22
  go_wp2_with fail
  go_loopw [3, 11] (fun sv iv wr => ∃ t : Nat, t ≤ 2 ∧ iv = .int .i64 (t : Int) ∧ sv = .int .i64 ((sum2 n m t : Nat) : Int) ∧ Hid (Kept Nought w wr)) (fun _ iv _ => 2 - (intOf iv).toNat)
  case atStart => exact ⟨0, by omega, rfl, rfl, Kept.refl _ _⟩
  case round =>
    obtain ⟨t, ht, rfl, rfl, HK0⟩ := hrel
    obtain ⟨d0, d1⟩ := JC.out _ HK0.out
    have h3 : t = 0 ∨ t = 1 ∨ t = 2 := by omega
    rcases h3 with rfl | rfl | rfl
    · rw [show sum2 n m 0 = 0 from rfl]
      go_wp2_with fail
      go_roundw
      case rel => exact ⟨1, by omega, by go_num, by first | rfl | simp [sum2], HK0.out⟩
      case measure => simp [intOf]
    · rw [show sum2 n m 1 = n from rfl]
      go_wp2_with fail
      go_roundw
      case rel => exact ⟨2, by omega, by go_num, by first | rfl | (rw [show sum2 n m 2 = N from HN.out.symm]), HK0.out⟩
      case measure => simp [intOf]
    · rw [show sum2 n m 2 = N from HN.out.symm]
      go_wp2_with fail
      refine (JG.out _).mono ?_
      rintro e w1 ⟨v1, rfl, o1, k1⟩
      obtain ⟨vo1, vc1, rfl⟩ := own_slice o1
      have HO1 := toHid (OwnB.base o1 HK0.out.size)
      have HK1 := toHid (HK0.out.trans k1)
      clear o1 k1 hc0 hc1 d0 d1 HK0
      go_wp2_with fail
      go_loopw [6, 27] (fun ov iv wr => ∃ (t : Nat) (ao : Option Addr) (cc : Nat), t ≤ 2 ∧ iv = .int .i64 (t : Int) ∧ ov = .slice ao (sum2 n m t) cc ∧ Hid (OwnB wr w.heap.size (.slice ao (sum2 n m t) cc) (cat2 xs ys t)) ∧ Hid (Kept Nought w wr)) (fun _ iv _ => 2 - (intOf iv).toNat)
      case atStart => exact ⟨0, _, _, by omega, rfl, rfl, HO1.out, HK1.out⟩
      case round =>
        obtain ⟨t, ao, cc, ht, rfl, rfl, HO, HK⟩ := hrel
        have h3 : t = 0 ∨ t = 1 ∨ t = 2 := by omega
        rcases h3 with rfl | rfl | rfl
        · rw [show sum2 n m 0 = 0 from rfl, show cat2 xs ys 0 = [] from rfl] at HO
          rw [show sum2 n m 0 = 0 from rfl]
          obtain ⟨d0, d1⟩ := JC.out _ HK.out
          have hsz := HK.out.size
          go_wp2_with (at_builtin; refine wpList_append_row rfl _ _ rfl w.heap.size _ [] rfl HO.out _ rfl xs (JX.out _ HK.out) ?qc ?qd ?_)
          case qc => have := hLx.out; simp only [List.length_nil]; omega
          case qd => exact hsz
          intro v4 w4 ho4 hg4
          have k4 : Kept Nought w w4 := HK.out.grown hg4 (fun k hk hlt => by have := (HO.out.lt k hk).1; omega)
          have hl4 : xs.length = n := hLx.out
          obtain ⟨vo, vc, rfl⟩ := own_slice ho4
          rw [hl4] at ho4 ⊢
          have HO4 : Hid (OwnB w4 w.heap.size (.slice vo n vc) xs) := OwnB.of ho4
          have HK4 := toHid k4
          clear ho4 hg4 k4 HO HK d0 d1 hsz hl4
          go_wp2_with fail
          go_roundw
          case rel => exact ⟨1, _, _, by omega, by go_num, rfl, HO4.out, HK4.out⟩
          case measure => simp [intOf]
        · rw [show sum2 n m 1 = n from rfl, show cat2 xs ys 1 = xs from rfl] at HO
          rw [show sum2 n m 1 = n from rfl]
          obtain ⟨d0, d1⟩ := JC.out _ HK.out
          have hsz := HK.out.size
          go_wp2_with (at_builtin; refine wpList_append_row rfl _ _ rfl w.heap.size _ xs rfl HO.out _ rfl ys (JY.out _ HK.out) ?qc ?qd ?_)
          case qc => have := hLx.out; have := hLy.out; omega
          case qd => exact hsz
          intro v4 w4 ho4 hg4
          have k4 : Kept Nought w w4 := HK.out.grown hg4 (fun k hk hlt => by have := (HO.out.lt k hk).1; omega)
          have hl4 : (xs ++ ys).length = n + m := by rw [List.length_append, hLx.out, hLy.out]
          obtain ⟨vo, vc, rfl⟩ := own_slice ho4
          rw [hl4] at ho4 ⊢
          have HO4 : Hid (OwnB w4 w.heap.size (.slice vo (n + m) vc) (xs ++ ys)) := OwnB.of ho4
          have HK4 := toHid k4
          clear ho4 hg4 k4 HO HK d0 d1 hsz hl4
          go_wp2_with fail
          go_roundw
          case rel => exact ⟨2, _, _, by omega, by go_num, rfl, HO4.out, HK4.out⟩
          case measure => simp [intOf]
        · go_wp2_with fail
          go_ret
          exact ⟨_, rfl, HO.out, HK.out⟩

end Go.Proofs.YthnkganmccgaeaaDoor

