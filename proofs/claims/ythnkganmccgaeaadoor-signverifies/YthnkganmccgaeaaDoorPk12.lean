/- Put together of: Sha5 Sha6. -/
import Derived.Test.YthnkganmccgaeaaDoorPk4
import Derived.Test.YthnkganmccgaeaaDoorPk11

/- The plain side of layer 11: Block of what is none; Sum. -/
namespace Go.Proofs.YthnkganmccgaeaaDoor
open Go.RowKit

/-- So many blocks. -/
def blksN (all : List Nat) : Nat → List Nat
  | 0 => H256
  | i + 1 => blkN (blksN all i) ((all.drop (64 * i)).take 64)

/-- A word's four bytes, the highest ahead. -/
def b4N (z : Nat) : List Nat := [z / 16777216 % 256, z / 65536 % 256, z / 256 % 256, z % 256]

/-- A state's bytes. -/
def outN (s : List Nat) : Nat → List Nat
  | 0 => []
  | i + 1 => outN s i ++ b4N (s.getD i 0)

/-- The hash. -/
def sumN (bs : List Nat) : List Nat := outN (blksN (bs ++ padN bs.length) ((bs ++ padN bs.length).length / 64)) 8

theorem padN_length (n : Nat) : (padN n).length = 1 + padZ n + 8 := by
  unfold padN padL
  simp
  omega

theorem all_blocks (n : Nat) : (n + (padN n).length) % 64 = 0 := by
  rw [padN_length]
  unfold padZ
  omega

theorem padN_digs (n : Nat) : Digs 256 (padN n) := by
  unfold padN padL
  intro d hd
  simp only [List.mem_append, List.mem_singleton, List.mem_replicate, List.mem_map] at hd
  rcases hd with (rfl | ⟨_, rfl⟩) | ⟨i, _, rfl⟩
  · omega
  · omega
  · exact Nat.mod_lt _ (by omega)

theorem blkN_digs {s bs : List Nat} : Digs 4294967296 (blkN s bs) ∧ (blkN s bs).length = 8 := by
  constructor
  · unfold blkN
    intro d hd
    obtain ⟨i, _, rfl⟩ := List.mem_map.1 hd
    exact Nat.mod_lt _ (by omega)
  · unfold blkN
    simp

theorem H256_digs : Digs 4294967296 H256 ∧ H256.length = 8 := by unfold Digs H256; decide

theorem blksN_digs {all : List Nat} : ∀ i, Digs 4294967296 (blksN all i) ∧ (blksN all i).length = 8
  | 0 => H256_digs
  | _ + 1 => blkN_digs

end Go.Proofs.YthnkganmccgaeaaDoor


/- The plain side of layer 11: Sum. -/
namespace Go.Proofs.YthnkganmccgaeaaDoor
open Go.RowKit

set_option maxRecDepth 20000 in
set_option maxHeartbeats 800000 in
/-- Sum. -/
theorem r11Sum (ad : Addr) (L cap : Nat) (bs : List Nat) (w : World) (hb : Row .u8 w (.slice (some ad) L cap) bs) (hbd : Digs 256 bs) (hL : L ≤ 1000000) :
    Calls Tryd.prog 24 #[.slice (some ad) L cap] w fun e w' => ∃ v', e = .returned v' ∧ OwnB w' w.heap.size v' (sumN bs) ∧ Kept Nought w w' := by
  obtain ⟨i0, hi0, hz0, hz1, hz2⟩ := info_parts Tryd.info8s
  obtain ⟨_, _, _, e1, hLb, _, _, _, _⟩ := hb.open
  cases e1
  have HB := toHid hb
  have HBD := toHid hbd
  have JP : Hid (∀ W, Calls Tryd.prog 36 #[.int .i64 (L : Int)] W fun e w' => ∃ v', e = .returned v' ∧ Row .u8 w' v' (padN L) ∧ (∀ b, v'.ownBlock = some b → W.heap.size ≤ b) ∧ Kept Nought W w') := fun W => r11Pad (L : Int) L (by omega) (by simp) W
  have hpl := padN_length L
  have hpz : padZ L < 64 := Nat.mod_lt _ (by omega)
  have h1len : ∀ j u, (bs.map fun z : Nat => Value.int .u8 (z : Int))[j]? = some u → w.cell? (ad.add j) = some u := news_row hb (Kept.refl _ _)
  have HN1 := toHid h1len
  have HO1 := toHid (ones8 .u8 bs)
  clear hb hbd h1len
  go_enter Tryd.func24, Tryd.ntmps24
  go_wp2_with (at_builtin; refine wpList_append_own _ rfl _ _ 22 rfl w.heap.size 5 i0 (.int .u8 0) 1 1 Tryd.underlying22 hi0 hz0 hz1 hz2 rfl (by decide) _ _ _ rfl (World.ownsRow_nil w w.heap.size _ _) ad L cap (bs.map fun z : Nat => Value.int .u8 (z : Int)) rfl ?qc1 ?qc2 ?qc3 ?qc4 ?qc5 ?qc6 ?_)
  case qc1 => rw [List.length_map, hLb.out]; simp
  case qc2 => exact HN1.out
  case qc3 => exact HO1.out
  case qc4 => unfold maxLen; omega
  case qc5 => omega
  case qc6 => simp
  intro v1 w1 hown hgrow hnil
  have k1 : Kept Nought w w1 := (Kept.refl Nought w).grown hgrow (fun k hk hlt => by cases hk)
  obtain ⟨xo, xc, rfl⟩ := own_slice hown
  have HOW := toHid hown
  have HK1 := toHid k1
  clear hown hgrow hnil k1
  go_wp2_with fail
  refine (JP.out _).mono ?_
  rintro e w2 ⟨v2, rfl, hr2, f2, k2⟩
  obtain ⟨po, pn, pc, rfl, hLp, _, _, _, hnp⟩ := hr2.open
  obtain rfl : pn = 1 + padZ L + 8 := hLp.out.symm.trans hpl
  obtain ⟨pb, poff, e2, _⟩ := hnp 0 (by omega)
  cases e2
  have HR2 := toHid (news_row hr2 (Kept.refl _ _))
  have HF2 := toHid f2
  have HK2 := toHid k2
  have hown2 := k2.own HOW.out (fun _ _ f => f)
  have HO2 := toHid (ones8 .u8 (padN L))
  clear hr2 f2 k2 hnp JP
  generalize hpn : 1 + padZ L + 8 = pn at *
  go_wp2_with (at_builtin; refine wpList_append_own _ rfl _ _ 22 rfl w.heap.size 5 i0 (.int .u8 0) 1 1 Tryd.underlying22 hi0 hz0 hz1 hz2 rfl (by decide) _ _ _ rfl hown2 ⟨pb, poff, none⟩ pn pc ((padN L).map fun z : Nat => Value.int .u8 (z : Int)) rfl ?qd1 ?qd2 ?qd3 ?qd4 ?qd5 ?qd6 ?_)
  case qd1 => rw [List.length_map, hLp.out]; simp
  case qd2 => exact HR2.out
  case qd3 => exact HO2.out
  case qd4 => unfold maxLen; omega
  case qd5 => omega
  case qd6 => exact (HK1.out.trans HK2.out).size
  intro v3 w3 hown3 hgrow3 hnil3
  have kA : Kept Nought w w3 := (HK1.out.trans HK2.out).grown hgrow3 (fun k hk hlt => by have := (hown2.lt k hk).1; omega)
  rw [← List.map_append] at hown3
  obtain ⟨all, hall⟩ : ∃ all, all = bs ++ padN L := ⟨_, rfl⟩
  rw [← hall] at hown3
  obtain ⟨T, hT⟩ : ∃ T, T = L + pn := ⟨_, rfl⟩
  have hTl : all.length = T := by rw [hall, List.length_append, hLb.out, hLp.out, hT]
  have hTm : T % 64 = 0 := by
    have := all_blocks L
    rw [hLp.out] at this
    rw [hT]
    exact this
  have hTb : T ≤ 2000000 := by omega
  have hTp : 0 < T := by omega
  have hdall : Digs 256 all := by rw [hall]; exact HBD.out.append (padN_digs L)
  have hrow : Row .u8 w3 v3 all := Row.of_own (base := w.heap.size) (e := 5) (by rw [hTl, hT]; exact hown3)
  obtain ⟨yo, yn, yc, rfl, hLy, hyc, hym, _, hny⟩ := hrow.open
  obtain rfl : yn = T := hLy.out.symm.trans hTl
  obtain ⟨yb, yoff, e3, _⟩ := hny 0 (by omega)
  cases e3
  obtain ⟨M, hM⟩ : ∃ M, yn = 64 * M := ⟨yn / 64, by omega⟩
  have HALL := toHid hall
  have HM := toHid hM
  have HROW := toHid hrow
  have HKA := toHid kA
  have HDA := toHid hdall
  have hSt := r11Start w3
  rw [show (H256.map fun z => Value.int .u32 (z : Nat)).toArray = #[.int .u32 1779033703, .int .u32 3144134277, .int .u32 1013904242, .int .u32 2773480762, .int .u32 1359893119, .int .u32 2600822924, .int .u32 528734635, .int .u32 1541459225] from rfl] at hSt
  clear hown2 hown3 hgrow3 hnil3 hall hrow kA hdall hny hT hM HOW HK1 HK2 HR2 HF2 HO2 HN1 HO1 hpl
  go_wp2_with fail
  refine hSt.mono ?_
  rintro e w4 ⟨rfl, k4⟩
  clear hSt
  go_wp2_with fail
  obtain ⟨R, hR⟩ : ∃ R, R = w4.heap.size := ⟨_, rfl⟩
  obtain ⟨W5, hW5⟩ : ∃ W5, W5 = w4.alloc (.cells #[.int .u32 1779033703, .int .u32 3144134277, .int .u32 1013904242, .int .u32 2773480762, .int .u32 1359893119, .int .u32 2600822924, .int .u32 528734635, .int .u32 1541459225] 45) := ⟨_, rfl⟩
  have k5 : Kept Nought w3 W5 := by rw [hW5]; exact k4.alloc _
  have hR5 : Arr .u32 45 W5 R H256 := by rw [hW5, hR]; exact heap_alloc_new _ _
  have hRg : w3.heap.size ≤ R := by rw [hR]; exact k4.size
  have hyR : yb < R := by
    have := HROW.out.lt (fun e => by rw [e] at hTl; simp at hTl; omega) yb rfl
    omega
  rw [← hW5, ← hR]
  have HR5 := toHid hR5
  have HK5 := toHid k5
  clear hR hW5 k4 k5 hR5
  go_loopw [5] (fun iv wr => ∃ j ii : Nat, j ≤ M ∧ Hid (ii = 64 * j) ∧ iv = .int .i64 (ii : Int) ∧ Hid (Arr .u32 45 wr R (blksN all j)) ∧ Hid (Kept (fun b => b = R) W5 wr)) (fun iv _ => yn - (intOf iv).toNat)
  case atStart => exact ⟨0, 0, Nat.zero_le _, rfl, rfl, HR5.out, Kept.refl _ _⟩
  case round =>
    obtain ⟨j, ii, hj, HII, rfl, HR, HK⟩ := hrel
    by_cases hjM : j < M
    · have hii := HII.out
      have hMM := HM.out
      have hlt : ii + 64 ≤ yn := by omega
      have g1 : (ii : Int) < (yn : Int) := by omega
      have g0 : (0 : Int) ≤ (ii : Int) := by omega
      obtain ⟨i2, hi2⟩ : ∃ i2, i2 = ii + 64 := ⟨_, rfl⟩
      have gw : IntKind.i64.wrap ((ii : Int) + 64) = (i2 : Int) := by rw [IntKind.wrap_i64]; omega
      have gc : (i2 : Int) ≤ (yc : Int) := by omega
      have gd : (ii : Int) ≤ (i2 : Int) := by omega
      have ge : i2 - ii = 64 := by omega
      have gf : ¬ yc = ii := by omega
      have gl : ii ≤ i2 := by omega
      have gm : i2 ≤ yc := by omega
      obtain ⟨hbd8, hbl8⟩ := blksN_digs (all := all) j
      obtain ⟨x0, x1, x2, x3, x4, x5, x6, x7, hxx⟩ : ∃ x0 x1 x2 x3 x4 x5 x6 x7, blksN all j = [x0, x1, x2, x3, x4, x5, x6, x7] := by
        match h : blksN all j, hbl8 with
        | [a, b, c, d, e, f, g, h'], _ => exact ⟨a, b, c, d, e, f, g, h', rfl⟩
      have hnx : blksN all (j + 1) = blkN [x0, x1, x2, x3, x4, x5, x6, x7] ((all.drop ii).take 64) := by
        show blkN (blksN all j) ((all.drop (64 * j)).take 64) = _
        rw [hxx, hii]
      obtain ⟨z0, z1, z2, z3, z4, z5, z6, z7, hzz⟩ : ∃ z0 z1 z2 z3 z4 z5 z6 z7, blkN [x0, x1, x2, x3, x4, x5, x6, x7] ((all.drop ii).take 64) = [z0, z1, z2, z3, z4, z5, z6, z7] := by
        match h : blkN [x0, x1, x2, x3, x4, x5, x6, x7] ((all.drop ii).take 64), (blkN_digs (s := [x0, x1, x2, x3, x4, x5, x6, x7]) (bs := (all.drop ii).take 64)).2 with
        | [a, b, c, d, e, f, g, h'], _ => exact ⟨a, b, c, d, e, f, g, h', rfl⟩
      have hRR := HR.out
      rw [hxx] at hRR hbd8
      have JB : Hid (∀ W', Kept Nought wr W' → Calls Tryd.prog 38 #[.agg #[.int .u32 (x0 : Int), .int .u32 (x1 : Int), .int .u32 (x2 : Int), .int .u32 (x3 : Int), .int .u32 (x4 : Int), .int .u32 (x5 : Int), .int .u32 (x6 : Int), .int .u32 (x7 : Int)], .slice (some ⟨yb, yoff + ii, none⟩) 64 (yc - ii)] W' fun e w' => e = .returned (.tuple #[.agg #[.int .u32 (z0 : Int), .int .u32 (z1 : Int), .int .u32 (z2 : Int), .int .u32 (z3 : Int), .int .u32 (z4 : Int), .int .u32 (z5 : Int), .int .u32 (z6 : Int), .int .u32 (z7 : Int)], .bool true]) ∧ Kept Nought wr w') := fun W' k => by
        have hrw := ((((HROW.out.grew HK5.out).kept HK.out (fun b hb e => by
          cases hb
          have e' : yb = R := e
          omega)).grew k))
        have := r11Block (some ⟨yb, yoff + ii, none⟩) (yc - ii) [x0, x1, x2, x3, x4, x5, x6, x7] ((all.drop ii).take 64) _ rfl W' rfl hbd8 (row_part hrw hlt) ((HDA.out.drop ii).take 64)
        rw [hzz] at this
        refine this.mono ?_
        rintro e w' ⟨rfl, k'⟩
        exact ⟨rfl, k.trans k'⟩
      have HN : Hid (blksN all (j + 1) = [z0, z1, z2, z3, z4, z5, z6, z7]) := hnx.trans hzz
      have HI2 := toHid hi2
      have c0 := hRR.cell 0 (by simp)
      have c1 := hRR.cell 1 (by simp)
      have c2 := hRR.cell 2 (by simp)
      have c3 := hRR.cell 3 (by simp)
      have c4 := hRR.cell 4 (by simp)
      have c5 := hRR.cell 5 (by simp)
      have c6 := hRR.cell 6 (by simp)
      have c7 := hRR.cell 7 (by simp)
      have HRR := toHid hRR
      clear hii hMM hi2 hbd8 hbl8 hxx hnx hzz hRR HR
      go_wp2_with fail
      go_region_with (go_at_call 38; refine (JB.out _ ((Kept.refl _ _).drew)).mono ?_; rintro e w8 ⟨rfl, k8⟩; have hR8 := HRR.out.grew k8; have o0 := hR8.free 0; have o1 := hR8.free 1; have o2 := hR8.free 2; have o3 := hR8.free 3; have o4 := hR8.free 4; have o5 := hR8.free 5; have o6 := hR8.free 6; have o7 := hR8.free 7; have d0 := k8.cellN c0; have d1 := k8.cellN c1; have d2 := k8.cellN c2; have d3 := k8.cellN c3; have d4 := k8.cellN c4; have d5 := k8.cellN c5; have d6 := k8.cellN c6; have d7 := k8.cellN c7)
      all_goals
        go_wp2_with fail
        go_roundw
        case rel => exact ⟨j + 1, ii + 64, by omega, by unfold Hid; have := HII.out; omega, by go_num, by unfold Hid; rw [HN.out]; exact hR8.put8 rfl z0 z1 z2 z3 z4 z5 z6 z7, (HK.out.next k8 (fun x _ f => f.elim)).next (kept8 w8 R (.int .u32 (z0 : Int)) (.int .u32 (z1 : Int)) (.int .u32 (z2 : Int)) (.int .u32 (z3 : Int)) (.int .u32 (z4 : Int)) (.int .u32 (z5 : Int)) (.int .u32 (z6 : Int)) (.int .u32 (z7 : Int))) (fun x _ h => h)⟩
        case measure => simp [intOf]; omega
    · have g1 : ¬ (ii : Int) < (yn : Int) := by have := HII.out; have := HM.out; omega
      obtain ⟨st, hst⟩ : ∃ st, st = blksN all M := ⟨_, rfl⟩
      have hRR := HR.out
      rw [show j = M by omega, ← hst] at hRR
      obtain ⟨hsd8, hsl8⟩ := blksN_digs (all := all) M
      rw [← hst] at hsd8 hsl8
      have HSum : Hid (sumN bs = outN st 8) := by
        unfold Hid sumN
        rw [hLb.out, ← HALL.out, hTl, HM.out, Nat.mul_div_cancel_left _ (by omega), hst]
      obtain ⟨x0, x1, x2, x3, x4, x5, x6, x7, hxx⟩ : ∃ x0 x1 x2 x3 x4 x5 x6 x7, st = [x0, x1, x2, x3, x4, x5, x6, x7] := by
        match st, hsl8 with
        | [a, b, c, d, e, f, g, h'], _ => exact ⟨a, b, c, d, e, f, g, h', rfl⟩
      rw [hxx] at hRR
      have c0 := hRR.cell 0 (by simp)
      have c1 := hRR.cell 1 (by simp)
      have c2 := hRR.cell 2 (by simp)
      have c3 := hRR.cell 3 (by simp)
      have c4 := hRR.cell 4 (by simp)
      have c5 := hRR.cell 5 (by simp)
      have c6 := hRR.cell 6 (by simp)
      have c7 := hRR.cell 7 (by simp)
      have KW : Kept Nought w wr := (HKA.out.trans HK5.out).next HK.out (fun x hx e => by
        have e' : x = R := e
        have := HKA.out.size
        omega)
      have HKW := toHid KW
      have HXX := toHid hxx
      have hwr : w.heap.size ≤ wr.heap.size := KW.size
      clear hRR hst hxx HR HK HR5 HK5 HROW HALL HM HII KW HDA HKA HB HBD
      go_wp2_with fail
      go_loopw [6, 33] (fun out iv wr2 => ∃ (i n4 : Nat) (a2 : Option Addr) (c2' : Nat), i ≤ 8 ∧ Hid (n4 = 4 * i) ∧ iv = .int .i64 (i : Int) ∧ out = .slice a2 n4 c2' ∧ Hid (OwnN .u8 5 wr2 w.heap.size (.slice a2 n4 c2') n4 (outN st i)) ∧ Hid (Kept Nought w wr2)) (fun _ iv _ => 8 - (intOf iv).toNat)
      case atStart => exact ⟨0, 0, none, 0, Nat.zero_le _, rfl, rfl, rfl, World.ownsRow_nil _ _ _ _, HKW.out⟩
      case round =>
        obtain ⟨i, n4, a2, c2', hi, HN4, rfl, rfl, HO, HKK⟩ := hrel
        by_cases hi8 : i < 8
        · have y1 : (i : Int) < 8 := by omega
          have y0 : (0 : Int) ≤ (i : Int) := by omega
          have hn4 : n4 ≤ 28 := by have := HN4.out; omega
          clear c0 c1 c2 c3 c4 c5 c6 c7
          obtain ⟨z, hz⟩ : ∃ z, z = st.getD i 0 := ⟨_, rfl⟩
          have hzb : z < 4294967296 := by rw [hz]; exact hsd8.getD (by omega) _
          have hidx : ∀ W, Sem.run Tryd.prog (Instr.index 45 (.agg #[.int .u32 (x0 : Int), .int .u32 (x1 : Int), .int .u32 (x2 : Int), .int .u32 (x3 : Int), .int .u32 (x4 : Int), .int .u32 (x5 : Int), .int .u32 (x6 : Int), .int .u32 (x7 : Int)]) (.int .i64 (i : Int))) W = .ok (.int .u32 (z : Int)) W := fun W => by
            have hz' := hz
            rw [HXX.out] at hz'
            have h8 : i = 0 ∨ i = 1 ∨ i = 2 ∨ i = 3 ∨ i = 4 ∨ i = 5 ∨ i = 6 ∨ i = 7 := by omega
            rcases h8 with rfl | rfl | rfl | rfl | rfl | rfl | rfl | rfl
            all_goals
              subst hz'
              first | rfl | (change _ = _; kernel_rfl)
          obtain ⟨e0, he0⟩ : ∃ e, e = z / 16777216 % 256 := ⟨_, rfl⟩
          obtain ⟨e1, he1⟩ : ∃ e, e = z / 65536 % 256 := ⟨_, rfl⟩
          obtain ⟨e2, he2⟩ : ∃ e, e = z / 256 % 256 := ⟨_, rfl⟩
          obtain ⟨e3, he3⟩ : ∃ e, e = z % 256 := ⟨_, rfl⟩
          have f0 : (z : Int) / 16777216 = (e0 : Int) := by omega
          have f1 : (z : Int) / 65536 % 256 = (e1 : Int) := by omega
          have f2 : (z : Int) / 256 % 256 = (e2 : Int) := by omega
          have f3 : (z : Int) % 256 = (e3 : Int) := by omega
          have HN : Hid (outN st (i + 1) = outN st i ++ [e0, e1, e2, e3]) := by
            unfold Hid
            show outN st i ++ b4N (st.getD i 0) = _
            unfold b4N
            rw [← hz, ← he0, ← he1, ← he2, ← he3]
          have ho := HO.out
          have hkp := HKK.out
          clear hz he0 he1 he2 he3
          go_wp2_with (at_builtin; refine wpList_append_lies _ rfl _ _ 22 rfl w.heap.size 5 i0 _ 1 1 Tryd.underlying22 hi0 hz0 hz1 hz2 rfl (by omega) _ _ _ rfl (ho.alloc _) ⟨wr.heap.size, 0, none⟩ 4 4 [.int .u8 (e0 : Int), .int .u8 (e1 : Int), .int .u8 (e2 : Int), .int .u8 (e3 : Int)] rfl rfl (World.news_of_block (cs := #[.int .u8 (e0 : Int), .int .u8 (e1 : Int), .int .u8 (e2 : Int), .int .u8 (e3 : Int)]) (t := 5) (fr := (0, 0)) (Go.heap_alloc_new wr _)) (by simp [Value.oneCell']) (by omega) (by unfold maxLen; omega) (by omega) (by have := hkp.size; simp; omega) (wr.heap.size + 1) (by simp) ?_; intro gg c' w4' ho4 hg hat hgl)
          have hk5 : Kept Nought w w4' := (hkp.alloc _).grown hg (fun b hb hlt => by have := (ho.lt b hb).1; omega)
          go_wp2_with fail
          go_roundw
          case rel => exact ⟨i + 1, n4 + 4, _, _, by omega, by unfold Hid; have := HN4.out; omega, by go_num, rfl, by unfold Hid OwnN; rw [HN.out, List.map_append]; exact ho4, hk5⟩
          case measure => simp [intOf]; omega
        · have y1 : ¬ (i : Int) < 8 := by omega
          have ho := HO.out
          have hn4 := HN4.out
          rw [show i = 8 by omega] at ho
          have hrow : OwnB wr w.heap.size (.slice a2 n4 c2') (sumN bs) := by
            rw [HSum.out]
            exact OwnB.of ho
          have HRO := toHid hrow
          clear ho hn4 hrow
          go_wp2_with fail
          go_ret
          exact ⟨_, rfl, HRO.out, HKK.out⟩

end Go.Proofs.YthnkganmccgaeaaDoor

