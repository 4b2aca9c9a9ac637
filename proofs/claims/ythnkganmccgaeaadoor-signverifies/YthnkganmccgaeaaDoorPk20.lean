/- Put together of: Sha7 Shy1 Cut0 Cat2. -/
import Derived.Test.YthnkganmccgaeaaDoorPk4
import Derived.Test.YthnkganmccgaeaaDoorPk9
import Derived.Test.YthnkganmccgaeaaDoorPk12
import Derived.Test.YthnkganmccgaeaaDoorPk14
import Derived.Test.YthnkganmccgaeaaDoorPk19
import Derived.Lib.SlBytesConst
import Derived.ChangeKeysEq

/- The plain side of layer 11: Sum of no slice. -/
namespace Go.Proofs.YthnkganmccgaeaaDoor
open Go.RowKit

set_option maxRecDepth 20000 in
set_option maxHeartbeats 800000 in
/-- Sum of no slice. -/
theorem r11Sum0 (w : World) :
    Calls Tryd.prog 24 #[.slice none 0 0] w fun e w' => ∃ v', e = .returned v' ∧ OwnB w' w.heap.size v' (sumN []) ∧ Kept Nought w w' := by
  obtain ⟨i0, hi0, hz0, hz1, hz2⟩ := info_parts Tryd.info8s
  obtain ⟨L, hL0⟩ : ∃ L, L = 0 := ⟨_, rfl⟩
  obtain ⟨bs, hbs⟩ : ∃ bs : List Nat, bs = [] := ⟨_, rfl⟩
  rw [← hbs]
  have hLb : Hid (bs.length = L) := by unfold Hid; rw [hbs, hL0]; rfl
  have HBD : Hid (Digs 256 bs) := by unfold Hid; rw [hbs]; exact Digs.nil _
  have JP : Hid (∀ W, Calls Tryd.prog 36 #[.int .i64 0] W fun e w' => ∃ v', e = .returned v' ∧ Row .u8 w' v' (padN L) ∧ (∀ b, v'.ownBlock = some b → W.heap.size ≤ b) ∧ Kept Nought W w') := fun W => by rw [hL0]; exact r11Pad 0 0 (by omega) (by simp) W
  have hpl := padN_length L
  have hpz : padZ L < 64 := Nat.mod_lt _ (by omega)
  have hL : L ≤ 1000000 := by omega
  have HOW : Hid (OwnN .u8 5 w w.heap.size (.slice none 0 0) 0 bs) := by unfold Hid; rw [hbs]; exact World.ownsRow_nil _ _ _ _
  have HK1 := toHid (Kept.refl Nought w)
  have HL0 := toHid hL0
  clear hL0 hbs
  go_enter Tryd.func24, Tryd.ntmps24
  go_wp2_with fail
  refine (JP.out _).mono ?_
  rintro e w2 ⟨v2, rfl, hr2, f2, k2⟩
  obtain ⟨po, pn, pc, rfl, hLp, _, _, _, hnp⟩ := hr2.open
  obtain rfl : pn = 1 + padZ L + 8 := hLp.out.symm.trans hpl
  obtain ⟨pb, poff, e2, _⟩ := hnp 0 (by omega)
  cases e2
  have HR2 := toHid (news_row hr2 (Kept.refl _ _))
  have HF2 := toHid f2
  have HK2 := toHid k2
  have hown2 := k2.own HOW.out (fun _ _ f => f)
  have HO2 := toHid (ones8 .u8 (padN L))
  clear hr2 f2 k2 hnp JP
  generalize hpn : 1 + padZ L + 8 = pn at *
  go_wp2_with (at_builtin; refine wpList_append_own _ rfl _ _ 22 rfl w.heap.size 5 i0 (.int .u8 0) 1 1 Tryd.underlying22 hi0 hz0 hz1 hz2 rfl (by decide) _ _ _ rfl hown2 ⟨pb, poff, none⟩ pn pc ((padN L).map fun z : Nat => Value.int .u8 (z : Int)) rfl ?qd1 ?qd2 ?qd3 ?qd4 ?qd5 ?qd6 ?_)
  case qd1 => rw [List.length_map, hLp.out]; simp
  case qd2 => exact HR2.out
  case qd3 => exact HO2.out
  case qd4 => unfold maxLen; omega
  case qd5 => omega
  case qd6 => exact (HK1.out.trans HK2.out).size
  intro v3 w3 hown3 hgrow3 hnil3
  have kA : Kept Nought w w3 := (HK1.out.trans HK2.out).grown hgrow3 (fun k hk hlt => by have := (hown2.lt k hk).1; omega)
  rw [← List.map_append] at hown3
  obtain ⟨all, hall⟩ : ∃ all, all = bs ++ padN L := ⟨_, rfl⟩
  rw [← hall] at hown3
  obtain ⟨T, hT⟩ : ∃ T, T = L + pn := ⟨_, rfl⟩
  have hTl : all.length = T := by rw [hall, List.length_append, hLb.out, hLp.out, hT]
  have hTm : T % 64 = 0 := by
    have := all_blocks L
    rw [hLp.out] at this
    rw [hT]
    exact this
  have hTb : T ≤ 2000000 := by omega
  have hTp : 0 < T := by omega
  have hdall : Digs 256 all := by rw [hall]; exact HBD.out.append (padN_digs L)
  have hrow : Row .u8 w3 v3 all := Row.of_own (base := w.heap.size) (e := 5) (by rw [hTl, hT, HL0.out, Nat.zero_add]; exact hown3)
  obtain ⟨yo, yn, yc, rfl, hLy, hyc, hym, _, hny⟩ := hrow.open
  obtain rfl : yn = T := hLy.out.symm.trans hTl
  obtain ⟨yb, yoff, e3, _⟩ := hny 0 (by omega)
  cases e3
  obtain ⟨M, hM⟩ : ∃ M, yn = 64 * M := ⟨yn / 64, by omega⟩
  have HALL := toHid hall
  have HM := toHid hM
  have HROW := toHid hrow
  have HKA := toHid kA
  have HDA := toHid hdall
  have hSt := r11Start w3
  rw [show (H256.map fun z => Value.int .u32 (z : Nat)).toArray = #[.int .u32 1779033703, .int .u32 3144134277, .int .u32 1013904242, .int .u32 2773480762, .int .u32 1359893119, .int .u32 2600822924, .int .u32 528734635, .int .u32 1541459225] from rfl] at hSt
  clear hown2 hown3 hgrow3 hnil3 hall hrow kA hdall hny hT hM HOW HK1 HK2 HR2 HF2 HO2 hpl
  go_wp2_with fail
  refine hSt.mono ?_
  rintro e w4 ⟨rfl, k4⟩
  clear hSt
  go_wp2_with fail
  obtain ⟨R, hR⟩ : ∃ R, R = w4.heap.size := ⟨_, rfl⟩
  obtain ⟨W5, hW5⟩ : ∃ W5, W5 = w4.alloc (.cells #[.int .u32 1779033703, .int .u32 3144134277, .int .u32 1013904242, .int .u32 2773480762, .int .u32 1359893119, .int .u32 2600822924, .int .u32 528734635, .int .u32 1541459225] 45) := ⟨_, rfl⟩
  have k5 : Kept Nought w3 W5 := by rw [hW5]; exact k4.alloc _
  have hR5 : Arr .u32 45 W5 R H256 := by rw [hW5, hR]; exact heap_alloc_new _ _
  have hRg : w3.heap.size ≤ R := by rw [hR]; exact k4.size
  have hyR : yb < R := by
    have := HROW.out.lt (fun e => by rw [e] at hTl; simp at hTl; omega) yb rfl
    omega
  rw [← hW5, ← hR]
  have HR5 := toHid hR5
  have HK5 := toHid k5
  clear hR hW5 k4 k5 hR5
  go_loopw [5] (fun iv wr => ∃ j ii : Nat, j ≤ M ∧ Hid (ii = 64 * j) ∧ iv = .int .i64 (ii : Int) ∧ Hid (Arr .u32 45 wr R (blksN all j)) ∧ Hid (Kept (fun b => b = R) W5 wr)) (fun iv _ => yn - (intOf iv).toNat)
  case atStart => exact ⟨0, 0, Nat.zero_le _, rfl, rfl, HR5.out, Kept.refl _ _⟩
  case round =>
    obtain ⟨j, ii, hj, HII, rfl, HR, HK⟩ := hrel
    by_cases hjM : j < M
    · have hii := HII.out
      have hMM := HM.out
      have hlt : ii + 64 ≤ yn := by omega
      have g1 : (ii : Int) < (yn : Int) := by omega
      have g0 : (0 : Int) ≤ (ii : Int) := by omega
      obtain ⟨i2, hi2⟩ : ∃ i2, i2 = ii + 64 := ⟨_, rfl⟩
      have gw : IntKind.i64.wrap ((ii : Int) + 64) = (i2 : Int) := by rw [IntKind.wrap_i64]; omega
      have gc : (i2 : Int) ≤ (yc : Int) := by omega
      have gd : (ii : Int) ≤ (i2 : Int) := by omega
      have ge : i2 - ii = 64 := by omega
      have gf : ¬ yc = ii := by omega
      have gl : ii ≤ i2 := by omega
      have gm : i2 ≤ yc := by omega
      obtain ⟨hbd8, hbl8⟩ := blksN_digs (all := all) j
      obtain ⟨x0, x1, x2, x3, x4, x5, x6, x7, hxx⟩ : ∃ x0 x1 x2 x3 x4 x5 x6 x7, blksN all j = [x0, x1, x2, x3, x4, x5, x6, x7] := by
        match h : blksN all j, hbl8 with
        | [a, b, c, d, e, f, g, h'], _ => exact ⟨a, b, c, d, e, f, g, h', rfl⟩
      have hnx : blksN all (j + 1) = blkN [x0, x1, x2, x3, x4, x5, x6, x7] ((all.drop ii).take 64) := by
        show blkN (blksN all j) ((all.drop (64 * j)).take 64) = _
        rw [hxx, hii]
      obtain ⟨z0, z1, z2, z3, z4, z5, z6, z7, hzz⟩ : ∃ z0 z1 z2 z3 z4 z5 z6 z7, blkN [x0, x1, x2, x3, x4, x5, x6, x7] ((all.drop ii).take 64) = [z0, z1, z2, z3, z4, z5, z6, z7] := by
        match h : blkN [x0, x1, x2, x3, x4, x5, x6, x7] ((all.drop ii).take 64), (blkN_digs (s := [x0, x1, x2, x3, x4, x5, x6, x7]) (bs := (all.drop ii).take 64)).2 with
        | [a, b, c, d, e, f, g, h'], _ => exact ⟨a, b, c, d, e, f, g, h', rfl⟩
      have hRR := HR.out
      rw [hxx] at hRR hbd8
      have JB : Hid (∀ W', Kept Nought wr W' → Calls Tryd.prog 38 #[.agg #[.int .u32 (x0 : Int), .int .u32 (x1 : Int), .int .u32 (x2 : Int), .int .u32 (x3 : Int), .int .u32 (x4 : Int), .int .u32 (x5 : Int), .int .u32 (x6 : Int), .int .u32 (x7 : Int)], .slice (some ⟨yb, yoff + ii, none⟩) 64 (yc - ii)] W' fun e w' => e = .returned (.tuple #[.agg #[.int .u32 (z0 : Int), .int .u32 (z1 : Int), .int .u32 (z2 : Int), .int .u32 (z3 : Int), .int .u32 (z4 : Int), .int .u32 (z5 : Int), .int .u32 (z6 : Int), .int .u32 (z7 : Int)], .bool true]) ∧ Kept Nought wr w') := fun W' k => by
        have hrw := ((((HROW.out.grew HK5.out).kept HK.out (fun b hb e => by
          cases hb
          have e' : yb = R := e
          omega)).grew k))
        have := r11Block (some ⟨yb, yoff + ii, none⟩) (yc - ii) [x0, x1, x2, x3, x4, x5, x6, x7] ((all.drop ii).take 64) _ rfl W' rfl hbd8 (row_part hrw hlt) ((HDA.out.drop ii).take 64)
        rw [hzz] at this
        refine this.mono ?_
        rintro e w' ⟨rfl, k'⟩
        exact ⟨rfl, k.trans k'⟩
      have HN : Hid (blksN all (j + 1) = [z0, z1, z2, z3, z4, z5, z6, z7]) := hnx.trans hzz
      have HI2 := toHid hi2
      have c0 := hRR.cell 0 (by simp)
      have c1 := hRR.cell 1 (by simp)
      have c2 := hRR.cell 2 (by simp)
      have c3 := hRR.cell 3 (by simp)
      have c4 := hRR.cell 4 (by simp)
      have c5 := hRR.cell 5 (by simp)
      have c6 := hRR.cell 6 (by simp)
      have c7 := hRR.cell 7 (by simp)
      have HRR := toHid hRR
      clear hii hMM hi2 hbd8 hbl8 hxx hnx hzz hRR HR
      go_wp2_with fail
      go_region_with (go_at_call 38; refine (JB.out _ ((Kept.refl _ _).drew)).mono ?_; rintro e w8 ⟨rfl, k8⟩; have hR8 := HRR.out.grew k8; have o0 := hR8.free 0; have o1 := hR8.free 1; have o2 := hR8.free 2; have o3 := hR8.free 3; have o4 := hR8.free 4; have o5 := hR8.free 5; have o6 := hR8.free 6; have o7 := hR8.free 7; have d0 := k8.cellN c0; have d1 := k8.cellN c1; have d2 := k8.cellN c2; have d3 := k8.cellN c3; have d4 := k8.cellN c4; have d5 := k8.cellN c5; have d6 := k8.cellN c6; have d7 := k8.cellN c7)
      all_goals
        go_wp2_with fail
        go_roundw
        case rel => exact ⟨j + 1, ii + 64, by omega, by unfold Hid; have := HII.out; omega, by go_num, by unfold Hid; rw [HN.out]; exact hR8.put8 rfl z0 z1 z2 z3 z4 z5 z6 z7, (HK.out.next k8 (fun x _ f => f.elim)).next (kept8 w8 R (.int .u32 (z0 : Int)) (.int .u32 (z1 : Int)) (.int .u32 (z2 : Int)) (.int .u32 (z3 : Int)) (.int .u32 (z4 : Int)) (.int .u32 (z5 : Int)) (.int .u32 (z6 : Int)) (.int .u32 (z7 : Int))) (fun x _ h => h)⟩
        case measure => simp [intOf]; omega
    · have g1 : ¬ (ii : Int) < (yn : Int) := by have := HII.out; have := HM.out; omega
      obtain ⟨st, hst⟩ : ∃ st, st = blksN all M := ⟨_, rfl⟩
      have hRR := HR.out
      rw [show j = M by omega, ← hst] at hRR
      obtain ⟨hsd8, hsl8⟩ := blksN_digs (all := all) M
      rw [← hst] at hsd8 hsl8
      have HSum : Hid (sumN bs = outN st 8) := by
        unfold Hid sumN
        rw [hLb.out, ← HALL.out, hTl, HM.out, Nat.mul_div_cancel_left _ (by omega), hst]
      obtain ⟨x0, x1, x2, x3, x4, x5, x6, x7, hxx⟩ : ∃ x0 x1 x2 x3 x4 x5 x6 x7, st = [x0, x1, x2, x3, x4, x5, x6, x7] := by
        match st, hsl8 with
        | [a, b, c, d, e, f, g, h'], _ => exact ⟨a, b, c, d, e, f, g, h', rfl⟩
      rw [hxx] at hRR
      have c0 := hRR.cell 0 (by simp)
      have c1 := hRR.cell 1 (by simp)
      have c2 := hRR.cell 2 (by simp)
      have c3 := hRR.cell 3 (by simp)
      have c4 := hRR.cell 4 (by simp)
      have c5 := hRR.cell 5 (by simp)
      have c6 := hRR.cell 6 (by simp)
      have c7 := hRR.cell 7 (by simp)
      have KW : Kept Nought w wr := (HKA.out.trans HK5.out).next HK.out (fun x hx e => by
        have e' : x = R := e
        have := HKA.out.size
        omega)
      have HKW := toHid KW
      have HXX := toHid hxx
      have hwr : w.heap.size ≤ wr.heap.size := KW.size
      clear hRR hst hxx HR HK HR5 HK5 HROW HALL HM HII KW HDA HKA HBD
      go_wp2_with fail
      go_loopw [6, 33] (fun out iv wr2 => ∃ (i n4 : Nat) (a2 : Option Addr) (c2' : Nat), i ≤ 8 ∧ Hid (n4 = 4 * i) ∧ iv = .int .i64 (i : Int) ∧ out = .slice a2 n4 c2' ∧ Hid (OwnN .u8 5 wr2 w.heap.size (.slice a2 n4 c2') n4 (outN st i)) ∧ Hid (Kept Nought w wr2)) (fun _ iv _ => 8 - (intOf iv).toNat)
      case atStart => exact ⟨0, 0, none, 0, Nat.zero_le _, rfl, rfl, rfl, World.ownsRow_nil _ _ _ _, HKW.out⟩
      case round =>
        obtain ⟨i, n4, a2, c2', hi, HN4, rfl, rfl, HO, HKK⟩ := hrel
        by_cases hi8 : i < 8
        · have y1 : (i : Int) < 8 := by omega
          have y0 : (0 : Int) ≤ (i : Int) := by omega
          have hn4 : n4 ≤ 28 := by have := HN4.out; omega
          clear c0 c1 c2 c3 c4 c5 c6 c7
          obtain ⟨z, hz⟩ : ∃ z, z = st.getD i 0 := ⟨_, rfl⟩
          have hzb : z < 4294967296 := by rw [hz]; exact hsd8.getD (by omega) _
          have hidx : ∀ W, Sem.run Tryd.prog (Instr.index 45 (.agg #[.int .u32 (x0 : Int), .int .u32 (x1 : Int), .int .u32 (x2 : Int), .int .u32 (x3 : Int), .int .u32 (x4 : Int), .int .u32 (x5 : Int), .int .u32 (x6 : Int), .int .u32 (x7 : Int)]) (.int .i64 (i : Int))) W = .ok (.int .u32 (z : Int)) W := fun W => by
            have hz' := hz
            rw [HXX.out] at hz'
            have h8 : i = 0 ∨ i = 1 ∨ i = 2 ∨ i = 3 ∨ i = 4 ∨ i = 5 ∨ i = 6 ∨ i = 7 := by omega
            rcases h8 with rfl | rfl | rfl | rfl | rfl | rfl | rfl | rfl
            all_goals
              subst hz'
              first | rfl | (change _ = _; kernel_rfl)
          obtain ⟨e0, he0⟩ : ∃ e, e = z / 16777216 % 256 := ⟨_, rfl⟩
          obtain ⟨e1, he1⟩ : ∃ e, e = z / 65536 % 256 := ⟨_, rfl⟩
          obtain ⟨e2, he2⟩ : ∃ e, e = z / 256 % 256 := ⟨_, rfl⟩
          obtain ⟨e3, he3⟩ : ∃ e, e = z % 256 := ⟨_, rfl⟩
          have f0 : (z : Int) / 16777216 = (e0 : Int) := by omega
          have f1 : (z : Int) / 65536 % 256 = (e1 : Int) := by omega
          have f2 : (z : Int) / 256 % 256 = (e2 : Int) := by omega
          have f3 : (z : Int) % 256 = (e3 : Int) := by omega
          have HN : Hid (outN st (i + 1) = outN st i ++ [e0, e1, e2, e3]) := by
            unfold Hid
            show outN st i ++ b4N (st.getD i 0) = _
            unfold b4N
            rw [← hz, ← he0, ← he1, ← he2, ← he3]
          have ho := HO.out
          have hkp := HKK.out
          clear hz he0 he1 he2 he3
          go_wp2_with (at_builtin; refine wpList_append_lies _ rfl _ _ 22 rfl w.heap.size 5 i0 _ 1 1 Tryd.underlying22 hi0 hz0 hz1 hz2 rfl (by omega) _ _ _ rfl (ho.alloc _) ⟨wr.heap.size, 0, none⟩ 4 4 [.int .u8 (e0 : Int), .int .u8 (e1 : Int), .int .u8 (e2 : Int), .int .u8 (e3 : Int)] rfl rfl (World.news_of_block (cs := #[.int .u8 (e0 : Int), .int .u8 (e1 : Int), .int .u8 (e2 : Int), .int .u8 (e3 : Int)]) (t := 5) (fr := (0, 0)) (Go.heap_alloc_new wr _)) (by simp [Value.oneCell']) (by omega) (by unfold maxLen; omega) (by omega) (by have := hkp.size; simp; omega) (wr.heap.size + 1) (by simp) ?_; intro gg c' w4' ho4 hg hat hgl)
          have hk5 : Kept Nought w w4' := (hkp.alloc _).grown hg (fun b hb hlt => by have := (ho.lt b hb).1; omega)
          go_wp2_with fail
          go_roundw
          case rel => exact ⟨i + 1, n4 + 4, _, _, by omega, by unfold Hid; have := HN4.out; omega, by go_num, rfl, by unfold Hid OwnN; rw [HN.out, List.map_append]; exact ho4, hk5⟩
          case measure => simp [intOf]; omega
        · have y1 : ¬ (i : Int) < 8 := by omega
          have ho := HO.out
          have hn4 := HN4.out
          rw [show i = 8 by omega] at ho
          have hrow : OwnB wr w.heap.size (.slice a2 n4 c2') (sumN bs) := by
            rw [HSum.out]
            exact OwnB.of ho
          have HRO := toHid hrow
          clear ho hn4 hrow
          go_wp2_with fail
          go_ret
          exact ⟨_, rfl, HRO.out, HKK.out⟩

end Go.Proofs.YthnkganmccgaeaaDoor


/- The tables of package sha256, as the rows list them; arrays of eight words alike. -/
namespace Go.Proofs.YthnkganmccgaeaaDoor
open Go.RowKit

theorem tab11_of {w : World} (h1 : Lib.VarReads Tryd.prog w "sconce/sha256.start" (Lib.tabData .u32 (H256.map fun z : Nat => (z : Int)))) (h2 : Lib.VarReads Tryd.prog w "sconce/sha256.roundWords" (Lib.tabData .u32 (K256.map fun z : Nat => (z : Int)))) : Tab11 w :=
  ⟨tab_reads (g := 0) (t := 45) (by kernel_rfl) (by kernel_rfl) Tryd.underlying45 Tryd.underlying44 (by kernel_rfl) (by kernel_rfl) h1,
   tab_reads (g := 4) (t := 65) (by kernel_rfl) (by kernel_rfl) Tryd.underlying65 Tryd.underlying44 (by kernel_rfl) (by kernel_rfl) h2⟩

end Go.Proofs.YthnkganmccgaeaaDoor


/- A part of a row, as a slice of it lies in memory. -/
namespace Go.Proofs.YthnkganmccgaeaaDoor
open Go.RowKit

/-- append of bytes to a row of the call's own: what comes of it has letters for its list and its length. -/
theorem wpList_append_nm {w : World} {ops : Array Oper} {rest : List Oper} {o : Oper} {a : Act} {Q : Exit → Act → World → Prop} (hgd : o.guard = none) (s x : Operand)
    (ho : o.op = .call { callee := .builtin .append, args := #[s, x], argTypes := #[22, 22] })
    (base : Nat) (v : Value) (zs : List Nat) (hs : a.eval s = v) (hown : OwnB w base v zs) (u : Value) (hx : a.eval x = u) (bs : List Nat) (hr : Row .u8 w u bs) (hl : zs.length + bs.length ≤ 100000000) (hbase : base ≤ w.heap.size)
    (h : ∀ (ls : List Nat) (ao : Option Addr) (n cap : Nat) (w' : World), Hid (ls = zs ++ bs) → Hid (ls.length = n) → OwnB w' base (.slice ao n cap) ls → Kept (fun b => base ≤ b) w w' → wpList Tryd.prog ops Q rest (a.put o.dst (.slice ao n cap)) w') : wpList Tryd.prog ops Q (o :: rest) a w := by
  refine wpList_append_row hgd s x ho base v zs hs hown u hx bs hr hl hbase ?_
  intro v' w' h1 hg
  obtain ⟨ao, cap, rfl⟩ := own_slice h1
  exact h _ ao _ cap w' rfl rfl h1 ((Kept.refl (fun b => base ≤ b) w).grown hg (fun q hq _ => (hown.lt q hq).1))

/-- A new row of some bytes. -/
theorem own_lit8 (w : World) (ls : List Nat) (cs : Array Value) (hc : cs = (ls.map fun z : Nat => Value.int .u8 (z : Int)).toArray) (n : Nat) (hn : n = ls.length) (hm : n ≤ 1000000) (h0 : 0 < n) : OwnB (w.alloc (.cells cs 5)) w.heap.size (.slice (some ⟨w.heap.size, 0, none⟩) n n) ls := by
  subst hc
  have h1 : (w.alloc (.cells (ls.map fun z : Nat => Value.int .u8 (z : Int)).toArray 5)).ownsRow w.heap.size 5 1 (.slice (some ⟨w.heap.size, 0, none⟩) n n) n (ls.map fun z : Nat => Value.int .u8 (z : Int)).toArray.toList := World.ownsRow_lit w (ls.map fun z : Nat => Value.int .u8 (z : Int)).toArray n (Nat.le_refl _) (by unfold maxLen; omega) (by simp [hn])
  exact OwnB.of (n := n) h1

end Go.Proofs.YthnkganmccgaeaaDoor


/- slices.Concat of any rows of bytes. -/
namespace Go.Proofs.YthnkganmccgaeaaDoor
open Go.RowKit

/-- The first t of some numbers, added up. -/
def sumT (L : Nat → Nat) : Nat → Nat
  | 0 => 0
  | t + 1 => sumT L t + L t

/-- The first t of some rows, one behind the other. -/
def catT (Z : Nat → List Nat) : Nat → List Nat
  | 0 => []
  | t + 1 => catT Z t ++ Z t

theorem sumT_le {L : Nat → Nat} {t : Nat} : ∀ {T : Nat}, t ≤ T → sumT L t ≤ sumT L T
  | 0, h => by
    obtain rfl : t = 0 := by omega
    exact Nat.le_refl _
  | T + 1, h => by
    by_cases e : t = T + 1
    · subst e
      exact Nat.le_refl _
    · exact Nat.le_trans (sumT_le (T := T) (by omega)) (Nat.le_add_right _ _)

theorem catT_len {L : Nat → Nat} {Z : Nat → List Nat} {T : Nat} (h : ∀ i, i < T → (Z i).length = L i) : ∀ {t : Nat}, t ≤ T → (catT Z t).length = sumT L t
  | 0, _ => rfl
  | t + 1, ht => by
    unfold catT sumT
    rw [List.length_append, catT_len h (t := t) (by omega), h t (by omega)]

set_option maxRecDepth 20000 in
set_option maxHeartbeats 2000000 in
/-- slices.Concat of any rows. -/
theorem sConcatN (lb off T : Nat) (A : Nat → Option Addr) (L C : Nat → Nat) (Z : Nat → List Nat) (w : World) (hT : T ≤ 1000) (hc : ∀ i, i < T → w.cell? ⟨lb, off + i, none⟩ = some (.slice (A i) (L i) (C i))) (hr : ∀ i, i < T → Row .u8 w (.slice (A i) (L i) (C i)) (Z i)) (h0 : 0 < sumT L T) (hl : sumT L T ≤ 10000000) :
    Calls Tryd.prog 22 #[.slice (some ⟨lb, off, none⟩) T T] w fun e w' => ∃ v', e = .returned v' ∧ OwnB w' w.heap.size v' (catT Z T) ∧ Kept Nought w w' := by
  have HLen : Hid (∀ i, i < T → (Z i).length = L i) := fun i hi => by
    obtain ⟨_, _, _, e1, hL, _, _, _, _⟩ := (hr i hi).open
    cases e1
    exact hL.out
  obtain ⟨N, hN⟩ : ∃ N, N = sumT L T := ⟨_, rfl⟩
  have HLE : Hid (∀ t, t < T → sumT L (t + 1) ≤ N) := fun t ht => by rw [hN]; exact sumT_le ht
  rw [← hN] at h0 hl
  have JG := toHid (fun W => sGrow N h0 (by omega) W)
  have JC : Hid (∀ W, Kept Nought w W → ∀ i, i < T → W.cell? ⟨lb, off + i, none⟩ = some (.slice (A i) (L i) (C i))) := fun W k i hi => k.cellN (hc i hi)
  have JX : Hid (∀ W, Kept Nought w W → ∀ i, i < T → Row .u8 W (.slice (A i) (L i) (C i)) (Z i)) := fun W k i hi => (hr i hi).grew k
  have HN := toHid hN
  clear hr hN hc
  go_enter Tryd.func22, Tryd.ntmps22
  go_wp2_with fail
  go_loopw [3, 11] (fun sv iv wr => ∃ t S : Nat, t ≤ T ∧ S ≤ N ∧ iv = .int .i64 (t : Int) ∧ sv = .int .i64 (S : Int) ∧ Hid (S = sumT L t) ∧ Hid (Kept Nought w wr)) (fun _ iv _ => T - (intOf iv).toNat)
  case atStart => exact ⟨0, 0, by omega, by omega, rfl, rfl, rfl, Kept.refl _ _⟩
  case round =>
    obtain ⟨t, S, ht, hSN, rfl, rfl, HS, HK0⟩ := hrel
    by_cases htT : t < T
    · have g1 : (t : Int) < (T : Int) := by omega
      have d0 := JC.out _ HK0.out t htT
      have hle := HLE.out t htT
      obtain ⟨ao, hao⟩ : ∃ ao, ao = A t := ⟨_, rfl⟩
      obtain ⟨l, hll⟩ : ∃ l, l = L t := ⟨_, rfl⟩
      obtain ⟨cp, hcp⟩ : ∃ cp, cp = C t := ⟨_, rfl⟩
      rw [← hao, ← hll, ← hcp] at d0
      obtain ⟨S2, hS2⟩ : ∃ S2, S2 = S + l := ⟨_, rfl⟩
      have HS2 : Hid (S2 = sumT L (t + 1)) := by
        unfold Hid
        rw [hS2, HS.out, hll]
        rfl
      rw [← HS2.out] at hle
      have gS : (S : Int) + (l : Int) = (S2 : Int) := by omega
      have gn : ¬ (S2 : Int) < 0 := by omega
      clear hao hll hcp hS2 HS
      go_wp2_with fail
      go_roundw
      case rel => exact ⟨t + 1, S2, by omega, hle, by go_num, rfl, HS2.out, HK0.out⟩
      case measure => simp [intOf]; omega
    · obtain rfl : t = T := by omega
      obtain rfl : S = N := HS.out.trans HN.out.symm
      have g1 : ¬ (t : Int) < (t : Int) := by omega
      have gNN : ¬ (S : Int) < 0 := by omega
      go_wp2_with fail
      refine (JG.out _).mono ?_
      rintro e w1 ⟨v1, rfl, o1, k1⟩
      obtain ⟨vo1, vc1, rfl⟩ := own_slice o1
      have HO1 := toHid (OwnB.base o1 HK0.out.size)
      have HK1 := toHid (HK0.out.trans k1)
      clear o1 k1 HK0 HS
      go_wp2_with fail
      go_loopw [6, 27] (fun ov iv wr => ∃ (k : Nat) (ls : List Nat) (n : Nat) (ao : Option Addr) (cc : Nat), k ≤ t ∧ iv = .int .i64 (k : Int) ∧ ov = .slice ao n cc ∧ n ≤ S ∧ Hid (ls = catT Z k) ∧ Hid (ls.length = n) ∧ Hid (OwnB wr w.heap.size (.slice ao n cc) ls) ∧ Hid (Kept Nought w wr)) (fun _ iv _ => t - (intOf iv).toNat)
      case atStart => exact ⟨0, [], 0, _, _, by omega, rfl, rfl, by omega, rfl, rfl, HO1.out, HK1.out⟩
      case round =>
        clear HO1 HK1
        obtain ⟨k, ls, n, ao, cc, hk, rfl, rfl, hn, HLS, HLN, HO, HK⟩ := hrel
        by_cases hkt : k < t
        · have g2 : (k : Int) < (t : Int) := by omega
          have d0 := JC.out _ HK.out k hkt
          have r0 := JX.out _ HK.out k hkt
          have hle := HLE.out k hkt
          have hlen := HLen.out k hkt
          have HZ : Hid (ls ++ Z k = catT Z (k + 1)) := by
            unfold Hid
            rw [HLS.out]
            rfl
          have hls : (ls ++ Z k).length ≤ S := by
            rw [HZ.out, catT_len HLen.out (by omega)]
            exact hle
          obtain ⟨bo, hbo⟩ : ∃ ao, ao = A k := ⟨_, rfl⟩
          obtain ⟨l, hll⟩ : ∃ l, l = L k := ⟨_, rfl⟩
          obtain ⟨cp, hcp⟩ : ∃ cp, cp = C k := ⟨_, rfl⟩
          rw [← hbo, ← hll, ← hcp] at d0 r0
          have HR := toHid r0
          have HLS2 := toHid hls
          obtain ⟨zs, hzs⟩ : ∃ zs, zs = Z k := ⟨_, rfl⟩
          rw [← hzs] at HR HZ HLS2
          have hsz := HK.out.size
          clear r0 hle hlen hls hbo hll hcp hzs HLS
          go_wp2_with (at_builtin; refine wpList_append_nm rfl _ _ rfl w.heap.size _ ls rfl HO.out _ rfl zs HR.out ?qc hsz ?_)
          case qc =>
            have h1 := HLS2.out
            rw [List.length_append] at h1
            omega
          intro l4 ao4 n4 c4 w4 e4 f4 ho4 kk4
          have HO4 := toHid ho4
          have HK4 : Hid (Kept Nought w w4) := HK.out.next kk4 (fun x hx h => by omega)
          have HL4 : Hid (l4 = catT Z (k + 1)) := e4.out.trans HZ.out
          have hn4 : n4 ≤ S := by
            have h1 := HLS2.out
            rw [← e4.out, f4.out] at h1
            exact h1
          clear ho4 kk4 HO HK d0 hsz e4
          go_wp2_with fail
          go_roundw
          case rel => exact ⟨k + 1, l4, n4, _, _, by omega, by go_num, rfl, hn4, HL4.out, f4.out, HO4.out, HK4.out⟩
          case measure => simp [intOf]; omega
        · obtain rfl : k = t := by omega
          have g2 : ¬ (k : Int) < (k : Int) := by omega
          go_wp2_with fail
          go_ret
          exact ⟨_, rfl, by rw [← HLS.out]; exact HO.out, HK.out⟩

end Go.Proofs.YthnkganmccgaeaaDoor

