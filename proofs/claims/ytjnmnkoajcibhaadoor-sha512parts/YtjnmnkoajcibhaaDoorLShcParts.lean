/- The law Sha512Parts, walked. -/
import Derived.Test.YtjnmnkoajcibhaaDoorShc9
namespace Go.Proofs.YtjnmnkoajcibhaaDoor
open Go.RowKit

set_option maxRecDepth 40000 in
set_option maxHeartbeats 4000000 in
theorem walkSha512Parts (v : Value) (bs : List Nat) (short : Bool) (w : World) (hb : Row .u8 w v bs) (hbd : Digs 256 bs) (hT : Tab12 w) :
    Calls Tryd.prog 6 #[v, .bool short] w fun e w' => e = .returned (.bool true) ∧ Below w.heap.size w w' := by
  obtain ⟨i0, hi0, hz0, hz1, hz2⟩ := info_parts Tryd.info8s
  have hA := awake12 w hT
  obtain ⟨ao, n, cap, rfl, hLb, _, _, _, _⟩ := hb.open
  by_cases hn : n ≤ 2000
  · have g1 : ¬ (n : Int) > 2000 := by omega
    obtain ⟨all, hall⟩ : ∃ all, all = bs ++ padM n := ⟨_, rfl⟩
    obtain ⟨T, hTl⟩ : ∃ T, all.length = T := ⟨_, rfl⟩
    have hpl := padM_length n
    have hpz : padZM n < 128 := Nat.mod_lt _ (by omega)
    have hTm : T % 128 = 0 := by
      have := all_blocksM n
      rw [← hTl, hall, List.length_append, hLb.out]
      exact this
    have hTe : T = n + (padM n).length := by rw [← hTl, hall, List.length_append, hLb.out]
    have hTb : T ≤ 3000 := by omega
    have hTp : 0 < T := by omega
    have hdall : Digs 256 all := by rw [hall]; exact hbd.append (padM_digs n)
    obtain ⟨M, hM⟩ : ∃ M, T = 128 * M := ⟨T / 128, by omega⟩
    have HSum : Hid (sum64M short bs = outM (blksM (H5 short) all M) 8) := by
      unfold Hid sum64M
      rw [hLb.out, ← hall, hTl, hM, Nat.mul_div_cancel_left _ (by omega)]
    have JP : Hid (∀ W' : World, Calls Tryd.prog 14 #[.int .i64 (n : Int)] W' fun e w' => ∃ (ad : Addr) (pc : Nat), e = .returned (.slice (some ad) (padM n).length pc) ∧ Row .u8 w' (.slice (some ad) (padM n).length pc) (padM n) ∧ Kept Nought W' w') := fun W' => by
      refine (mPad (n : Int) n (by omega) (by simp) W').mono ?_
      rintro e w' ⟨v', rfl, h1, h2⟩
      obtain ⟨po, pn, pc, rfl, hLp, _, _, _, hnp⟩ := h1.row.open
      obtain rfl : pn = (padM n).length := hLp.out.symm
      obtain ⟨pb, poff, e2, _⟩ := hnp 0 (by omega)
      cases e2
      exact ⟨_, _, rfl, h1.row, h2⟩
    have JS : Hid (∀ W, Kept Nought w W → Calls Tryd.prog 9 #[.slice ao n cap] W fun e w' => ∃ v', e = .returned v' ∧ OwnB w' W.heap.size v' (sumM false bs) ∧ Kept Nought W w') := fun W k => mSum _ bs W (hT.grew k) (hb.grew k) hbd (by have := hLb.out; omega)
    have JS3 : Hid (∀ W, Kept Nought w W → Calls Tryd.prog 11 #[.slice ao n cap] W fun e w' => ∃ v', e = .returned v' ∧ OwnB w' W.heap.size v' (sumM true bs) ∧ Kept Nought W w') := fun W k => mSum384 _ bs W (hT.grew k) (hb.grew k) hbd (by have := hLb.out; omega)
    obtain ⟨h0, h1, h2, h3, h4, h5, h6, h7, hzh⟩ : ∃ h0 h1 h2 h3 h4 h5 h6 h7, H5 short = [h0, h1, h2, h3, h4, h5, h6, h7] := by
      match h : H5 short, (H5_digs short).2 with
      | [a, b, c, d, e, f, g, h'], _ => exact ⟨a, b, c, d, e, f, g, h', rfl⟩
    have HZH := toHid hzh
    have J0 : Hid (∀ W, Kept Nought w W → Calls Tryd.prog 16 #[.bool short] W fun e w' => e = .returned (.agg #[.int .u64 (h0 : Int), .int .u64 (h1 : Int), .int .u64 (h2 : Int), .int .u64 (h3 : Int), .int .u64 (h4 : Int), .int .u64 (h5 : Int), .int .u64 (h6 : Int), .int .u64 (h7 : Int)]) ∧ Kept Nought W w') := fun W k => by
      have := mStart short W (hT.grew k)
      rw [hzh] at this
      exact this
    have HB := toHid hb
    have HALL : Hid (bs ++ padM n = all) := hall.symm
    have HPL : Hid ((padM n).length ≤ 200) := by unfold Hid; omega
    have HTL := toHid hTl
    have HM := toHid hM
    have HDA := toHid hdall
    have HT := toHid hT
    have HTE := toHid hTe
    have g64 : (T : Int) % 128 = 0 := by omega
    clear hb hbd hT hall hTl hpl hpz hTm hTe hdall hM hzh
    go_enter Tryd.func6, Tryd.ntmps6
    go_wp2_with fail
    refine hA.mono ?_
    rintro e w1 ⟨rfl, k1⟩
    have HB1 := toHid (HB.out.grew k1)
    have K1 := toHid k1
    clear hA k1
    go_wp2_with (at_builtin; refine wpList_append_row rfl _ _ rfl w1.heap.size _ [] rfl (OwnB.nil _ _) _ rfl bs HB1.out ?qc (Nat.le_refl _) ?_)
    case qc => have := hLb.out; simp only [List.length_nil]; omega
    intro v2 w2 ho2 hg2
    have k2 : Kept Nought w1 w2 := (Kept.refl Nought w1).grown hg2 (fun k hk _ => by cases hk)
    have ho2' : OwnB w2 w1.heap.size v2 bs := ho2
    obtain ⟨o2, c2, rfl⟩ := own_slice ho2'
    rw [hLb.out] at ho2' ⊢
    have HO2 := toHid ho2'
    have K2 := toHid k2
    clear ho2 ho2' hg2 k2
    go_wp2_with fail
    refine (JP.out _).mono ?_
    rintro e w3 ⟨ad3, pc3, rfl, r3, k3⟩
    have HO3 := toHid (HO2.out.grew k3)
    have HR3 := toHid r3
    have K3 := toHid (K2.out.trans k3)
    obtain ⟨pl, hpl⟩ : ∃ pl, pl = (padM n).length := ⟨_, rfl⟩
    have HPL2 := toHid hpl
    rw [← hpl] at HR3 ⊢
    clear r3 k3 HO2 hpl
    go_wp2_with (at_builtin; refine wpList_append_row rfl _ _ rfl w1.heap.size _ bs rfl HO3.out _ rfl (padM n) HR3.out ?qe K3.out.size ?_)
    case qe => have := HPL.out; have := hLb.out; omega
    intro v4 w4 ho4 hg4
    have k4 : Kept Nought w1 w4 := K3.out.grown hg4 (fun k hk hlt => by have := (HO3.out.lt k hk).1; omega)
    rw [HALL.out] at ho4
    obtain ⟨yo, yc, rfl⟩ := own_slice ho4
    rw [HTL.out] at ho4 ⊢
    have hrow := ho4.row
    obtain ⟨_, _, _, e1, _, hyc, _, _, hny⟩ := hrow.open
    cases e1
    obtain ⟨yb, yoff, e1, _⟩ := hny 0 (by omega)
    cases e1
    have HROW := toHid hrow
    have K4 := toHid k4
    have hSt := J0.out w4 (K1.out.trans k4)
    clear ho4 hg4 k4 hrow hny HO3 HR3 HPL2 JP
    go_wp2_with fail
    refine hSt.mono ?_
    rintro e w5 ⟨rfl, k5⟩
    clear hSt
    go_wp2_with fail
    obtain ⟨R, hR⟩ : ∃ R, R = w5.heap.size := ⟨_, rfl⟩
    obtain ⟨W5, hW5⟩ : ∃ W5, W5 = w5.alloc (.cells #[.int .u64 (h0 : Int), .int .u64 (h1 : Int), .int .u64 (h2 : Int), .int .u64 (h3 : Int), .int .u64 (h4 : Int), .int .u64 (h5 : Int), .int .u64 (h6 : Int), .int .u64 (h7 : Int)] 29) := ⟨_, rfl⟩
    have k6 : Kept Nought w4 W5 := by rw [hW5]; exact k5.alloc _
    have hR5 : Arr .u64 29 W5 R (H5 short) := by rw [hW5, hR, HZH.out]; exact heap_alloc_new _ _
    have hRg : w4.heap.size ≤ R := by rw [hR]; exact k5.size
    have hyR : yb < R := by
      have := HROW.out.lt (fun e => by have := HTL.out; rw [e] at this; simp at this; omega) yb rfl
      omega
    rw [← hW5, ← hR]
    have HR5 := toHid hR5
    have K5 := toHid ((K1.out.trans K4.out).trans k6)
    have HROW5 := toHid (HROW.out.grew k6)
    have hRw : w.heap.size ≤ R := by have := K1.out.size; have := K4.out.size; omega
    have HT5 := toHid (HT.out.grew K5.out)
    have hRl : R < W5.heap.size := lt_of_block hR5
    clear hR hW5 k5 k6 hR5 HROW HB1
    go_loopw [7] (fun iv wr => ∃ j ii : Nat, j ≤ M ∧ Hid (ii = 128 * j) ∧ iv = .int .i64 (ii : Int) ∧ Hid (Arr .u64 29 wr R (blksM (H5 short) all j)) ∧ Hid (Kept (fun b => b = R) W5 wr)) (fun iv _ => T - (intOf iv).toNat)
    case atStart => exact ⟨0, 0, Nat.zero_le _, rfl, rfl, HR5.out, Kept.refl _ _⟩
    case round =>
      obtain ⟨j, ii, hj, HII, rfl, HR, HK⟩ := hrel
      by_cases hjM : j < M
      · have hii := HII.out
        have hMM := HM.out
        have hlt : ii + 128 ≤ T := by omega
        have g1 : (ii : Int) < (T : Int) := by omega
        have g0 : (0 : Int) ≤ (ii : Int) := by omega
        obtain ⟨i2, hi2⟩ : ∃ i2, i2 = ii + 128 := ⟨_, rfl⟩
        have gw : IntKind.i64.wrap ((ii : Int) + 128) = (i2 : Int) := by rw [IntKind.wrap_i64]; omega
        have gc : (i2 : Int) ≤ (yc : Int) := by omega
        have gd : (ii : Int) ≤ (i2 : Int) := by omega
        have ge : i2 - ii = 128 := by omega
        have gf : ¬ yc = ii := by omega
        have gl : ii ≤ i2 := by omega
        have gm : i2 ≤ yc := by omega
        obtain ⟨hbd8, hbl8⟩ := hs_digsM (s := H5 short) (all := all) (H5_digs short).2 (H5_digs short).1 j
        obtain ⟨x0, x1, x2, x3, x4, x5, x6, x7, hxx⟩ : ∃ x0 x1 x2 x3 x4 x5 x6 x7, blksM (H5 short) all j = [x0, x1, x2, x3, x4, x5, x6, x7] := by
          match h : blksM (H5 short) all j, hbl8 with
          | [a, b, c, d, e, f, g, h'], _ => exact ⟨a, b, c, d, e, f, g, h', rfl⟩
        have hnx : blksM (H5 short) all (j + 1) = blkM [x0, x1, x2, x3, x4, x5, x6, x7] ((all.drop ii).take 128) := by
          show blkM (blksM (H5 short) all j) ((all.drop (128 * j)).take 128) = _
          rw [hxx, hii]
        obtain ⟨z0, z1, z2, z3, z4, z5, z6, z7, hzz⟩ : ∃ z0 z1 z2 z3 z4 z5 z6 z7, blkM [x0, x1, x2, x3, x4, x5, x6, x7] ((all.drop ii).take 128) = [z0, z1, z2, z3, z4, z5, z6, z7] := by
          match h : blkM [x0, x1, x2, x3, x4, x5, x6, x7] ((all.drop ii).take 128), (blkM_digs (s := [x0, x1, x2, x3, x4, x5, x6, x7]) (bs := (all.drop ii).take 128)).2 with
          | [a, b, c, d, e, f, g, h'], _ => exact ⟨a, b, c, d, e, f, g, h', rfl⟩
        have hRR := HR.out
        rw [hxx] at hRR hbd8
        have k5r : Kept Nought w wr := K5.out.next HK.out (fun x hx e => by have e' : x = R := e; omega)
        have hrowr : Row .u8 wr (.slice (some ⟨yb, yoff, none⟩) T yc) all := HROW5.out.kept HK.out (fun b hb e => by
          cases hb
          have e' : yb = R := e
          omega)
        have JB : Hid (∀ W', Kept Nought wr W' → Calls Tryd.prog 12 #[.agg #[.int .u64 (x0 : Int), .int .u64 (x1 : Int), .int .u64 (x2 : Int), .int .u64 (x3 : Int), .int .u64 (x4 : Int), .int .u64 (x5 : Int), .int .u64 (x6 : Int), .int .u64 (x7 : Int)], .slice (some ⟨yb, yoff + ii, none⟩) 128 (yc - ii)] W' fun e w' => e = .returned (.tuple #[.agg #[.int .u64 (z0 : Int), .int .u64 (z1 : Int), .int .u64 (z2 : Int), .int .u64 (z3 : Int), .int .u64 (z4 : Int), .int .u64 (z5 : Int), .int .u64 (z6 : Int), .int .u64 (z7 : Int)], .bool true]) ∧ Kept Nought wr w' ∧ Kept Nought W' w') := fun W' k => by
          have := mBlock (some ⟨yb, yoff + ii, none⟩) (yc - ii) [x0, x1, x2, x3, x4, x5, x6, x7] ((all.drop ii).take 128) _ rfl W' (HT.out.grew (k5r.trans k)) rfl hbd8 (row_part (hrowr.grew k) hlt) ((HDA.out.drop ii).take 128)
          rw [hzz] at this
          refine this.mono ?_
          rintro e w' ⟨rfl, k'⟩
          exact ⟨rfl, k.trans k', k'⟩
        have HNX : Hid (blksM (H5 short) all (j + 1) = [z0, z1, z2, z3, z4, z5, z6, z7]) := hnx.trans hzz
        have HI2 := toHid hi2
        have HRR := toHid hRR
        have JC : Hid (∀ w', Kept Nought wr w' → w'.cell? ⟨R, 0, none⟩ = some (.int .u64 (x0 : Int)) ∧ w'.cell? ⟨R, 1, none⟩ = some (.int .u64 (x1 : Int)) ∧ w'.cell? ⟨R, 2, none⟩ = some (.int .u64 (x2 : Int)) ∧ w'.cell? ⟨R, 3, none⟩ = some (.int .u64 (x3 : Int)) ∧ w'.cell? ⟨R, 4, none⟩ = some (.int .u64 (x4 : Int)) ∧ w'.cell? ⟨R, 5, none⟩ = some (.int .u64 (x5 : Int)) ∧ w'.cell? ⟨R, 6, none⟩ = some (.int .u64 (x6 : Int)) ∧ w'.cell? ⟨R, 7, none⟩ = some (.int .u64 (x7 : Int))) := fun w' k => by
          have h := HRR.out.grew k
          exact ⟨h.cell 0 (by simp), h.cell 1 (by simp), h.cell 2 (by simp), h.cell 3 (by simp), h.cell 4 (by simp), h.cell 5 (by simp), h.cell 6 (by simp), h.cell 7 (by simp)⟩
        obtain ⟨p0, p1, p2, p3, p4, p5, p6, p7⟩ := JC.out wr (Kept.refl _ _)
        have hRwr : R < wr.heap.size := lt_of_block hRR
        clear hii hMM hi2 hbd8 hbl8 hxx hnx hzz hRR HR k5r hrowr
        go_wp2_with fail
        go_region_held3 (fun w' => w'.cell? ⟨R, 0, none⟩ = some (.int .u64 (x0 : Int)) ∧ w'.cell? ⟨R, 1, none⟩ = some (.int .u64 (x1 : Int)) ∧ w'.cell? ⟨R, 2, none⟩ = some (.int .u64 (x2 : Int)) ∧ w'.cell? ⟨R, 3, none⟩ = some (.int .u64 (x3 : Int)) ∧ w'.cell? ⟨R, 4, none⟩ = some (.int .u64 (x4 : Int)) ∧ w'.cell? ⟨R, 5, none⟩ = some (.int .u64 (x5 : Int)) ∧ w'.cell? ⟨R, 6, none⟩ = some (.int .u64 (x6 : Int)) ∧ w'.cell? ⟨R, 7, none⟩ = some (.int .u64 (x7 : Int)))
          (((try dsimp only); (repeat' apply And.intro) <;> (repeat (first | (with_reducible assumption) | (with_reducible refine keepAl ?_) | (with_reducible refine keepDr ?_) | (with_reducible refine keepS8 ?_ (by dsimp only; omega)))); done))
          (first
          | (go_at_call 12; refine (JB.out _ ?_).mono ?_; (first | exact (Kept.refl Nought wr).drew | exact ((Kept.refl Nought wr).alloc _).drew); rintro e w8 ⟨rfl, k8, kl8⟩; obtain ⟨l0, l1, l2, l3, l4, l5, l6, l7⟩ := JC.out w8 k8; have sz8 : R < w8.heap.size := Nat.lt_of_lt_of_le hRwr k8.size;
              first
              | (have hzz := Arr.grew (show Arr .u64 29 (wr.alloc (.cells #[.int .u64 0, .int .u64 0, .int .u64 0, .int .u64 0, .int .u64 0, .int .u64 0, .int .u64 0, .int .u64 0] 29)).drew wr.heap.size [0, 0, 0, 0, 0, 0, 0, 0] from heap_alloc_new wr _) kl8; obtain ⟨⟨y0, y1, y2, y3, y4, y5, y6, y7⟩, f0, f1, f2, f3, f4, f5, f6, f7⟩ := zfactsM hzz)
              | (have hzz : Arr .u64 29 (w8.alloc (.cells #[.int .u64 0, .int .u64 0, .int .u64 0, .int .u64 0, .int .u64 0, .int .u64 0, .int .u64 0, .int .u64 0] 29)) w8.heap.size [0, 0, 0, 0, 0, 0, 0, 0] := heap_alloc_new w8 _; obtain ⟨⟨y0, y1, y2, y3, y4, y5, y6, y7⟩, f0, f1, f2, f3, f4, f5, f6, f7⟩ := zfactsM hzz)))
        · have hPP : Arr .u64 29 (w8.alloc (.cells #[.int .u64 (z0 : Int), .int .u64 (z1 : Int), .int .u64 (z2 : Int), .int .u64 (z3 : Int), .int .u64 (z4 : Int), .int .u64 (z5 : Int), .int .u64 (z6 : Int), .int .u64 (z7 : Int)] 29)) w8.heap.size [z0, z1, z2, z3, z4, z5, z6, z7] := heap_alloc_new w8 _
          have kW3 := k8.alloc (.cells #[.int .u64 (z0 : Int), .int .u64 (z1 : Int), .int .u64 (z2 : Int), .int .u64 (z3 : Int), .int .u64 (z4 : Int), .int .u64 (z5 : Int), .int .u64 (z6 : Int), .int .u64 (z7 : Int)] 29)
          obtain ⟨W3, hW3⟩ : ∃ W3, W3 = w8.alloc (.cells #[.int .u64 (z0 : Int), .int .u64 (z1 : Int), .int .u64 (z2 : Int), .int .u64 (z3 : Int), .int .u64 (z4 : Int), .int .u64 (z5 : Int), .int .u64 (z6 : Int), .int .u64 (z7 : Int)] 29) := ⟨_, rfl⟩
          rw [← hW3] at hPP kW3 ⊢
          obtain ⟨P, hPe⟩ : ∃ P, P = w8.heap.size := ⟨_, rfl⟩
          rw [← hPe] at hPP ⊢
          have hR3 := HRR.out.grew kW3
          have q0 := hPP.cell 0 (by simp); have q1 := hPP.cell 1 (by simp); have q2 := hPP.cell 2 (by simp); have q3 := hPP.cell 3 (by simp); have q4 := hPP.cell 4 (by simp); have q5 := hPP.cell 5 (by simp); have q6 := hPP.cell 6 (by simp); have q7 := hPP.cell 7 (by simp)
          have o0 := hR3.free 0; have d0 := hR3.cell 0 (by simp); have o1 := hR3.free 1; have d1 := hR3.cell 1 (by simp); have o2 := hR3.free 2; have d2 := hR3.cell 2 (by simp); have o3 := hR3.free 3; have d3 := hR3.cell 3 (by simp); have o4 := hR3.free 4; have d4 := hR3.cell 4 (by simp); have o5 := hR3.free 5; have d5 := hR3.cell 5 (by simp); have o6 := hR3.free 6; have d6 := hR3.cell 6 (by simp); have o7 := hR3.free 7; have d7 := hR3.cell 7 (by simp)
          have K3 := toHid kW3
          have HR3 := toHid hR3
          clear hPe hW3 hPP kW3 hR3 hzz k8 kl8 sz8 JB JC p0 p1 p2 p3 p4 p5 p6 p7 l0 l1 l2 l3 l4 l5 l6 l7 y0 y1 y2 y3 y4 y5 y6 y7 f0 f1 f2 f3 f4 f5 f6 f7
          go_wp2_with fail
          go_roundw
          case rel => exact ⟨j + 1, ii + 128, by omega, by unfold Hid; have := HII.out; omega, by go_num, by unfold Hid; rw [HNX.out]; exact HR3.out.put8 rfl z0 z1 z2 z3 z4 z5 z6 z7, (HK.out.next K3.out (fun x _ f => f.elim)).next (kept8 W3 R (.int .u64 (z0 : Nat)) (.int .u64 (z1 : Nat)) (.int .u64 (z2 : Nat)) (.int .u64 (z3 : Nat)) (.int .u64 (z4 : Nat)) (.int .u64 (z5 : Nat)) (.int .u64 (z6 : Nat)) (.int .u64 (z7 : Nat))) (fun x _ h => h)⟩
          case measure => simp [intOf]; omega
        · have hPP := hzz.put8 rfl z0 z1 z2 z3 z4 z5 z6 z7
          have kW3 := k8.next (kept8 w8 wr.heap.size (.int .u64 (z0 : Nat)) (.int .u64 (z1 : Nat)) (.int .u64 (z2 : Nat)) (.int .u64 (z3 : Nat)) (.int .u64 (z4 : Nat)) (.int .u64 (z5 : Nat)) (.int .u64 (z6 : Nat)) (.int .u64 (z7 : Nat))) (fun x hx e => by have e' : x = wr.heap.size := e; omega)
          obtain ⟨W3, hW3⟩ : ∃ W3, W3 = (((((((w8.setCell ⟨wr.heap.size, 0, none⟩ (.int .u64 (z0 : Nat))).setCell ⟨wr.heap.size, 1, none⟩ (.int .u64 (z1 : Nat))).setCell ⟨wr.heap.size, 2, none⟩ (.int .u64 (z2 : Nat))).setCell ⟨wr.heap.size, 3, none⟩ (.int .u64 (z3 : Nat))).setCell ⟨wr.heap.size, 4, none⟩ (.int .u64 (z4 : Nat))).setCell ⟨wr.heap.size, 5, none⟩ (.int .u64 (z5 : Nat))).setCell ⟨wr.heap.size, 6, none⟩ (.int .u64 (z6 : Nat))).setCell ⟨wr.heap.size, 7, none⟩ (.int .u64 (z7 : Nat)) := ⟨_, rfl⟩
          rw [← hW3] at hPP kW3 ⊢
          obtain ⟨P, hPe⟩ : ∃ P, P = wr.heap.size := ⟨_, rfl⟩
          rw [← hPe] at hPP ⊢
          have hR3 := HRR.out.grew kW3
          have q0 := hPP.cell 0 (by simp); have q1 := hPP.cell 1 (by simp); have q2 := hPP.cell 2 (by simp); have q3 := hPP.cell 3 (by simp); have q4 := hPP.cell 4 (by simp); have q5 := hPP.cell 5 (by simp); have q6 := hPP.cell 6 (by simp); have q7 := hPP.cell 7 (by simp)
          have o0 := hR3.free 0; have d0 := hR3.cell 0 (by simp); have o1 := hR3.free 1; have d1 := hR3.cell 1 (by simp); have o2 := hR3.free 2; have d2 := hR3.cell 2 (by simp); have o3 := hR3.free 3; have d3 := hR3.cell 3 (by simp); have o4 := hR3.free 4; have d4 := hR3.cell 4 (by simp); have o5 := hR3.free 5; have d5 := hR3.cell 5 (by simp); have o6 := hR3.free 6; have d6 := hR3.cell 6 (by simp); have o7 := hR3.free 7; have d7 := hR3.cell 7 (by simp)
          have K3 := toHid kW3
          have HR3 := toHid hR3
          clear hPe hW3 hPP kW3 hR3 hzz k8 kl8 sz8 JB JC p0 p1 p2 p3 p4 p5 p6 p7 l0 l1 l2 l3 l4 l5 l6 l7 y0 y1 y2 y3 y4 y5 y6 y7 f0 f1 f2 f3 f4 f5 f6 f7
          go_wp2_with fail
          go_roundw
          case rel => exact ⟨j + 1, ii + 128, by omega, by unfold Hid; have := HII.out; omega, by go_num, by unfold Hid; rw [HNX.out]; exact HR3.out.put8 rfl z0 z1 z2 z3 z4 z5 z6 z7, (HK.out.next K3.out (fun x _ f => f.elim)).next (kept8 W3 R (.int .u64 (z0 : Nat)) (.int .u64 (z1 : Nat)) (.int .u64 (z2 : Nat)) (.int .u64 (z3 : Nat)) (.int .u64 (z4 : Nat)) (.int .u64 (z5 : Nat)) (.int .u64 (z6 : Nat)) (.int .u64 (z7 : Nat))) (fun x _ h => h)⟩
          case measure => simp [intOf]; omega
      · have g1 : ¬ (ii : Int) < (T : Int) := by have := HII.out; have := HM.out; omega
        obtain ⟨st, hst⟩ : ∃ st, st = blksM (H5 short) all M := ⟨_, rfl⟩
        have hRR := HR.out
        rw [show j = M by omega, ← hst] at hRR
        obtain ⟨hsd8, hsl8⟩ := hs_digsM (s := H5 short) (all := all) (H5_digs short).2 (H5_digs short).1 M
        rw [← hst] at hsd8 hsl8 HSum
        obtain ⟨x0, x1, x2, x3, x4, x5, x6, x7, hxx⟩ : ∃ x0 x1 x2 x3 x4 x5 x6 x7, st = [x0, x1, x2, x3, x4, x5, x6, x7] := by
          match st, hsl8 with
          | [a, b, c, d, e, f, g, h'], _ => exact ⟨a, b, c, d, e, f, g, h', rfl⟩
        rw [hxx] at hRR
        have c0 := hRR.cell 0 (by simp)
        have c1 := hRR.cell 1 (by simp)
        have c2 := hRR.cell 2 (by simp)
        have c3 := hRR.cell 3 (by simp)
        have c4 := hRR.cell 4 (by simp)
        have c5 := hRR.cell 5 (by simp)
        have c6 := hRR.cell 6 (by simp)
        have c7 := hRR.cell 7 (by simp)
        have KW : Kept Nought w wr := K5.out.next HK.out (fun x hx e => by
          have e' : x = R := e
          omega)
        have HKW := toHid KW
        have HXX := toHid hxx
        have hwr : w.heap.size ≤ wr.heap.size := KW.size
        clear hRR hst hxx HR HK HR5 K5 HROW5 HALL HM HII KW HDA HB HT5
        go_wp2_with fail
        go_loopw [10, 51] (fun out iv wr2 => ∃ (i n4 : Nat) (a2 : Option Addr) (c2' : Nat), i ≤ 8 ∧ Hid (n4 = 8 * i) ∧ iv = .int .i64 (i : Int) ∧ out = .slice a2 n4 c2' ∧ Hid (OwnN .u8 5 wr2 w.heap.size (.slice a2 n4 c2') n4 (outM st i)) ∧ Hid (Kept Nought w wr2)) (fun _ iv _ => 8 - (intOf iv).toNat)
        case atStart => exact ⟨0, 0, none, 0, Nat.zero_le _, rfl, rfl, rfl, World.ownsRow_nil _ _ _ _, HKW.out⟩
        case round =>
          obtain ⟨i, n4, a2, c2', hi, HN4, rfl, rfl, HO, HKK⟩ := hrel
          by_cases hi8 : i < 8
          · have y1 : (i : Int) < 8 := by omega
            have y0 : (0 : Int) ≤ (i : Int) := by omega
            have hn4 : n4 ≤ 56 := by have := HN4.out; omega
            clear c0 c1 c2 c3 c4 c5 c6 c7
            obtain ⟨z, hz⟩ : ∃ z, z = st.getD i 0 := ⟨_, rfl⟩
            have hzb : z < 18446744073709551616 := by rw [hz]; exact hsd8.getD (by omega) _
            have hidx : ∀ W, Sem.run Tryd.prog (Instr.index 29 (.agg #[.int .u64 (x0 : Int), .int .u64 (x1 : Int), .int .u64 (x2 : Int), .int .u64 (x3 : Int), .int .u64 (x4 : Int), .int .u64 (x5 : Int), .int .u64 (x6 : Int), .int .u64 (x7 : Int)]) (.int .i64 (i : Int))) W = .ok (.int .u64 (z : Int)) W := fun W => by
              have hz' := hz
              rw [HXX.out] at hz'
              have h8 : i = 0 ∨ i = 1 ∨ i = 2 ∨ i = 3 ∨ i = 4 ∨ i = 5 ∨ i = 6 ∨ i = 7 := by omega
              rcases h8 with rfl | rfl | rfl | rfl | rfl | rfl | rfl | rfl
              all_goals
                subst hz'
                first | rfl | (change _ = _; kernel_rfl)
            have ho := HO.out
            have hkp := HKK.out
            have HN : Hid (outM st (i + 1) = outM st i ++ b8M z 8) := by rw [hz]; rfl
            clear hz
            go_wp2_with fail
            go_loopw [10, 13] (fun out jv wr3 => ∃ (j n9 : Nat) (a3 : Option Addr) (c3 : Nat), j ≤ 8 ∧ Hid (n9 = n4 + j) ∧ jv = .int .i64 (56 - 8 * (j : Int)) ∧ out = .slice a3 n9 c3 ∧ Hid (OwnN .u8 5 wr3 w.heap.size (.slice a3 n9 c3) n9 (outM st i ++ b8M z j)) ∧ Hid (Kept Nought w wr3)) (fun _ jv _ => ((intOf jv + 8) / 8).toNat)
            case atStart => exact ⟨0, n4, _, _, Nat.zero_le _, rfl, rfl, rfl, by unfold Hid; rw [show b8M z 0 = [] from rfl, List.append_nil]; exact ho, hkp⟩
            case round =>
              obtain ⟨j', n9, a3, c3, hj', HN9, rfl, rfl, HO3, HK3⟩ := hrel
              clear ho hkp hidx
              by_cases hj8 : j' < 8
              · obtain ⟨q, hq⟩ : ∃ q, q = 56 - 8 * j' := ⟨_, rfl⟩
                have gq : (56 : Int) - 8 * (j' : Int) = (q : Int) := by omega
                have gq0 : (0 : Int) ≤ (q : Int) := by omega
                have hq64 : q < 64 := by omega
                have hn9 : n9 ≤ 72 := by have := HN9.out; omega
                obtain ⟨y, hy⟩ : ∃ y, y = z / 2 ^ q % 256 := ⟨_, rfl⟩
                have gy : (z : Int) / 2 ^ q % 256 = (y : Int) := by
                  rw [hy]
                  simp
                have HY : Hid (b8M z (j' + 1) = b8M z j' ++ [y]) := by
                  unfold Hid
                  rw [b8M_succ, ← hq, ← hy]
                clear hq hy
                have ho := HO3.out
                have hkp := HK3.out
                go_wp2_with (at_builtin; refine wpList_append_lies _ rfl _ _ 22 rfl w.heap.size 5 i0 _ 1 1 Tryd.underlying22 hi0 hz0 hz1 hz2 rfl (by omega) _ _ _ rfl (ho.alloc _) ⟨wr.heap.size, 0, none⟩ 1 1 [.int .u8 (y : Int)] rfl rfl (new1c wr _ _) (by simp [Value.oneCell']) (by omega) (by unfold maxLen; omega) (by omega) (by have := hkp.size; simp; omega) (wr.heap.size + 1) (by simp) ?_; intro gg c' w4' ho4 hg hat hgl)
                have hk5 : Kept Nought w w4' := (hkp.alloc _).grown hg (fun b hb hlt => by have := (ho.lt b hb).1; omega)
                go_wp2_with fail
                go_roundw
                case rel => exact ⟨j' + 1, n9 + 1, _, _, by omega, by unfold Hid; have := HN9.out; omega, by go_num, rfl, by unfold Hid OwnN; rw [HY.out, ← List.append_assoc, List.map_append]; exact ho4, hk5⟩
                case measure => simp [intOf]; omega
              · have gj : (56 : Int) - 8 * (j' : Int) < 0 := by omega
                have gj' : ¬ (56 : Int) - 8 * (j' : Int) ≥ 0 := by omega
                have ho := HO3.out
                rw [show j' = 8 by omega, ← HN.out] at ho
                have HO9 : Hid (OwnN .u8 5 wr w.heap.size (.slice a3 n9 c3) n9 (outM st (i + 1))) := ho
                clear ho HO3
                go_wp2_with fail
                go_roundw
                case rel => exact ⟨i + 1, n9, _, _, by omega, by unfold Hid; have := HN4.out; have := HN9.out; omega, by go_num, rfl, HO9.out, HK3.out⟩
                case measure => simp [intOf]; omega
          · have y1 : ¬ (i : Int) < 8 := by omega
            have ho := HO.out
            have hn4 := HN4.out
            rw [show i = 8 by omega] at ho
            have hrow : OwnB wr w.heap.size (.slice a2 n4 c2') (sum64M short bs) := by
              rw [HSum.out]
              exact OwnB.of ho
            obtain rfl : n4 = 64 := by omega
            obtain ⟨_, _, _, e7, _, hc7, _, _, hn7⟩ := hrow.row.open
            cases e7
            obtain ⟨ub, uoff, e8, _⟩ := hn7 0 (by omega)
            cases e8
            have gu0 : (64 : Int) ≤ (c2' : Int) := by omega
            have gu1 : (48 : Int) ≤ (c2' : Int) := by omega
            have gu2 : 48 ≤ c2' := by omega
            have hrow2 : OwnB wr w.heap.size (.slice (some ⟨ub, uoff, none⟩) 48 c2') ((sum64M short bs).take 48) := by
              rw [HSum.out]
              exact OwnB.of (own_cut ho (by omega))
            have HRO := toHid hrow
            have HRO2 := toHid hrow2
            clear ho hn4 hrow hrow2 hn7
            have HDG := toHid (sumM_digs short bs)
            cases short
            · go_wp2_with fail
              refine (JS.out _ HKK.out).mono ?_
              rintro e w9 ⟨v9, rfl, r9, k9⟩
              have hS := same12 _ v9 _ _ w9 (HRO.out.row.grew k9) r9.row HDG.out HDG.out
              rw [show sum64M false bs = sumM false bs from rfl, decide_eq_true rfl] at hS
              have HK9 := toHid (HKK.out.trans k9)
              clear r9 k9
              go_wp2_with fail
              refine hS.mono ?_
              rintro e w10 ⟨rfl, rfl⟩
              clear hS
              go_wp2_with fail
              go_ret
              exact ⟨rfl, below_kept HK9.out (Nat.le_refl _)⟩
            · go_wp2_with fail
              go_region_with (first
                | (go_at_call 11; refine (JS3.out _ HKK.out.drew).mono ?_; rintro e w9 ⟨v9, rfl, r9, k9⟩; have kd9 := (Kept.refl Nought wr).drew.trans k9; have hS : Calls Tryd.prog 8 #[.slice (some ⟨ub, uoff, none⟩) 48 c2', v9] w9 (fun e w' => e = .returned (.bool true) ∧ w' = w9) := (by have := same12 _ v9 _ _ w9 (HRO2.out.row.grew kd9) r9.row HDG.out HDG.out; rw [show (sum64M true bs).take 48 = sumM true bs from rfl, decide_eq_true rfl] at this; exact this); have HK9 := toHid (HKK.out.trans kd9))
                | (go_at_call 8; refine hS.mono ?_; rintro e w10 ⟨rfl, rfl⟩))
              all_goals
                go_wp2_with fail
                go_ret
                exact ⟨rfl, below_kept HK9.out (Nat.le_refl _)⟩
  · have g1 : (n : Int) > 2000 := by omega
    clear hb hbd hT hLb
    go_enter Tryd.func6, Tryd.ntmps6
    go_wp2_with fail
    refine hA.mono ?_
    rintro e w1 ⟨rfl, k1⟩
    have HK := toHid k1
    clear hA k1
    go_wp2_with fail
    go_ret
    exact ⟨rfl, below_kept HK.out (Nat.le_refl _)⟩

end Go.Proofs.YtjnmnkoajcibhaaDoor
