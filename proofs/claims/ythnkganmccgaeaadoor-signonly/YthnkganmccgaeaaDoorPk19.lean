/- Put together of: Shx8. -/
import Derived.Test.YthnkganmccgaeaaDoorPk18

/- Package sha256: Sum. -/
namespace Go.Proofs.YthnkganmccgaeaaDoor
open Go.RowKit

set_option maxRecDepth 40000 in
set_option maxHeartbeats 4000000 in
/-- Sum, of nil. -/
theorem hSumN (w : World) (hT : Tab11 w) :
    Calls Tryd.prog 19 #[.slice none 0 0] w fun e w' => ∃ v', e = .returned v' ∧ Row .u8 w' v' (sumN []) ∧ (∀ b, v'.ownBlock = some b → w.heap.size ≤ b) ∧ Kept Nought w w' := by
  obtain ⟨bs, hbs⟩ : ∃ bs : List Nat, bs = [] := ⟨_, rfl⟩
  have hb : Row .u8 w (.slice none 0 0) bs := by rw [hbs]; exact Row.nil _ _
  have hbd : Digs 256 bs := by rw [hbs]; exact Digs.nil _
  have hLb : Hid (bs.length = 0) := by rw [hbs]; rfl
  have hrest : ∀ W, Kept Nought w W → Row .u8 W (.slice none 0 0) (bs.drop 0) := fun W k => hb.grew k
  have hM : 0 = 64 * 0 := rfl
  have hmod : (0 : Nat) / 64 = 0 := rfl
  have hh8 := hsN_digs (s := H256) (all := bs.take 0) rfl H256_digs.1 0
  obtain ⟨st, hst⟩ : ∃ st, st = hsN H256 (bs.take 0) 0 := ⟨_, rfl⟩
  rw [← hst] at hh8
  obtain ⟨x0, x1, x2, x3, x4, x5, x6, x7, hxx⟩ : ∃ x0 x1 x2 x3 x4 x5 x6 x7, st = [x0, x1, x2, x3, x4, x5, x6, x7] := by
    match st, hh8.2 with
    | [a, b, c, d, e, f, g, h'], _ => exact ⟨a, b, c, d, e, f, g, h', rfl⟩
  have JH : Hid (∀ W', Kept Nought w W' → Calls Tryd.prog 27 #[.agg #[.int .u32 1779033703, .int .u32 3144134277, .int .u32 1013904242, .int .u32 2773480762, .int .u32 1359893119, .int .u32 2600822924, .int .u32 528734635, .int .u32 1541459225], .slice none 0 0] W' fun e w' => e = .returned (.agg #[.int .u32 (x0 : Int), .int .u32 (x1 : Int), .int .u32 (x2 : Int), .int .u32 (x3 : Int), .int .u32 (x4 : Int), .int .u32 (x5 : Int), .int .u32 (x6 : Int), .int .u32 (x7 : Int)]) ∧ Kept Nought w w' ∧ Kept Nought W' w') := fun W' k => by
    have := hHashed none 0 0 0 H256 (bs.take 0) _ rfl W' (hT.grew k) rfl H256_digs.1 ((hb.grew k).cut (by have := hLb.out; omega)) (hbd.take 0) hM (by omega)
    rw [← hst, hxx] at this
    refine this.mono ?_
    rintro e w' ⟨rfl, k'⟩
    exact ⟨rfl, k.trans k', k'⟩
  have JC : Hid (∀ w', Kept Nought w w' → w'.cell? ⟨0, 0, none⟩ = some (.int .u32 1779033703) ∧ w'.cell? ⟨0, 1, none⟩ = some (.int .u32 3144134277) ∧ w'.cell? ⟨0, 2, none⟩ = some (.int .u32 1013904242) ∧ w'.cell? ⟨0, 3, none⟩ = some (.int .u32 2773480762) ∧ w'.cell? ⟨0, 4, none⟩ = some (.int .u32 1359893119) ∧ w'.cell? ⟨0, 5, none⟩ = some (.int .u32 2600822924) ∧ w'.cell? ⟨0, 6, none⟩ = some (.int .u32 528734635) ∧ w'.cell? ⟨0, 7, none⟩ = some (.int .u32 1541459225)) := fun w' k => by
    have h := (hT.grew k).start
    exact ⟨h 0 (by omega), h 1 (by omega), h 2 (by omega), h 3 (by omega), h 4 (by omega), h 5 (by omega), h 6 (by omega), h 7 (by omega)⟩
  obtain ⟨g0, g1, g2, g3, g4, g5, g6, g7⟩ := JC.out w (Kept.refl _ _)
  obtain ⟨all, hall⟩ : ∃ all, all = bs.drop 0 ++ padN 0 := ⟨_, rfl⟩
  obtain ⟨M2, hM2⟩ : ∃ M2, all.length = 64 * M2 := ⟨all.length / 64, by
    have h1 := all_blocks 0
    have h2 := hLb.out
    rw [hall, List.length_append, List.length_drop, h2]
    omega⟩
  have hall2 : all.length ≤ 2000000 := by
    have := padN_length 0
    have : padZ 0 < 64 := Nat.mod_lt _ (by omega)
    have h2 := hLb.out
    rw [hall, List.length_append, List.length_drop, h2]
    omega
  have hald : Digs 256 all := by rw [hall]; exact (hbd.drop 0).append (padN_digs 0)
  obtain ⟨sf, hsf⟩ : ∃ sf, sf = hsN st all M2 := ⟨_, rfl⟩
  have hf8 := hsN_digs (s := st) (all := all) hh8.2 hh8.1 M2
  rw [← hsf] at hf8
  have HSum : Hid (sumN bs = outN sf 8) := by
    unfold Hid sumN
    have hle : bs.length = 0 := hLb.out
    have e1 : bs ++ padN 0 = bs.take 0 ++ all := by rw [hall, ← List.append_assoc, List.take_append_drop]
    have e2 : (bs.take 0).length = 0 := by rw [List.length_take, hle]; omega
    rw [hle, e1, List.length_append, e2, hM2, show (0 + 64 * M2) / 64 = 0 + M2 by omega, blks_hs, hs_more, ← hs_take H256 (bs.take 0 ++ all) 0 0 (by omega), List.take_left' e2, ← hst, show 64 * 0 = 0 by omega, List.drop_left' e2, hsf]
  obtain ⟨y0, y1, y2, y3, y4, y5, y6, y7, hyy⟩ : ∃ y0 y1 y2 y3 y4 y5 y6 y7, sf = [y0, y1, y2, y3, y4, y5, y6, y7] := by
    match sf, hf8.2 with
    | [a, b, c, d, e, f, g, h'], _ => exact ⟨a, b, c, d, e, f, g, h', rfl⟩
  have JP : Hid (∀ W', Kept Nought w W' → Calls Tryd.prog 29 #[.int .i64 (0 : Int)] W' fun e w' => ∃ (ad : Addr) (pc : Nat), e = .returned (.slice (some ad) (padN 0).length pc) ∧ Row .u8 w' (.slice (some ad) (padN 0).length pc) (padN 0) ∧ Kept Nought W' w') := fun W' _ => by
    refine (hPad (0 : Int) 0 (by omega) (by simp) W').mono ?_
    rintro e w' ⟨v', rfl, h1, h2⟩
    obtain ⟨po, pn, pc, rfl, hLp, _, _, _, hnp⟩ := h1.row.open
    have hpl := padN_length 0
    obtain rfl : pn = (padN 0).length := hLp.out.symm
    obtain ⟨pb, poff, e2, _⟩ := hnp 0 (by omega)
    cases e2
    exact ⟨_, _, rfl, h1.row, h2⟩
  have JF : Hid (∀ W' fo fc, Kept Nought w W' → Row .u8 W' (.slice fo all.length fc) all → Calls Tryd.prog 27 #[.agg #[.int .u32 (x0 : Int), .int .u32 (x1 : Int), .int .u32 (x2 : Int), .int .u32 (x3 : Int), .int .u32 (x4 : Int), .int .u32 (x5 : Int), .int .u32 (x6 : Int), .int .u32 (x7 : Int)], .slice fo all.length fc] W' fun e w' => e = .returned (.agg #[.int .u32 (y0 : Int), .int .u32 (y1 : Int), .int .u32 (y2 : Int), .int .u32 (y3 : Int), .int .u32 (y4 : Int), .int .u32 (y5 : Int), .int .u32 (y6 : Int), .int .u32 (y7 : Int)]) ∧ Kept Nought w w' ∧ Kept Nought W' w') := fun W' fo fc k hr => by
    have := hHashed fo all.length fc M2 st all #[.int .u32 (x0 : Int), .int .u32 (x1 : Int), .int .u32 (x2 : Int), .int .u32 (x3 : Int), .int .u32 (x4 : Int), .int .u32 (x5 : Int), .int .u32 (x6 : Int), .int .u32 (x7 : Int)] (by rw [hxx]; rfl) W' (hT.grew k) hh8.2 hh8.1 hr hald hM2 hall2
    rw [← hsf, hyy] at this
    refine this.mono ?_
    rintro e w' ⟨rfl, k'⟩
    exact ⟨rfl, k.trans k', k'⟩
  have JO : Hid (∀ W', Kept Nought w W' → Calls Tryd.prog 28 #[.agg #[.int .u32 (y0 : Int), .int .u32 (y1 : Int), .int .u32 (y2 : Int), .int .u32 (y3 : Int), .int .u32 (y4 : Int), .int .u32 (y5 : Int), .int .u32 (y6 : Int), .int .u32 (y7 : Int)]] W' fun e w' => ∃ v', e = .returned v' ∧ Row .u8 w' v' (outN sf 8) ∧ (∀ b, v'.ownBlock = some b → w.heap.size ≤ b) ∧ Kept Nought w w' ∧ Kept Nought W' w') := fun W' k => by
    refine (hBytesOf sf #[.int .u32 (y0 : Int), .int .u32 (y1 : Int), .int .u32 (y2 : Int), .int .u32 (y3 : Int), .int .u32 (y4 : Int), .int .u32 (y5 : Int), .int .u32 (y6 : Int), .int .u32 (y7 : Int)] (by rw [hyy]; rfl) W' hf8.2 hf8.1).mono ?_
    rintro e w' ⟨v', rfl, h1, h2, h3⟩
    exact ⟨v', rfl, h1, fun b hb => Nat.le_trans k.size (h2 b hb), k.trans h3, h3⟩
  obtain ⟨rs, hrs⟩ : ∃ rs, rs = bs.drop 0 := ⟨_, rfl⟩
  have HALL : Hid (rs ++ padN 0 = all) := by rw [hrs]; exact hall.symm
  have HRL : Hid (rs.length ≤ 1000000) := by unfold Hid; rw [hrs, List.length_drop, hLb.out]; omega
  have HPL : Hid ((padN 0).length ≤ 100) := by
    unfold Hid
    have := padN_length 0
    have : padZ 0 < 64 := Nat.mod_lt _ (by omega)
    omega
  rw [← hrs] at hrest
  have JRest := toHid hrest
  rw [← hbs]
  clear hbs
  clear hrest hrs hb hbd hT hst hxx hh8 hall hM2 hall2 hald hsf hf8 hyy hM hmod
  go_enter Tryd.func19, Tryd.ntmps19
  go_wp2_with fail
  go_region_held3 (fun w' => w'.cell? ⟨0, 0, none⟩ = some (.int .u32 1779033703) ∧ w'.cell? ⟨0, 1, none⟩ = some (.int .u32 3144134277) ∧ w'.cell? ⟨0, 2, none⟩ = some (.int .u32 1013904242) ∧ w'.cell? ⟨0, 3, none⟩ = some (.int .u32 2773480762) ∧ w'.cell? ⟨0, 4, none⟩ = some (.int .u32 1359893119) ∧ w'.cell? ⟨0, 5, none⟩ = some (.int .u32 2600822924) ∧ w'.cell? ⟨0, 6, none⟩ = some (.int .u32 528734635) ∧ w'.cell? ⟨0, 7, none⟩ = some (.int .u32 1541459225))
    (((try dsimp only); (repeat' apply And.intro) <;> (repeat (first | (with_reducible assumption) | (with_reducible refine keepAl ?_) | (with_reducible refine keepDr ?_) | (with_reducible refine keepS8 ?_ (by dsimp only; omega)))); done))
    (first
    | (go_at_call 27; refine (JH.out _ ?_).mono ?_; (first | exact (Kept.refl Nought w).drew | exact ((Kept.refl Nought w).alloc _).drew); rintro e w8 ⟨rfl, ks0, kl0⟩; obtain ⟨l0, l1, l2, l3, l4, l5, l6, l7⟩ := JC.out w8 ks0; have sg : 0 < w.heap.size ∧ w.heap.size ≤ w8.heap.size := ⟨lt_of_cell g0, ks0.size⟩; obtain ⟨sg1, sg2⟩ := sg;
        first
        | (have hzz := Arr.grew (show Arr .u32 45 (w.alloc (.cells #[.int .u32 0, .int .u32 0, .int .u32 0, .int .u32 0, .int .u32 0, .int .u32 0, .int .u32 0, .int .u32 0] 45)).drew w.heap.size [0, 0, 0, 0, 0, 0, 0, 0] from heap_alloc_new w _) kl0; obtain ⟨⟨z0, z1, z2, z3, z4, z5, z6, z7⟩, f0, f1, f2, f3, f4, f5, f6, f7⟩ := zfacts hzz)
        | (have hzz : Arr .u32 45 (w8.alloc (.cells #[.int .u32 0, .int .u32 0, .int .u32 0, .int .u32 0, .int .u32 0, .int .u32 0, .int .u32 0, .int .u32 0] 45)) w8.heap.size [0, 0, 0, 0, 0, 0, 0, 0] := heap_alloc_new w8 _; obtain ⟨⟨z0, z1, z2, z3, z4, z5, z6, z7⟩, f0, f1, f2, f3, f4, f5, f6, f7⟩ := zfacts hzz)))
  · have hRR : Arr .u32 45 (w8.alloc (.cells #[.int .u32 (x0 : Int), .int .u32 (x1 : Int), .int .u32 (x2 : Int), .int .u32 (x3 : Int), .int .u32 (x4 : Int), .int .u32 (x5 : Int), .int .u32 (x6 : Int), .int .u32 (x7 : Int)] 45)) w8.heap.size [x0, x1, x2, x3, x4, x5, x6, x7] := heap_alloc_new w8 _
    have kAll := ks0.alloc (.cells #[.int .u32 (x0 : Int), .int .u32 (x1 : Int), .int .u32 (x2 : Int), .int .u32 (x3 : Int), .int .u32 (x4 : Int), .int .u32 (x5 : Int), .int .u32 (x6 : Int), .int .u32 (x7 : Int)] 45)
    obtain ⟨W3, hW3⟩ : ∃ W3, W3 = w8.alloc (.cells #[.int .u32 (x0 : Int), .int .u32 (x1 : Int), .int .u32 (x2 : Int), .int .u32 (x3 : Int), .int .u32 (x4 : Int), .int .u32 (x5 : Int), .int .u32 (x6 : Int), .int .u32 (x7 : Int)] 45) := ⟨_, rfl⟩
    rw [← hW3] at hRR kAll ⊢
    obtain ⟨R, hRe⟩ : ∃ R, R = w8.heap.size := ⟨_, rfl⟩
    rw [← hRe] at hRR ⊢
    have hRl : R < W3.heap.size := lt_of_block hRR
    have HRR := toHid hRR
    have HKA := toHid kAll
    have JR : Hid (∀ w', Kept Nought W3 w' → w'.cell? ⟨R, 0, none⟩ = some (.int .u32 (x0 : Int)) ∧ w'.cell? ⟨R, 1, none⟩ = some (.int .u32 (x1 : Int)) ∧ w'.cell? ⟨R, 2, none⟩ = some (.int .u32 (x2 : Int)) ∧ w'.cell? ⟨R, 3, none⟩ = some (.int .u32 (x3 : Int)) ∧ w'.cell? ⟨R, 4, none⟩ = some (.int .u32 (x4 : Int)) ∧ w'.cell? ⟨R, 5, none⟩ = some (.int .u32 (x5 : Int)) ∧ w'.cell? ⟨R, 6, none⟩ = some (.int .u32 (x6 : Int)) ∧ w'.cell? ⟨R, 7, none⟩ = some (.int .u32 (x7 : Int))) := fun w' k => by
      have h := hRR.grew k
      exact ⟨h.cell 0 (by simp), h.cell 1 (by simp), h.cell 2 (by simp), h.cell 3 (by simp), h.cell 4 (by simp), h.cell 5 (by simp), h.cell 6 (by simp), h.cell 7 (by simp)⟩
    have hrow := JRest.out W3 kAll
    have HRW := toHid (hrow.grew ((Kept.refl Nought W3).alloc (.cells #[] 5)))
    have HE : Hid (OwnB (W3.alloc (.cells #[] 5)) W3.heap.size (.slice (some ⟨W3.heap.size, 0, none⟩) 0 0) []) := OwnB.of (own_of_block (k := .u8) (zs := []) (heap_alloc_new W3 (.cells #[] 5)) rfl (by unfold maxLen; omega) (Nat.le_refl _))
    clear hRe hW3 hRR kAll hrow JRest JH JC hzz ks0 kl0 sg1 sg2 g0 g1 g2 g3 g4 g5 g6 g7 l0 l1 l2 l3 l4 l5 l6 l7 z0 z1 z2 z3 z4 z5 z6 z7 f0 f1 f2 f3 f4 f5 f6 f7
    go_wp2_with (at_builtin; refine wpList_append_row rfl _ _ rfl W3.heap.size _ [] rfl HE.out _ rfl rs HRW.out ?qc ?qd ?_)
    case qc => have := HRL.out; simp only [List.length_nil]; omega
    case qd => simp
    intro v4 w4 ho4 hg4
    have k4 : Kept Nought W3 w4 := ((Kept.refl Nought W3).alloc (.cells #[] 5)).grown hg4 (fun k hk hlt => by
      have := (HE.out.lt k hk).1
      omega)
    obtain ⟨vo, vc, rfl⟩ := own_slice ho4
    obtain ⟨dn, hdn⟩ : ∃ dn, dn = rs.length := ⟨_, rfl⟩
    rw [← hdn] at ho4 ⊢
    have HO4 : Hid (OwnB w4 W3.heap.size (.slice vo dn vc) rs) := OwnB.of ho4
    have HDN := toHid hdn
    have K4 := toHid k4
    obtain ⟨q0, q1, q2, q3, q4, q5, q6, q7⟩ := JR.out w4 k4
    clear ho4 hg4 k4 HE HRW hdn
    go_wp2_with fail
    go_region_held3 (fun w' => w'.cell? ⟨R, 0, none⟩ = some (.int .u32 (x0 : Int)) ∧ w'.cell? ⟨R, 1, none⟩ = some (.int .u32 (x1 : Int)) ∧ w'.cell? ⟨R, 2, none⟩ = some (.int .u32 (x2 : Int)) ∧ w'.cell? ⟨R, 3, none⟩ = some (.int .u32 (x3 : Int)) ∧ w'.cell? ⟨R, 4, none⟩ = some (.int .u32 (x4 : Int)) ∧ w'.cell? ⟨R, 5, none⟩ = some (.int .u32 (x5 : Int)) ∧ w'.cell? ⟨R, 6, none⟩ = some (.int .u32 (x6 : Int)) ∧ w'.cell? ⟨R, 7, none⟩ = some (.int .u32 (x7 : Int)))
      (((try dsimp only); (repeat' apply And.intro) <;> (repeat (first | (with_reducible assumption) | (with_reducible refine keepAl ?_) | (with_reducible refine keepDr ?_) | (with_reducible refine keepS8 ?_ (by dsimp only; omega)))); done))
      (first
      | (refine step_append_row (by rfl) _ _ (by rfl) W3.heap.size _ rs (by rfl) (HO4.out.grew kq5) ad5 _ pc5 (by rfl) (padN 0) r5 (by have := HRL.out; have := HPL.out; omega) k35.size ?_; intro v6 w6 ho6 hg6; rw [HALL.out] at ho6; have k36 := k35.grown hg6 (fun k hk hlt => by have := ((HO4.out.grew kq5).lt k hk).1; omega); obtain ⟨fo6, fc6, rfl⟩ := own_slice ho6; obtain ⟨s0, s1, s2, s3, s4, s5, s6, s7⟩ := JR.out w6 k36)
      | (go_at_call 28; refine (JO.out _ k7).mono ?_; rintro e w9 ⟨v9, rfl, r9, f9, k9, kl9⟩; obtain ⟨u0, u1, u2, u3, u4, u5, u6, u7⟩ := JR.out w9 (k37.trans kl9))
      | (go_at_call 27; refine (JF.out _ fo6 fc6 (HKA.out.trans k36) (OwnB.row ho6)).mono ?_; rintro e w7 ⟨rfl, k7, kl7⟩; have k37 := k36.trans kl7; obtain ⟨t0, t1, t2, t3, t4, t5, t6, t7⟩ := JR.out w7 k37)
      | (go_at_call 29; refine (JP.out _ ((HKA.out.trans K4.out).drew)).mono ?_; rintro e w5 ⟨ad5, pc5, rfl, r5, kl5⟩; have kq5 := (Kept.refl Nought w4).drew.trans kl5; have k35 := K4.out.trans kq5; obtain ⟨v0, v1, v2, v3, v4, v5, v6, v7⟩ := JR.out w5 k35))
    all_goals
      go_wp2_with fail
      go_ret
      rw [HSum.out]
      exact ⟨_, rfl, r9, f9, k9⟩
  · have hRR := hzz.put8 rfl x0 x1 x2 x3 x4 x5 x6 x7
    have kAll := ks0.next (kept8 w8 w.heap.size (.int .u32 (x0 : Nat)) (.int .u32 (x1 : Nat)) (.int .u32 (x2 : Nat)) (.int .u32 (x3 : Nat)) (.int .u32 (x4 : Nat)) (.int .u32 (x5 : Nat)) (.int .u32 (x6 : Nat)) (.int .u32 (x7 : Nat))) (fun x hx e => by have e' : x = w.heap.size := e; omega)
    obtain ⟨W3, hW3⟩ : ∃ W3, W3 = (((((((w8.setCell ⟨w.heap.size, 0, none⟩ (.int .u32 (x0 : Nat))).setCell ⟨w.heap.size, 1, none⟩ (.int .u32 (x1 : Nat))).setCell ⟨w.heap.size, 2, none⟩ (.int .u32 (x2 : Nat))).setCell ⟨w.heap.size, 3, none⟩ (.int .u32 (x3 : Nat))).setCell ⟨w.heap.size, 4, none⟩ (.int .u32 (x4 : Nat))).setCell ⟨w.heap.size, 5, none⟩ (.int .u32 (x5 : Nat))).setCell ⟨w.heap.size, 6, none⟩ (.int .u32 (x6 : Nat))).setCell ⟨w.heap.size, 7, none⟩ (.int .u32 (x7 : Nat)) := ⟨_, rfl⟩
    rw [← hW3] at hRR kAll ⊢
    obtain ⟨R, hRe⟩ : ∃ R, R = w.heap.size := ⟨_, rfl⟩
    rw [← hRe] at hRR ⊢
    have hRl : R < W3.heap.size := lt_of_block hRR
    have HRR := toHid hRR
    have HKA := toHid kAll
    have JR : Hid (∀ w', Kept Nought W3 w' → w'.cell? ⟨R, 0, none⟩ = some (.int .u32 (x0 : Int)) ∧ w'.cell? ⟨R, 1, none⟩ = some (.int .u32 (x1 : Int)) ∧ w'.cell? ⟨R, 2, none⟩ = some (.int .u32 (x2 : Int)) ∧ w'.cell? ⟨R, 3, none⟩ = some (.int .u32 (x3 : Int)) ∧ w'.cell? ⟨R, 4, none⟩ = some (.int .u32 (x4 : Int)) ∧ w'.cell? ⟨R, 5, none⟩ = some (.int .u32 (x5 : Int)) ∧ w'.cell? ⟨R, 6, none⟩ = some (.int .u32 (x6 : Int)) ∧ w'.cell? ⟨R, 7, none⟩ = some (.int .u32 (x7 : Int))) := fun w' k => by
      have h := hRR.grew k
      exact ⟨h.cell 0 (by simp), h.cell 1 (by simp), h.cell 2 (by simp), h.cell 3 (by simp), h.cell 4 (by simp), h.cell 5 (by simp), h.cell 6 (by simp), h.cell 7 (by simp)⟩
    have hrow := JRest.out W3 kAll
    have HRW := toHid (hrow.grew ((Kept.refl Nought W3).alloc (.cells #[] 5)))
    have HE : Hid (OwnB (W3.alloc (.cells #[] 5)) W3.heap.size (.slice (some ⟨W3.heap.size, 0, none⟩) 0 0) []) := OwnB.of (own_of_block (k := .u8) (zs := []) (heap_alloc_new W3 (.cells #[] 5)) rfl (by unfold maxLen; omega) (Nat.le_refl _))
    clear hRe hW3 hRR kAll hrow JRest JH JC hzz ks0 kl0 sg1 sg2 g0 g1 g2 g3 g4 g5 g6 g7 l0 l1 l2 l3 l4 l5 l6 l7 z0 z1 z2 z3 z4 z5 z6 z7 f0 f1 f2 f3 f4 f5 f6 f7
    go_wp2_with (at_builtin; refine wpList_append_row rfl _ _ rfl W3.heap.size _ [] rfl HE.out _ rfl rs HRW.out ?qc ?qd ?_)
    case qc => have := HRL.out; simp only [List.length_nil]; omega
    case qd => simp
    intro v4 w4 ho4 hg4
    have k4 : Kept Nought W3 w4 := ((Kept.refl Nought W3).alloc (.cells #[] 5)).grown hg4 (fun k hk hlt => by
      have := (HE.out.lt k hk).1
      omega)
    obtain ⟨vo, vc, rfl⟩ := own_slice ho4
    obtain ⟨dn, hdn⟩ : ∃ dn, dn = rs.length := ⟨_, rfl⟩
    rw [← hdn] at ho4 ⊢
    have HO4 : Hid (OwnB w4 W3.heap.size (.slice vo dn vc) rs) := OwnB.of ho4
    have HDN := toHid hdn
    have K4 := toHid k4
    obtain ⟨q0, q1, q2, q3, q4, q5, q6, q7⟩ := JR.out w4 k4
    clear ho4 hg4 k4 HE HRW hdn
    go_wp2_with fail
    go_region_held3 (fun w' => w'.cell? ⟨R, 0, none⟩ = some (.int .u32 (x0 : Int)) ∧ w'.cell? ⟨R, 1, none⟩ = some (.int .u32 (x1 : Int)) ∧ w'.cell? ⟨R, 2, none⟩ = some (.int .u32 (x2 : Int)) ∧ w'.cell? ⟨R, 3, none⟩ = some (.int .u32 (x3 : Int)) ∧ w'.cell? ⟨R, 4, none⟩ = some (.int .u32 (x4 : Int)) ∧ w'.cell? ⟨R, 5, none⟩ = some (.int .u32 (x5 : Int)) ∧ w'.cell? ⟨R, 6, none⟩ = some (.int .u32 (x6 : Int)) ∧ w'.cell? ⟨R, 7, none⟩ = some (.int .u32 (x7 : Int)))
      (((try dsimp only); (repeat' apply And.intro) <;> (repeat (first | (with_reducible assumption) | (with_reducible refine keepAl ?_) | (with_reducible refine keepDr ?_) | (with_reducible refine keepS8 ?_ (by dsimp only; omega)))); done))
      (first
      | (refine step_append_row (by rfl) _ _ (by rfl) W3.heap.size _ rs (by rfl) (HO4.out.grew kq5) ad5 _ pc5 (by rfl) (padN 0) r5 (by have := HRL.out; have := HPL.out; omega) k35.size ?_; intro v6 w6 ho6 hg6; rw [HALL.out] at ho6; have k36 := k35.grown hg6 (fun k hk hlt => by have := ((HO4.out.grew kq5).lt k hk).1; omega); obtain ⟨fo6, fc6, rfl⟩ := own_slice ho6; obtain ⟨s0, s1, s2, s3, s4, s5, s6, s7⟩ := JR.out w6 k36)
      | (go_at_call 28; refine (JO.out _ k7).mono ?_; rintro e w9 ⟨v9, rfl, r9, f9, k9, kl9⟩; obtain ⟨u0, u1, u2, u3, u4, u5, u6, u7⟩ := JR.out w9 (k37.trans kl9))
      | (go_at_call 27; refine (JF.out _ fo6 fc6 (HKA.out.trans k36) (OwnB.row ho6)).mono ?_; rintro e w7 ⟨rfl, k7, kl7⟩; have k37 := k36.trans kl7; obtain ⟨t0, t1, t2, t3, t4, t5, t6, t7⟩ := JR.out w7 k37)
      | (go_at_call 29; refine (JP.out _ ((HKA.out.trans K4.out).drew)).mono ?_; rintro e w5 ⟨ad5, pc5, rfl, r5, kl5⟩; have kq5 := (Kept.refl Nought w4).drew.trans kl5; have k35 := K4.out.trans kq5; obtain ⟨v0, v1, v2, v3, v4, v5, v6, v7⟩ := JR.out w5 k35))
    all_goals
      go_wp2_with fail
      go_ret
      rw [HSum.out]
      exact ⟨_, rfl, r9, f9, k9⟩

set_option maxRecDepth 40000 in
set_option maxHeartbeats 4000000 in
/-- Sum, of no bytes in some memory. -/
theorem hSumE (ad : Addr) (cap : Nat) (w : World) (hT : Tab11 w) (hb0 : Row .u8 w (.slice (some ad) 0 cap) []) :
    Calls Tryd.prog 19 #[.slice (some ad) 0 cap] w fun e w' => ∃ v', e = .returned v' ∧ Row .u8 w' v' (sumN []) ∧ (∀ b, v'.ownBlock = some b → w.heap.size ≤ b) ∧ Kept Nought w w' := by
  obtain ⟨bs, hbs⟩ : ∃ bs : List Nat, bs = [] := ⟨_, rfl⟩
  have hb : Row .u8 w (.slice (some ad) 0 cap) bs := by rw [hbs]; exact hb0
  have hbd : Digs 256 bs := by rw [hbs]; exact Digs.nil _
  have hLb : Hid (bs.length = 0) := by rw [hbs]; rfl
  have hrest : ∀ W, Kept Nought w W → Row .u8 W (.slice (some ad) 0 cap) (bs.drop 0) := fun W k => hb.grew k
  have hM : 0 = 64 * 0 := rfl
  have hmod : (0 : Nat) / 64 = 0 := rfl
  have gadd : ad.add 0 = ad := rfl
  have gcap : (0 : Int) ≤ (cap : Int) := by omega
  have hh8 := hsN_digs (s := H256) (all := bs.take 0) rfl H256_digs.1 0
  obtain ⟨st, hst⟩ : ∃ st, st = hsN H256 (bs.take 0) 0 := ⟨_, rfl⟩
  rw [← hst] at hh8
  obtain ⟨x0, x1, x2, x3, x4, x5, x6, x7, hxx⟩ : ∃ x0 x1 x2 x3 x4 x5 x6 x7, st = [x0, x1, x2, x3, x4, x5, x6, x7] := by
    match st, hh8.2 with
    | [a, b, c, d, e, f, g, h'], _ => exact ⟨a, b, c, d, e, f, g, h', rfl⟩
  have JH : Hid (∀ W', Kept Nought w W' → Calls Tryd.prog 27 #[.agg #[.int .u32 1779033703, .int .u32 3144134277, .int .u32 1013904242, .int .u32 2773480762, .int .u32 1359893119, .int .u32 2600822924, .int .u32 528734635, .int .u32 1541459225], .slice (some ad) 0 cap] W' fun e w' => e = .returned (.agg #[.int .u32 (x0 : Int), .int .u32 (x1 : Int), .int .u32 (x2 : Int), .int .u32 (x3 : Int), .int .u32 (x4 : Int), .int .u32 (x5 : Int), .int .u32 (x6 : Int), .int .u32 (x7 : Int)]) ∧ Kept Nought w w' ∧ Kept Nought W' w') := fun W' k => by
    have := hHashed (some ad) 0 cap 0 H256 (bs.take 0) _ rfl W' (hT.grew k) rfl H256_digs.1 ((hb.grew k).cut (by have := hLb.out; omega)) (hbd.take 0) hM (by omega)
    rw [← hst, hxx] at this
    refine this.mono ?_
    rintro e w' ⟨rfl, k'⟩
    exact ⟨rfl, k.trans k', k'⟩
  have JC : Hid (∀ w', Kept Nought w w' → w'.cell? ⟨0, 0, none⟩ = some (.int .u32 1779033703) ∧ w'.cell? ⟨0, 1, none⟩ = some (.int .u32 3144134277) ∧ w'.cell? ⟨0, 2, none⟩ = some (.int .u32 1013904242) ∧ w'.cell? ⟨0, 3, none⟩ = some (.int .u32 2773480762) ∧ w'.cell? ⟨0, 4, none⟩ = some (.int .u32 1359893119) ∧ w'.cell? ⟨0, 5, none⟩ = some (.int .u32 2600822924) ∧ w'.cell? ⟨0, 6, none⟩ = some (.int .u32 528734635) ∧ w'.cell? ⟨0, 7, none⟩ = some (.int .u32 1541459225)) := fun w' k => by
    have h := (hT.grew k).start
    exact ⟨h 0 (by omega), h 1 (by omega), h 2 (by omega), h 3 (by omega), h 4 (by omega), h 5 (by omega), h 6 (by omega), h 7 (by omega)⟩
  obtain ⟨g0, g1, g2, g3, g4, g5, g6, g7⟩ := JC.out w (Kept.refl _ _)
  obtain ⟨all, hall⟩ : ∃ all, all = bs.drop 0 ++ padN 0 := ⟨_, rfl⟩
  obtain ⟨M2, hM2⟩ : ∃ M2, all.length = 64 * M2 := ⟨all.length / 64, by
    have h1 := all_blocks 0
    have h2 := hLb.out
    rw [hall, List.length_append, List.length_drop, h2]
    omega⟩
  have hall2 : all.length ≤ 2000000 := by
    have := padN_length 0
    have : padZ 0 < 64 := Nat.mod_lt _ (by omega)
    have h2 := hLb.out
    rw [hall, List.length_append, List.length_drop, h2]
    omega
  have hald : Digs 256 all := by rw [hall]; exact (hbd.drop 0).append (padN_digs 0)
  obtain ⟨sf, hsf⟩ : ∃ sf, sf = hsN st all M2 := ⟨_, rfl⟩
  have hf8 := hsN_digs (s := st) (all := all) hh8.2 hh8.1 M2
  rw [← hsf] at hf8
  have HSum : Hid (sumN bs = outN sf 8) := by
    unfold Hid sumN
    have hle : bs.length = 0 := hLb.out
    have e1 : bs ++ padN 0 = bs.take 0 ++ all := by rw [hall, ← List.append_assoc, List.take_append_drop]
    have e2 : (bs.take 0).length = 0 := by rw [List.length_take, hle]; omega
    rw [hle, e1, List.length_append, e2, hM2, show (0 + 64 * M2) / 64 = 0 + M2 by omega, blks_hs, hs_more, ← hs_take H256 (bs.take 0 ++ all) 0 0 (by omega), List.take_left' e2, ← hst, show 64 * 0 = 0 by omega, List.drop_left' e2, hsf]
  obtain ⟨y0, y1, y2, y3, y4, y5, y6, y7, hyy⟩ : ∃ y0 y1 y2 y3 y4 y5 y6 y7, sf = [y0, y1, y2, y3, y4, y5, y6, y7] := by
    match sf, hf8.2 with
    | [a, b, c, d, e, f, g, h'], _ => exact ⟨a, b, c, d, e, f, g, h', rfl⟩
  have JP : Hid (∀ W', Kept Nought w W' → Calls Tryd.prog 29 #[.int .i64 (0 : Int)] W' fun e w' => ∃ (ad : Addr) (pc : Nat), e = .returned (.slice (some ad) (padN 0).length pc) ∧ Row .u8 w' (.slice (some ad) (padN 0).length pc) (padN 0) ∧ Kept Nought W' w') := fun W' _ => by
    refine (hPad (0 : Int) 0 (by omega) (by simp) W').mono ?_
    rintro e w' ⟨v', rfl, h1, h2⟩
    obtain ⟨po, pn, pc, rfl, hLp, _, _, _, hnp⟩ := h1.row.open
    have hpl := padN_length 0
    obtain rfl : pn = (padN 0).length := hLp.out.symm
    obtain ⟨pb, poff, e2, _⟩ := hnp 0 (by omega)
    cases e2
    exact ⟨_, _, rfl, h1.row, h2⟩
  have JF : Hid (∀ W' fo fc, Kept Nought w W' → Row .u8 W' (.slice fo all.length fc) all → Calls Tryd.prog 27 #[.agg #[.int .u32 (x0 : Int), .int .u32 (x1 : Int), .int .u32 (x2 : Int), .int .u32 (x3 : Int), .int .u32 (x4 : Int), .int .u32 (x5 : Int), .int .u32 (x6 : Int), .int .u32 (x7 : Int)], .slice fo all.length fc] W' fun e w' => e = .returned (.agg #[.int .u32 (y0 : Int), .int .u32 (y1 : Int), .int .u32 (y2 : Int), .int .u32 (y3 : Int), .int .u32 (y4 : Int), .int .u32 (y5 : Int), .int .u32 (y6 : Int), .int .u32 (y7 : Int)]) ∧ Kept Nought w w' ∧ Kept Nought W' w') := fun W' fo fc k hr => by
    have := hHashed fo all.length fc M2 st all #[.int .u32 (x0 : Int), .int .u32 (x1 : Int), .int .u32 (x2 : Int), .int .u32 (x3 : Int), .int .u32 (x4 : Int), .int .u32 (x5 : Int), .int .u32 (x6 : Int), .int .u32 (x7 : Int)] (by rw [hxx]; rfl) W' (hT.grew k) hh8.2 hh8.1 hr hald hM2 hall2
    rw [← hsf, hyy] at this
    refine this.mono ?_
    rintro e w' ⟨rfl, k'⟩
    exact ⟨rfl, k.trans k', k'⟩
  have JO : Hid (∀ W', Kept Nought w W' → Calls Tryd.prog 28 #[.agg #[.int .u32 (y0 : Int), .int .u32 (y1 : Int), .int .u32 (y2 : Int), .int .u32 (y3 : Int), .int .u32 (y4 : Int), .int .u32 (y5 : Int), .int .u32 (y6 : Int), .int .u32 (y7 : Int)]] W' fun e w' => ∃ v', e = .returned v' ∧ Row .u8 w' v' (outN sf 8) ∧ (∀ b, v'.ownBlock = some b → w.heap.size ≤ b) ∧ Kept Nought w w' ∧ Kept Nought W' w') := fun W' k => by
    refine (hBytesOf sf #[.int .u32 (y0 : Int), .int .u32 (y1 : Int), .int .u32 (y2 : Int), .int .u32 (y3 : Int), .int .u32 (y4 : Int), .int .u32 (y5 : Int), .int .u32 (y6 : Int), .int .u32 (y7 : Int)] (by rw [hyy]; rfl) W' hf8.2 hf8.1).mono ?_
    rintro e w' ⟨v', rfl, h1, h2, h3⟩
    exact ⟨v', rfl, h1, fun b hb => Nat.le_trans k.size (h2 b hb), k.trans h3, h3⟩
  obtain ⟨rs, hrs⟩ : ∃ rs, rs = bs.drop 0 := ⟨_, rfl⟩
  have HALL : Hid (rs ++ padN 0 = all) := by rw [hrs]; exact hall.symm
  have HRL : Hid (rs.length ≤ 1000000) := by unfold Hid; rw [hrs, List.length_drop, hLb.out]; omega
  have HPL : Hid ((padN 0).length ≤ 100) := by
    unfold Hid
    have := padN_length 0
    have : padZ 0 < 64 := Nat.mod_lt _ (by omega)
    omega
  rw [← hrs] at hrest
  have JRest := toHid hrest
  rw [← hbs]
  clear hbs hb0
  clear hrest hrs hb hbd hT hst hxx hh8 hall hM2 hall2 hald hsf hf8 hyy hM hmod
  go_enter Tryd.func19, Tryd.ntmps19
  go_wp2_with fail
  go_region_held3 (fun w' => w'.cell? ⟨0, 0, none⟩ = some (.int .u32 1779033703) ∧ w'.cell? ⟨0, 1, none⟩ = some (.int .u32 3144134277) ∧ w'.cell? ⟨0, 2, none⟩ = some (.int .u32 1013904242) ∧ w'.cell? ⟨0, 3, none⟩ = some (.int .u32 2773480762) ∧ w'.cell? ⟨0, 4, none⟩ = some (.int .u32 1359893119) ∧ w'.cell? ⟨0, 5, none⟩ = some (.int .u32 2600822924) ∧ w'.cell? ⟨0, 6, none⟩ = some (.int .u32 528734635) ∧ w'.cell? ⟨0, 7, none⟩ = some (.int .u32 1541459225))
    (((try dsimp only); (repeat' apply And.intro) <;> (repeat (first | (with_reducible assumption) | (with_reducible refine keepAl ?_) | (with_reducible refine keepDr ?_) | (with_reducible refine keepS8 ?_ (by dsimp only; omega)))); done))
    (first
    | (go_at_call 27; refine (JH.out _ ?_).mono ?_; (first | exact (Kept.refl Nought w).drew | exact ((Kept.refl Nought w).alloc _).drew); rintro e w8 ⟨rfl, ks0, kl0⟩; obtain ⟨l0, l1, l2, l3, l4, l5, l6, l7⟩ := JC.out w8 ks0; have sg : 0 < w.heap.size ∧ w.heap.size ≤ w8.heap.size := ⟨lt_of_cell g0, ks0.size⟩; obtain ⟨sg1, sg2⟩ := sg;
        first
        | (have hzz := Arr.grew (show Arr .u32 45 (w.alloc (.cells #[.int .u32 0, .int .u32 0, .int .u32 0, .int .u32 0, .int .u32 0, .int .u32 0, .int .u32 0, .int .u32 0] 45)).drew w.heap.size [0, 0, 0, 0, 0, 0, 0, 0] from heap_alloc_new w _) kl0; obtain ⟨⟨z0, z1, z2, z3, z4, z5, z6, z7⟩, f0, f1, f2, f3, f4, f5, f6, f7⟩ := zfacts hzz)
        | (have hzz : Arr .u32 45 (w8.alloc (.cells #[.int .u32 0, .int .u32 0, .int .u32 0, .int .u32 0, .int .u32 0, .int .u32 0, .int .u32 0, .int .u32 0] 45)) w8.heap.size [0, 0, 0, 0, 0, 0, 0, 0] := heap_alloc_new w8 _; obtain ⟨⟨z0, z1, z2, z3, z4, z5, z6, z7⟩, f0, f1, f2, f3, f4, f5, f6, f7⟩ := zfacts hzz)))
  · have hRR : Arr .u32 45 (w8.alloc (.cells #[.int .u32 (x0 : Int), .int .u32 (x1 : Int), .int .u32 (x2 : Int), .int .u32 (x3 : Int), .int .u32 (x4 : Int), .int .u32 (x5 : Int), .int .u32 (x6 : Int), .int .u32 (x7 : Int)] 45)) w8.heap.size [x0, x1, x2, x3, x4, x5, x6, x7] := heap_alloc_new w8 _
    have kAll := ks0.alloc (.cells #[.int .u32 (x0 : Int), .int .u32 (x1 : Int), .int .u32 (x2 : Int), .int .u32 (x3 : Int), .int .u32 (x4 : Int), .int .u32 (x5 : Int), .int .u32 (x6 : Int), .int .u32 (x7 : Int)] 45)
    obtain ⟨W3, hW3⟩ : ∃ W3, W3 = w8.alloc (.cells #[.int .u32 (x0 : Int), .int .u32 (x1 : Int), .int .u32 (x2 : Int), .int .u32 (x3 : Int), .int .u32 (x4 : Int), .int .u32 (x5 : Int), .int .u32 (x6 : Int), .int .u32 (x7 : Int)] 45) := ⟨_, rfl⟩
    rw [← hW3] at hRR kAll ⊢
    obtain ⟨R, hRe⟩ : ∃ R, R = w8.heap.size := ⟨_, rfl⟩
    rw [← hRe] at hRR ⊢
    have hRl : R < W3.heap.size := lt_of_block hRR
    have HRR := toHid hRR
    have HKA := toHid kAll
    have JR : Hid (∀ w', Kept Nought W3 w' → w'.cell? ⟨R, 0, none⟩ = some (.int .u32 (x0 : Int)) ∧ w'.cell? ⟨R, 1, none⟩ = some (.int .u32 (x1 : Int)) ∧ w'.cell? ⟨R, 2, none⟩ = some (.int .u32 (x2 : Int)) ∧ w'.cell? ⟨R, 3, none⟩ = some (.int .u32 (x3 : Int)) ∧ w'.cell? ⟨R, 4, none⟩ = some (.int .u32 (x4 : Int)) ∧ w'.cell? ⟨R, 5, none⟩ = some (.int .u32 (x5 : Int)) ∧ w'.cell? ⟨R, 6, none⟩ = some (.int .u32 (x6 : Int)) ∧ w'.cell? ⟨R, 7, none⟩ = some (.int .u32 (x7 : Int))) := fun w' k => by
      have h := hRR.grew k
      exact ⟨h.cell 0 (by simp), h.cell 1 (by simp), h.cell 2 (by simp), h.cell 3 (by simp), h.cell 4 (by simp), h.cell 5 (by simp), h.cell 6 (by simp), h.cell 7 (by simp)⟩
    have hrow := JRest.out W3 kAll
    have HRW := toHid (hrow.grew ((Kept.refl Nought W3).alloc (.cells #[] 5)))
    have HE : Hid (OwnB (W3.alloc (.cells #[] 5)) W3.heap.size (.slice (some ⟨W3.heap.size, 0, none⟩) 0 0) []) := OwnB.of (own_of_block (k := .u8) (zs := []) (heap_alloc_new W3 (.cells #[] 5)) rfl (by unfold maxLen; omega) (Nat.le_refl _))
    clear hRe hW3 hRR kAll hrow JRest JH JC hzz ks0 kl0 sg1 sg2 g0 g1 g2 g3 g4 g5 g6 g7 l0 l1 l2 l3 l4 l5 l6 l7 z0 z1 z2 z3 z4 z5 z6 z7 f0 f1 f2 f3 f4 f5 f6 f7
    go_wp2_with (at_builtin; refine wpList_append_row rfl _ _ rfl W3.heap.size _ [] rfl HE.out _ rfl rs HRW.out ?qc ?qd ?_)
    case qc => have := HRL.out; simp only [List.length_nil]; omega
    case qd => simp
    intro v4 w4 ho4 hg4
    have k4 : Kept Nought W3 w4 := ((Kept.refl Nought W3).alloc (.cells #[] 5)).grown hg4 (fun k hk hlt => by
      have := (HE.out.lt k hk).1
      omega)
    obtain ⟨vo, vc, rfl⟩ := own_slice ho4
    obtain ⟨dn, hdn⟩ : ∃ dn, dn = rs.length := ⟨_, rfl⟩
    rw [← hdn] at ho4 ⊢
    have HO4 : Hid (OwnB w4 W3.heap.size (.slice vo dn vc) rs) := OwnB.of ho4
    have HDN := toHid hdn
    have K4 := toHid k4
    obtain ⟨q0, q1, q2, q3, q4, q5, q6, q7⟩ := JR.out w4 k4
    clear ho4 hg4 k4 HE HRW hdn
    go_wp2_with fail
    go_region_held3 (fun w' => w'.cell? ⟨R, 0, none⟩ = some (.int .u32 (x0 : Int)) ∧ w'.cell? ⟨R, 1, none⟩ = some (.int .u32 (x1 : Int)) ∧ w'.cell? ⟨R, 2, none⟩ = some (.int .u32 (x2 : Int)) ∧ w'.cell? ⟨R, 3, none⟩ = some (.int .u32 (x3 : Int)) ∧ w'.cell? ⟨R, 4, none⟩ = some (.int .u32 (x4 : Int)) ∧ w'.cell? ⟨R, 5, none⟩ = some (.int .u32 (x5 : Int)) ∧ w'.cell? ⟨R, 6, none⟩ = some (.int .u32 (x6 : Int)) ∧ w'.cell? ⟨R, 7, none⟩ = some (.int .u32 (x7 : Int)))
      (((try dsimp only); (repeat' apply And.intro) <;> (repeat (first | (with_reducible assumption) | (with_reducible refine keepAl ?_) | (with_reducible refine keepDr ?_) | (with_reducible refine keepS8 ?_ (by dsimp only; omega)))); done))
      (first
      | (refine step_append_row (by rfl) _ _ (by rfl) W3.heap.size _ rs (by rfl) (HO4.out.grew kq5) ad5 _ pc5 (by rfl) (padN 0) r5 (by have := HRL.out; have := HPL.out; omega) k35.size ?_; intro v6 w6 ho6 hg6; rw [HALL.out] at ho6; have k36 := k35.grown hg6 (fun k hk hlt => by have := ((HO4.out.grew kq5).lt k hk).1; omega); obtain ⟨fo6, fc6, rfl⟩ := own_slice ho6; obtain ⟨s0, s1, s2, s3, s4, s5, s6, s7⟩ := JR.out w6 k36)
      | (go_at_call 28; refine (JO.out _ k7).mono ?_; rintro e w9 ⟨v9, rfl, r9, f9, k9, kl9⟩; obtain ⟨u0, u1, u2, u3, u4, u5, u6, u7⟩ := JR.out w9 (k37.trans kl9))
      | (go_at_call 27; refine (JF.out _ fo6 fc6 (HKA.out.trans k36) (OwnB.row ho6)).mono ?_; rintro e w7 ⟨rfl, k7, kl7⟩; have k37 := k36.trans kl7; obtain ⟨t0, t1, t2, t3, t4, t5, t6, t7⟩ := JR.out w7 k37)
      | (go_at_call 29; refine (JP.out _ ((HKA.out.trans K4.out).drew)).mono ?_; rintro e w5 ⟨ad5, pc5, rfl, r5, kl5⟩; have kq5 := (Kept.refl Nought w4).drew.trans kl5; have k35 := K4.out.trans kq5; obtain ⟨v0, v1, v2, v3, v4, v5, v6, v7⟩ := JR.out w5 k35))
    all_goals
      go_wp2_with fail
      go_ret
      rw [HSum.out]
      exact ⟨_, rfl, r9, f9, k9⟩
  · have hRR := hzz.put8 rfl x0 x1 x2 x3 x4 x5 x6 x7
    have kAll := ks0.next (kept8 w8 w.heap.size (.int .u32 (x0 : Nat)) (.int .u32 (x1 : Nat)) (.int .u32 (x2 : Nat)) (.int .u32 (x3 : Nat)) (.int .u32 (x4 : Nat)) (.int .u32 (x5 : Nat)) (.int .u32 (x6 : Nat)) (.int .u32 (x7 : Nat))) (fun x hx e => by have e' : x = w.heap.size := e; omega)
    obtain ⟨W3, hW3⟩ : ∃ W3, W3 = (((((((w8.setCell ⟨w.heap.size, 0, none⟩ (.int .u32 (x0 : Nat))).setCell ⟨w.heap.size, 1, none⟩ (.int .u32 (x1 : Nat))).setCell ⟨w.heap.size, 2, none⟩ (.int .u32 (x2 : Nat))).setCell ⟨w.heap.size, 3, none⟩ (.int .u32 (x3 : Nat))).setCell ⟨w.heap.size, 4, none⟩ (.int .u32 (x4 : Nat))).setCell ⟨w.heap.size, 5, none⟩ (.int .u32 (x5 : Nat))).setCell ⟨w.heap.size, 6, none⟩ (.int .u32 (x6 : Nat))).setCell ⟨w.heap.size, 7, none⟩ (.int .u32 (x7 : Nat)) := ⟨_, rfl⟩
    rw [← hW3] at hRR kAll ⊢
    obtain ⟨R, hRe⟩ : ∃ R, R = w.heap.size := ⟨_, rfl⟩
    rw [← hRe] at hRR ⊢
    have hRl : R < W3.heap.size := lt_of_block hRR
    have HRR := toHid hRR
    have HKA := toHid kAll
    have JR : Hid (∀ w', Kept Nought W3 w' → w'.cell? ⟨R, 0, none⟩ = some (.int .u32 (x0 : Int)) ∧ w'.cell? ⟨R, 1, none⟩ = some (.int .u32 (x1 : Int)) ∧ w'.cell? ⟨R, 2, none⟩ = some (.int .u32 (x2 : Int)) ∧ w'.cell? ⟨R, 3, none⟩ = some (.int .u32 (x3 : Int)) ∧ w'.cell? ⟨R, 4, none⟩ = some (.int .u32 (x4 : Int)) ∧ w'.cell? ⟨R, 5, none⟩ = some (.int .u32 (x5 : Int)) ∧ w'.cell? ⟨R, 6, none⟩ = some (.int .u32 (x6 : Int)) ∧ w'.cell? ⟨R, 7, none⟩ = some (.int .u32 (x7 : Int))) := fun w' k => by
      have h := hRR.grew k
      exact ⟨h.cell 0 (by simp), h.cell 1 (by simp), h.cell 2 (by simp), h.cell 3 (by simp), h.cell 4 (by simp), h.cell 5 (by simp), h.cell 6 (by simp), h.cell 7 (by simp)⟩
    have hrow := JRest.out W3 kAll
    have HRW := toHid (hrow.grew ((Kept.refl Nought W3).alloc (.cells #[] 5)))
    have HE : Hid (OwnB (W3.alloc (.cells #[] 5)) W3.heap.size (.slice (some ⟨W3.heap.size, 0, none⟩) 0 0) []) := OwnB.of (own_of_block (k := .u8) (zs := []) (heap_alloc_new W3 (.cells #[] 5)) rfl (by unfold maxLen; omega) (Nat.le_refl _))
    clear hRe hW3 hRR kAll hrow JRest JH JC hzz ks0 kl0 sg1 sg2 g0 g1 g2 g3 g4 g5 g6 g7 l0 l1 l2 l3 l4 l5 l6 l7 z0 z1 z2 z3 z4 z5 z6 z7 f0 f1 f2 f3 f4 f5 f6 f7
    go_wp2_with (at_builtin; refine wpList_append_row rfl _ _ rfl W3.heap.size _ [] rfl HE.out _ rfl rs HRW.out ?qc ?qd ?_)
    case qc => have := HRL.out; simp only [List.length_nil]; omega
    case qd => simp
    intro v4 w4 ho4 hg4
    have k4 : Kept Nought W3 w4 := ((Kept.refl Nought W3).alloc (.cells #[] 5)).grown hg4 (fun k hk hlt => by
      have := (HE.out.lt k hk).1
      omega)
    obtain ⟨vo, vc, rfl⟩ := own_slice ho4
    obtain ⟨dn, hdn⟩ : ∃ dn, dn = rs.length := ⟨_, rfl⟩
    rw [← hdn] at ho4 ⊢
    have HO4 : Hid (OwnB w4 W3.heap.size (.slice vo dn vc) rs) := OwnB.of ho4
    have HDN := toHid hdn
    have K4 := toHid k4
    obtain ⟨q0, q1, q2, q3, q4, q5, q6, q7⟩ := JR.out w4 k4
    clear ho4 hg4 k4 HE HRW hdn
    go_wp2_with fail
    go_region_held3 (fun w' => w'.cell? ⟨R, 0, none⟩ = some (.int .u32 (x0 : Int)) ∧ w'.cell? ⟨R, 1, none⟩ = some (.int .u32 (x1 : Int)) ∧ w'.cell? ⟨R, 2, none⟩ = some (.int .u32 (x2 : Int)) ∧ w'.cell? ⟨R, 3, none⟩ = some (.int .u32 (x3 : Int)) ∧ w'.cell? ⟨R, 4, none⟩ = some (.int .u32 (x4 : Int)) ∧ w'.cell? ⟨R, 5, none⟩ = some (.int .u32 (x5 : Int)) ∧ w'.cell? ⟨R, 6, none⟩ = some (.int .u32 (x6 : Int)) ∧ w'.cell? ⟨R, 7, none⟩ = some (.int .u32 (x7 : Int)))
      (((try dsimp only); (repeat' apply And.intro) <;> (repeat (first | (with_reducible assumption) | (with_reducible refine keepAl ?_) | (with_reducible refine keepDr ?_) | (with_reducible refine keepS8 ?_ (by dsimp only; omega)))); done))
      (first
      | (refine step_append_row (by rfl) _ _ (by rfl) W3.heap.size _ rs (by rfl) (HO4.out.grew kq5) ad5 _ pc5 (by rfl) (padN 0) r5 (by have := HRL.out; have := HPL.out; omega) k35.size ?_; intro v6 w6 ho6 hg6; rw [HALL.out] at ho6; have k36 := k35.grown hg6 (fun k hk hlt => by have := ((HO4.out.grew kq5).lt k hk).1; omega); obtain ⟨fo6, fc6, rfl⟩ := own_slice ho6; obtain ⟨s0, s1, s2, s3, s4, s5, s6, s7⟩ := JR.out w6 k36)
      | (go_at_call 28; refine (JO.out _ k7).mono ?_; rintro e w9 ⟨v9, rfl, r9, f9, k9, kl9⟩; obtain ⟨u0, u1, u2, u3, u4, u5, u6, u7⟩ := JR.out w9 (k37.trans kl9))
      | (go_at_call 27; refine (JF.out _ fo6 fc6 (HKA.out.trans k36) (OwnB.row ho6)).mono ?_; rintro e w7 ⟨rfl, k7, kl7⟩; have k37 := k36.trans kl7; obtain ⟨t0, t1, t2, t3, t4, t5, t6, t7⟩ := JR.out w7 k37)
      | (go_at_call 29; refine (JP.out _ ((HKA.out.trans K4.out).drew)).mono ?_; rintro e w5 ⟨ad5, pc5, rfl, r5, kl5⟩; have kq5 := (Kept.refl Nought w4).drew.trans kl5; have k35 := K4.out.trans kq5; obtain ⟨v0, v1, v2, v3, v4, v5, v6, v7⟩ := JR.out w5 k35))
    all_goals
      go_wp2_with fail
      go_ret
      rw [HSum.out]
      exact ⟨_, rfl, r9, f9, k9⟩

set_option maxRecDepth 40000 in
set_option maxHeartbeats 4000000 in
/-- Sum, of bytes in whole blocks that fill their memory. -/
theorem hSumW (yb yoff L : Nat) (bs : List Nat) (w : World) (hT : Tab11 w) (hb : Row .u8 w (.slice (some ⟨yb, yoff, none⟩) L L) bs) (hbd : Digs 256 bs) (hL : L ≤ 1000000) (h64 : L % 64 = 0) :
    Calls Tryd.prog 19 #[.slice (some ⟨yb, yoff, none⟩) L L] w fun e w' => ∃ v', e = .returned v' ∧ Row .u8 w' v' (sumN bs) ∧ (∀ b, v'.ownBlock = some b → w.heap.size ≤ b) ∧ Kept Nought w w' := by
  obtain ⟨_, _, _, e1, hLb, _, _, _, _⟩ := hb.open
  cases e1
  have g64 : (L : Int) % 64 = 0 := by omega
  have gz : (0 : Int) ≤ (L : Int) := by omega
  have hrest : ∀ W, Kept Nought w W → Row .u8 W (.slice (some ⟨yb, yoff, none⟩) 0 0) (bs.drop L) := fun W _ => by
    rw [List.drop_of_length_le (Nat.le_of_eq hLb.out)]
    exact row_none _ _ _
  have hM : L = 64 * (L / 64) := by omega
  have hmod : L / 64 = L / 64 := rfl
  have hh8 := hsN_digs (s := H256) (all := bs.take L) rfl H256_digs.1 (L / 64)
  obtain ⟨st, hst⟩ : ∃ st, st = hsN H256 (bs.take L) (L / 64) := ⟨_, rfl⟩
  rw [← hst] at hh8
  obtain ⟨x0, x1, x2, x3, x4, x5, x6, x7, hxx⟩ : ∃ x0 x1 x2 x3 x4 x5 x6 x7, st = [x0, x1, x2, x3, x4, x5, x6, x7] := by
    match st, hh8.2 with
    | [a, b, c, d, e, f, g, h'], _ => exact ⟨a, b, c, d, e, f, g, h', rfl⟩
  have JH : Hid (∀ W', Kept Nought w W' → Calls Tryd.prog 27 #[.agg #[.int .u32 1779033703, .int .u32 3144134277, .int .u32 1013904242, .int .u32 2773480762, .int .u32 1359893119, .int .u32 2600822924, .int .u32 528734635, .int .u32 1541459225], .slice (some ⟨yb, yoff, none⟩) L L] W' fun e w' => e = .returned (.agg #[.int .u32 (x0 : Int), .int .u32 (x1 : Int), .int .u32 (x2 : Int), .int .u32 (x3 : Int), .int .u32 (x4 : Int), .int .u32 (x5 : Int), .int .u32 (x6 : Int), .int .u32 (x7 : Int)]) ∧ Kept Nought w w' ∧ Kept Nought W' w') := fun W' k => by
    have := hHashed (some ⟨yb, yoff, none⟩) L L (L / 64) H256 (bs.take L) _ rfl W' (hT.grew k) rfl H256_digs.1 ((hb.grew k).cut (by have := hLb.out; omega)) (hbd.take L) hM (by omega)
    rw [← hst, hxx] at this
    refine this.mono ?_
    rintro e w' ⟨rfl, k'⟩
    exact ⟨rfl, k.trans k', k'⟩
  have JC : Hid (∀ w', Kept Nought w w' → w'.cell? ⟨0, 0, none⟩ = some (.int .u32 1779033703) ∧ w'.cell? ⟨0, 1, none⟩ = some (.int .u32 3144134277) ∧ w'.cell? ⟨0, 2, none⟩ = some (.int .u32 1013904242) ∧ w'.cell? ⟨0, 3, none⟩ = some (.int .u32 2773480762) ∧ w'.cell? ⟨0, 4, none⟩ = some (.int .u32 1359893119) ∧ w'.cell? ⟨0, 5, none⟩ = some (.int .u32 2600822924) ∧ w'.cell? ⟨0, 6, none⟩ = some (.int .u32 528734635) ∧ w'.cell? ⟨0, 7, none⟩ = some (.int .u32 1541459225)) := fun w' k => by
    have h := (hT.grew k).start
    exact ⟨h 0 (by omega), h 1 (by omega), h 2 (by omega), h 3 (by omega), h 4 (by omega), h 5 (by omega), h 6 (by omega), h 7 (by omega)⟩
  obtain ⟨g0, g1, g2, g3, g4, g5, g6, g7⟩ := JC.out w (Kept.refl _ _)
  obtain ⟨all, hall⟩ : ∃ all, all = bs.drop L ++ padN L := ⟨_, rfl⟩
  obtain ⟨M2, hM2⟩ : ∃ M2, all.length = 64 * M2 := ⟨all.length / 64, by
    have h1 := all_blocks L
    have h2 := hLb.out
    rw [hall, List.length_append, List.length_drop, h2]
    omega⟩
  have hall2 : all.length ≤ 2000000 := by
    have := padN_length L
    have : padZ L < 64 := Nat.mod_lt _ (by omega)
    have h2 := hLb.out
    rw [hall, List.length_append, List.length_drop, h2]
    omega
  have hald : Digs 256 all := by rw [hall]; exact (hbd.drop L).append (padN_digs L)
  obtain ⟨sf, hsf⟩ : ∃ sf, sf = hsN st all M2 := ⟨_, rfl⟩
  have hf8 := hsN_digs (s := st) (all := all) hh8.2 hh8.1 M2
  rw [← hsf] at hf8
  have HSum : Hid (sumN bs = outN sf 8) := by
    unfold Hid sumN
    have hle : bs.length = L := hLb.out
    have e1 : bs ++ padN L = bs.take L ++ all := by rw [hall, ← List.append_assoc, List.take_append_drop]
    have e2 : (bs.take L).length = L := by rw [List.length_take, hle]; omega
    rw [hle, e1, List.length_append, e2, hM2, show (L + 64 * M2) / 64 = (L / 64) + M2 by omega, blks_hs, hs_more, ← hs_take H256 (bs.take L ++ all) L (L / 64) (by omega), List.take_left' e2, ← hst, show 64 * (L / 64) = L by omega, List.drop_left' e2, hsf]
  obtain ⟨y0, y1, y2, y3, y4, y5, y6, y7, hyy⟩ : ∃ y0 y1 y2 y3 y4 y5 y6 y7, sf = [y0, y1, y2, y3, y4, y5, y6, y7] := by
    match sf, hf8.2 with
    | [a, b, c, d, e, f, g, h'], _ => exact ⟨a, b, c, d, e, f, g, h', rfl⟩
  have JP : Hid (∀ W', Kept Nought w W' → Calls Tryd.prog 29 #[.int .i64 (L : Int)] W' fun e w' => ∃ (ad : Addr) (pc : Nat), e = .returned (.slice (some ad) (padN L).length pc) ∧ Row .u8 w' (.slice (some ad) (padN L).length pc) (padN L) ∧ Kept Nought W' w') := fun W' _ => by
    refine (hPad (L : Int) L (by omega) (by simp) W').mono ?_
    rintro e w' ⟨v', rfl, h1, h2⟩
    obtain ⟨po, pn, pc, rfl, hLp, _, _, _, hnp⟩ := h1.row.open
    have hpl := padN_length L
    obtain rfl : pn = (padN L).length := hLp.out.symm
    obtain ⟨pb, poff, e2, _⟩ := hnp 0 (by omega)
    cases e2
    exact ⟨_, _, rfl, h1.row, h2⟩
  have JF : Hid (∀ W' fo fc, Kept Nought w W' → Row .u8 W' (.slice fo all.length fc) all → Calls Tryd.prog 27 #[.agg #[.int .u32 (x0 : Int), .int .u32 (x1 : Int), .int .u32 (x2 : Int), .int .u32 (x3 : Int), .int .u32 (x4 : Int), .int .u32 (x5 : Int), .int .u32 (x6 : Int), .int .u32 (x7 : Int)], .slice fo all.length fc] W' fun e w' => e = .returned (.agg #[.int .u32 (y0 : Int), .int .u32 (y1 : Int), .int .u32 (y2 : Int), .int .u32 (y3 : Int), .int .u32 (y4 : Int), .int .u32 (y5 : Int), .int .u32 (y6 : Int), .int .u32 (y7 : Int)]) ∧ Kept Nought w w' ∧ Kept Nought W' w') := fun W' fo fc k hr => by
    have := hHashed fo all.length fc M2 st all #[.int .u32 (x0 : Int), .int .u32 (x1 : Int), .int .u32 (x2 : Int), .int .u32 (x3 : Int), .int .u32 (x4 : Int), .int .u32 (x5 : Int), .int .u32 (x6 : Int), .int .u32 (x7 : Int)] (by rw [hxx]; rfl) W' (hT.grew k) hh8.2 hh8.1 hr hald hM2 hall2
    rw [← hsf, hyy] at this
    refine this.mono ?_
    rintro e w' ⟨rfl, k'⟩
    exact ⟨rfl, k.trans k', k'⟩
  have JO : Hid (∀ W', Kept Nought w W' → Calls Tryd.prog 28 #[.agg #[.int .u32 (y0 : Int), .int .u32 (y1 : Int), .int .u32 (y2 : Int), .int .u32 (y3 : Int), .int .u32 (y4 : Int), .int .u32 (y5 : Int), .int .u32 (y6 : Int), .int .u32 (y7 : Int)]] W' fun e w' => ∃ v', e = .returned v' ∧ Row .u8 w' v' (outN sf 8) ∧ (∀ b, v'.ownBlock = some b → w.heap.size ≤ b) ∧ Kept Nought w w' ∧ Kept Nought W' w') := fun W' k => by
    refine (hBytesOf sf #[.int .u32 (y0 : Int), .int .u32 (y1 : Int), .int .u32 (y2 : Int), .int .u32 (y3 : Int), .int .u32 (y4 : Int), .int .u32 (y5 : Int), .int .u32 (y6 : Int), .int .u32 (y7 : Int)] (by rw [hyy]; rfl) W' hf8.2 hf8.1).mono ?_
    rintro e w' ⟨v', rfl, h1, h2, h3⟩
    exact ⟨v', rfl, h1, fun b hb => Nat.le_trans k.size (h2 b hb), k.trans h3, h3⟩
  obtain ⟨rs, hrs⟩ : ∃ rs, rs = bs.drop L := ⟨_, rfl⟩
  have HALL : Hid (rs ++ padN L = all) := by rw [hrs]; exact hall.symm
  have HRL : Hid (rs.length ≤ 1000000) := by unfold Hid; rw [hrs, List.length_drop, hLb.out]; omega
  have HPL : Hid ((padN L).length ≤ 100) := by
    unfold Hid
    have := padN_length L
    have : padZ L < 64 := Nat.mod_lt _ (by omega)
    omega
  rw [← hrs] at hrest
  have JRest := toHid hrest
  clear hrest hrs hb hbd hT hst hxx hh8 hall hM2 hall2 hald hsf hf8 hyy hM hmod
  go_enter Tryd.func19, Tryd.ntmps19
  go_wp2_with fail
  go_region_held3 (fun w' => w'.cell? ⟨0, 0, none⟩ = some (.int .u32 1779033703) ∧ w'.cell? ⟨0, 1, none⟩ = some (.int .u32 3144134277) ∧ w'.cell? ⟨0, 2, none⟩ = some (.int .u32 1013904242) ∧ w'.cell? ⟨0, 3, none⟩ = some (.int .u32 2773480762) ∧ w'.cell? ⟨0, 4, none⟩ = some (.int .u32 1359893119) ∧ w'.cell? ⟨0, 5, none⟩ = some (.int .u32 2600822924) ∧ w'.cell? ⟨0, 6, none⟩ = some (.int .u32 528734635) ∧ w'.cell? ⟨0, 7, none⟩ = some (.int .u32 1541459225))
    (((try dsimp only); (repeat' apply And.intro) <;> (repeat (first | (with_reducible assumption) | (with_reducible refine keepAl ?_) | (with_reducible refine keepDr ?_) | (with_reducible refine keepS8 ?_ (by dsimp only; omega)))); done))
    (first
    | (go_at_call 27; refine (JH.out _ ?_).mono ?_; (first | exact (Kept.refl Nought w).drew | exact ((Kept.refl Nought w).alloc _).drew); rintro e w8 ⟨rfl, ks0, kl0⟩; obtain ⟨l0, l1, l2, l3, l4, l5, l6, l7⟩ := JC.out w8 ks0; have sg : 0 < w.heap.size ∧ w.heap.size ≤ w8.heap.size := ⟨lt_of_cell g0, ks0.size⟩; obtain ⟨sg1, sg2⟩ := sg;
        first
        | (have hzz := Arr.grew (show Arr .u32 45 (w.alloc (.cells #[.int .u32 0, .int .u32 0, .int .u32 0, .int .u32 0, .int .u32 0, .int .u32 0, .int .u32 0, .int .u32 0] 45)).drew w.heap.size [0, 0, 0, 0, 0, 0, 0, 0] from heap_alloc_new w _) kl0; obtain ⟨⟨z0, z1, z2, z3, z4, z5, z6, z7⟩, f0, f1, f2, f3, f4, f5, f6, f7⟩ := zfacts hzz)
        | (have hzz : Arr .u32 45 (w8.alloc (.cells #[.int .u32 0, .int .u32 0, .int .u32 0, .int .u32 0, .int .u32 0, .int .u32 0, .int .u32 0, .int .u32 0] 45)) w8.heap.size [0, 0, 0, 0, 0, 0, 0, 0] := heap_alloc_new w8 _; obtain ⟨⟨z0, z1, z2, z3, z4, z5, z6, z7⟩, f0, f1, f2, f3, f4, f5, f6, f7⟩ := zfacts hzz)))
  · have hRR : Arr .u32 45 (w8.alloc (.cells #[.int .u32 (x0 : Int), .int .u32 (x1 : Int), .int .u32 (x2 : Int), .int .u32 (x3 : Int), .int .u32 (x4 : Int), .int .u32 (x5 : Int), .int .u32 (x6 : Int), .int .u32 (x7 : Int)] 45)) w8.heap.size [x0, x1, x2, x3, x4, x5, x6, x7] := heap_alloc_new w8 _
    have kAll := ks0.alloc (.cells #[.int .u32 (x0 : Int), .int .u32 (x1 : Int), .int .u32 (x2 : Int), .int .u32 (x3 : Int), .int .u32 (x4 : Int), .int .u32 (x5 : Int), .int .u32 (x6 : Int), .int .u32 (x7 : Int)] 45)
    obtain ⟨W3, hW3⟩ : ∃ W3, W3 = w8.alloc (.cells #[.int .u32 (x0 : Int), .int .u32 (x1 : Int), .int .u32 (x2 : Int), .int .u32 (x3 : Int), .int .u32 (x4 : Int), .int .u32 (x5 : Int), .int .u32 (x6 : Int), .int .u32 (x7 : Int)] 45) := ⟨_, rfl⟩
    rw [← hW3] at hRR kAll ⊢
    obtain ⟨R, hRe⟩ : ∃ R, R = w8.heap.size := ⟨_, rfl⟩
    rw [← hRe] at hRR ⊢
    have hRl : R < W3.heap.size := lt_of_block hRR
    have HRR := toHid hRR
    have HKA := toHid kAll
    have JR : Hid (∀ w', Kept Nought W3 w' → w'.cell? ⟨R, 0, none⟩ = some (.int .u32 (x0 : Int)) ∧ w'.cell? ⟨R, 1, none⟩ = some (.int .u32 (x1 : Int)) ∧ w'.cell? ⟨R, 2, none⟩ = some (.int .u32 (x2 : Int)) ∧ w'.cell? ⟨R, 3, none⟩ = some (.int .u32 (x3 : Int)) ∧ w'.cell? ⟨R, 4, none⟩ = some (.int .u32 (x4 : Int)) ∧ w'.cell? ⟨R, 5, none⟩ = some (.int .u32 (x5 : Int)) ∧ w'.cell? ⟨R, 6, none⟩ = some (.int .u32 (x6 : Int)) ∧ w'.cell? ⟨R, 7, none⟩ = some (.int .u32 (x7 : Int))) := fun w' k => by
      have h := hRR.grew k
      exact ⟨h.cell 0 (by simp), h.cell 1 (by simp), h.cell 2 (by simp), h.cell 3 (by simp), h.cell 4 (by simp), h.cell 5 (by simp), h.cell 6 (by simp), h.cell 7 (by simp)⟩
    have hrow := JRest.out W3 kAll
    have HRW := toHid (hrow.grew ((Kept.refl Nought W3).alloc (.cells #[] 5)))
    have HE : Hid (OwnB (W3.alloc (.cells #[] 5)) W3.heap.size (.slice (some ⟨W3.heap.size, 0, none⟩) 0 0) []) := OwnB.of (own_of_block (k := .u8) (zs := []) (heap_alloc_new W3 (.cells #[] 5)) rfl (by unfold maxLen; omega) (Nat.le_refl _))
    clear hRe hW3 hRR kAll hrow JRest JH JC hzz ks0 kl0 sg1 sg2 g0 g1 g2 g3 g4 g5 g6 g7 l0 l1 l2 l3 l4 l5 l6 l7 z0 z1 z2 z3 z4 z5 z6 z7 f0 f1 f2 f3 f4 f5 f6 f7
    go_wp2_with (at_builtin; refine wpList_append_row rfl _ _ rfl W3.heap.size _ [] rfl HE.out _ rfl rs HRW.out ?qc ?qd ?_)
    case qc => have := HRL.out; simp only [List.length_nil]; omega
    case qd => simp
    intro v4 w4 ho4 hg4
    have k4 : Kept Nought W3 w4 := ((Kept.refl Nought W3).alloc (.cells #[] 5)).grown hg4 (fun k hk hlt => by
      have := (HE.out.lt k hk).1
      omega)
    obtain ⟨vo, vc, rfl⟩ := own_slice ho4
    obtain ⟨dn, hdn⟩ : ∃ dn, dn = rs.length := ⟨_, rfl⟩
    rw [← hdn] at ho4 ⊢
    have HO4 : Hid (OwnB w4 W3.heap.size (.slice vo dn vc) rs) := OwnB.of ho4
    have HDN := toHid hdn
    have K4 := toHid k4
    obtain ⟨q0, q1, q2, q3, q4, q5, q6, q7⟩ := JR.out w4 k4
    clear ho4 hg4 k4 HE HRW hdn
    go_wp2_with fail
    go_region_held3 (fun w' => w'.cell? ⟨R, 0, none⟩ = some (.int .u32 (x0 : Int)) ∧ w'.cell? ⟨R, 1, none⟩ = some (.int .u32 (x1 : Int)) ∧ w'.cell? ⟨R, 2, none⟩ = some (.int .u32 (x2 : Int)) ∧ w'.cell? ⟨R, 3, none⟩ = some (.int .u32 (x3 : Int)) ∧ w'.cell? ⟨R, 4, none⟩ = some (.int .u32 (x4 : Int)) ∧ w'.cell? ⟨R, 5, none⟩ = some (.int .u32 (x5 : Int)) ∧ w'.cell? ⟨R, 6, none⟩ = some (.int .u32 (x6 : Int)) ∧ w'.cell? ⟨R, 7, none⟩ = some (.int .u32 (x7 : Int)))
      (((try dsimp only); (repeat' apply And.intro) <;> (repeat (first | (with_reducible assumption) | (with_reducible refine keepAl ?_) | (with_reducible refine keepDr ?_) | (with_reducible refine keepS8 ?_ (by dsimp only; omega)))); done))
      (first
      | (refine step_append_row (by rfl) _ _ (by rfl) W3.heap.size _ rs (by rfl) (HO4.out.grew kq5) ad5 _ pc5 (by rfl) (padN L) r5 (by have := HRL.out; have := HPL.out; omega) k35.size ?_; intro v6 w6 ho6 hg6; rw [HALL.out] at ho6; have k36 := k35.grown hg6 (fun k hk hlt => by have := ((HO4.out.grew kq5).lt k hk).1; omega); obtain ⟨fo6, fc6, rfl⟩ := own_slice ho6; obtain ⟨s0, s1, s2, s3, s4, s5, s6, s7⟩ := JR.out w6 k36)
      | (go_at_call 28; refine (JO.out _ k7).mono ?_; rintro e w9 ⟨v9, rfl, r9, f9, k9, kl9⟩; obtain ⟨u0, u1, u2, u3, u4, u5, u6, u7⟩ := JR.out w9 (k37.trans kl9))
      | (go_at_call 27; refine (JF.out _ fo6 fc6 (HKA.out.trans k36) (OwnB.row ho6)).mono ?_; rintro e w7 ⟨rfl, k7, kl7⟩; have k37 := k36.trans kl7; obtain ⟨t0, t1, t2, t3, t4, t5, t6, t7⟩ := JR.out w7 k37)
      | (go_at_call 29; refine (JP.out _ ((HKA.out.trans K4.out).drew)).mono ?_; rintro e w5 ⟨ad5, pc5, rfl, r5, kl5⟩; have kq5 := (Kept.refl Nought w4).drew.trans kl5; have k35 := K4.out.trans kq5; obtain ⟨v0, v1, v2, v3, v4, v5, v6, v7⟩ := JR.out w5 k35))
    all_goals
      go_wp2_with fail
      go_ret
      rw [HSum.out]
      exact ⟨_, rfl, r9, f9, k9⟩
  · have hRR := hzz.put8 rfl x0 x1 x2 x3 x4 x5 x6 x7
    have kAll := ks0.next (kept8 w8 w.heap.size (.int .u32 (x0 : Nat)) (.int .u32 (x1 : Nat)) (.int .u32 (x2 : Nat)) (.int .u32 (x3 : Nat)) (.int .u32 (x4 : Nat)) (.int .u32 (x5 : Nat)) (.int .u32 (x6 : Nat)) (.int .u32 (x7 : Nat))) (fun x hx e => by have e' : x = w.heap.size := e; omega)
    obtain ⟨W3, hW3⟩ : ∃ W3, W3 = (((((((w8.setCell ⟨w.heap.size, 0, none⟩ (.int .u32 (x0 : Nat))).setCell ⟨w.heap.size, 1, none⟩ (.int .u32 (x1 : Nat))).setCell ⟨w.heap.size, 2, none⟩ (.int .u32 (x2 : Nat))).setCell ⟨w.heap.size, 3, none⟩ (.int .u32 (x3 : Nat))).setCell ⟨w.heap.size, 4, none⟩ (.int .u32 (x4 : Nat))).setCell ⟨w.heap.size, 5, none⟩ (.int .u32 (x5 : Nat))).setCell ⟨w.heap.size, 6, none⟩ (.int .u32 (x6 : Nat))).setCell ⟨w.heap.size, 7, none⟩ (.int .u32 (x7 : Nat)) := ⟨_, rfl⟩
    rw [← hW3] at hRR kAll ⊢
    obtain ⟨R, hRe⟩ : ∃ R, R = w.heap.size := ⟨_, rfl⟩
    rw [← hRe] at hRR ⊢
    have hRl : R < W3.heap.size := lt_of_block hRR
    have HRR := toHid hRR
    have HKA := toHid kAll
    have JR : Hid (∀ w', Kept Nought W3 w' → w'.cell? ⟨R, 0, none⟩ = some (.int .u32 (x0 : Int)) ∧ w'.cell? ⟨R, 1, none⟩ = some (.int .u32 (x1 : Int)) ∧ w'.cell? ⟨R, 2, none⟩ = some (.int .u32 (x2 : Int)) ∧ w'.cell? ⟨R, 3, none⟩ = some (.int .u32 (x3 : Int)) ∧ w'.cell? ⟨R, 4, none⟩ = some (.int .u32 (x4 : Int)) ∧ w'.cell? ⟨R, 5, none⟩ = some (.int .u32 (x5 : Int)) ∧ w'.cell? ⟨R, 6, none⟩ = some (.int .u32 (x6 : Int)) ∧ w'.cell? ⟨R, 7, none⟩ = some (.int .u32 (x7 : Int))) := fun w' k => by
      have h := hRR.grew k
      exact ⟨h.cell 0 (by simp), h.cell 1 (by simp), h.cell 2 (by simp), h.cell 3 (by simp), h.cell 4 (by simp), h.cell 5 (by simp), h.cell 6 (by simp), h.cell 7 (by simp)⟩
    have hrow := JRest.out W3 kAll
    have HRW := toHid (hrow.grew ((Kept.refl Nought W3).alloc (.cells #[] 5)))
    have HE : Hid (OwnB (W3.alloc (.cells #[] 5)) W3.heap.size (.slice (some ⟨W3.heap.size, 0, none⟩) 0 0) []) := OwnB.of (own_of_block (k := .u8) (zs := []) (heap_alloc_new W3 (.cells #[] 5)) rfl (by unfold maxLen; omega) (Nat.le_refl _))
    clear hRe hW3 hRR kAll hrow JRest JH JC hzz ks0 kl0 sg1 sg2 g0 g1 g2 g3 g4 g5 g6 g7 l0 l1 l2 l3 l4 l5 l6 l7 z0 z1 z2 z3 z4 z5 z6 z7 f0 f1 f2 f3 f4 f5 f6 f7
    go_wp2_with (at_builtin; refine wpList_append_row rfl _ _ rfl W3.heap.size _ [] rfl HE.out _ rfl rs HRW.out ?qc ?qd ?_)
    case qc => have := HRL.out; simp only [List.length_nil]; omega
    case qd => simp
    intro v4 w4 ho4 hg4
    have k4 : Kept Nought W3 w4 := ((Kept.refl Nought W3).alloc (.cells #[] 5)).grown hg4 (fun k hk hlt => by
      have := (HE.out.lt k hk).1
      omega)
    obtain ⟨vo, vc, rfl⟩ := own_slice ho4
    obtain ⟨dn, hdn⟩ : ∃ dn, dn = rs.length := ⟨_, rfl⟩
    rw [← hdn] at ho4 ⊢
    have HO4 : Hid (OwnB w4 W3.heap.size (.slice vo dn vc) rs) := OwnB.of ho4
    have HDN := toHid hdn
    have K4 := toHid k4
    obtain ⟨q0, q1, q2, q3, q4, q5, q6, q7⟩ := JR.out w4 k4
    clear ho4 hg4 k4 HE HRW hdn
    go_wp2_with fail
    go_region_held3 (fun w' => w'.cell? ⟨R, 0, none⟩ = some (.int .u32 (x0 : Int)) ∧ w'.cell? ⟨R, 1, none⟩ = some (.int .u32 (x1 : Int)) ∧ w'.cell? ⟨R, 2, none⟩ = some (.int .u32 (x2 : Int)) ∧ w'.cell? ⟨R, 3, none⟩ = some (.int .u32 (x3 : Int)) ∧ w'.cell? ⟨R, 4, none⟩ = some (.int .u32 (x4 : Int)) ∧ w'.cell? ⟨R, 5, none⟩ = some (.int .u32 (x5 : Int)) ∧ w'.cell? ⟨R, 6, none⟩ = some (.int .u32 (x6 : Int)) ∧ w'.cell? ⟨R, 7, none⟩ = some (.int .u32 (x7 : Int)))
      (((try dsimp only); (repeat' apply And.intro) <;> (repeat (first | (with_reducible assumption) | (with_reducible refine keepAl ?_) | (with_reducible refine keepDr ?_) | (with_reducible refine keepS8 ?_ (by dsimp only; omega)))); done))
      (first
      | (refine step_append_row (by rfl) _ _ (by rfl) W3.heap.size _ rs (by rfl) (HO4.out.grew kq5) ad5 _ pc5 (by rfl) (padN L) r5 (by have := HRL.out; have := HPL.out; omega) k35.size ?_; intro v6 w6 ho6 hg6; rw [HALL.out] at ho6; have k36 := k35.grown hg6 (fun k hk hlt => by have := ((HO4.out.grew kq5).lt k hk).1; omega); obtain ⟨fo6, fc6, rfl⟩ := own_slice ho6; obtain ⟨s0, s1, s2, s3, s4, s5, s6, s7⟩ := JR.out w6 k36)
      | (go_at_call 28; refine (JO.out _ k7).mono ?_; rintro e w9 ⟨v9, rfl, r9, f9, k9, kl9⟩; obtain ⟨u0, u1, u2, u3, u4, u5, u6, u7⟩ := JR.out w9 (k37.trans kl9))
      | (go_at_call 27; refine (JF.out _ fo6 fc6 (HKA.out.trans k36) (OwnB.row ho6)).mono ?_; rintro e w7 ⟨rfl, k7, kl7⟩; have k37 := k36.trans kl7; obtain ⟨t0, t1, t2, t3, t4, t5, t6, t7⟩ := JR.out w7 k37)
      | (go_at_call 29; refine (JP.out _ ((HKA.out.trans K4.out).drew)).mono ?_; rintro e w5 ⟨ad5, pc5, rfl, r5, kl5⟩; have kq5 := (Kept.refl Nought w4).drew.trans kl5; have k35 := K4.out.trans kq5; obtain ⟨v0, v1, v2, v3, v4, v5, v6, v7⟩ := JR.out w5 k35))
    all_goals
      go_wp2_with fail
      go_ret
      rw [HSum.out]
      exact ⟨_, rfl, r9, f9, k9⟩

set_option maxRecDepth 40000 in
set_option maxHeartbeats 4000000 in
/-- Sum, of bytes. -/
theorem hSumP (yb yoff L cap Wh rn rc : Nat) (bs : List Nat) (w : World) (hT : Tab11 w) (hb : Row .u8 w (.slice (some ⟨yb, yoff, none⟩) L cap) bs) (hbd : Digs 256 bs) (hL : L ≤ 1000000) (hWh : Wh = L - L % 64) (hcw : cap ≠ Wh) (hrn : rn = L - Wh) (hrc : rc = cap - Wh) :
    Calls Tryd.prog 19 #[.slice (some ⟨yb, yoff, none⟩) L cap] w fun e w' => ∃ v', e = .returned v' ∧ Row .u8 w' v' (sumN bs) ∧ (∀ b, v'.ownBlock = some b → w.heap.size ≤ b) ∧ Kept Nought w w' := by
  obtain ⟨_, _, _, e1, hLb, hcap, _, _, _⟩ := hb.open
  cases e1
  have gW : (L : Int) - (L : Int) % 64 = (Wh : Int) := by omega
  have gz : (0 : Int) ≤ (Wh : Int) := by omega
  have gc : (Wh : Int) ≤ (cap : Int) := by omega
  have gl : (Wh : Int) ≤ (L : Int) := by omega
  have gl' : Wh ≤ L := by omega
  have gc' : Wh ≤ cap := by omega
  have gr1 : L - Wh = rn := hrn.symm
  have gr2 : cap - Wh = rc := hrc.symm
  have gn : ¬ cap = Wh := hcw
  have gcp : ¬ cap = 0 := by omega
  have hrest : ∀ W, Kept Nought w W → Row .u8 W (.slice (some ⟨yb, yoff + Wh, none⟩) rn rc) (bs.drop Wh) := fun W k => by
    have := row_part (s := Wh) (m := L - Wh) (hb.grew k) (by omega)
    rw [List.take_of_length_le (by rw [List.length_drop, hLb.out]; exact Nat.le_refl _), gr1, gr2] at this
    exact this
  have hM : Wh = 64 * (L / 64) := by omega
  have hmod : L / 64 = L / 64 := rfl
  have hh8 := hsN_digs (s := H256) (all := bs.take Wh) rfl H256_digs.1 (L / 64)
  obtain ⟨st, hst⟩ : ∃ st, st = hsN H256 (bs.take Wh) (L / 64) := ⟨_, rfl⟩
  rw [← hst] at hh8
  obtain ⟨x0, x1, x2, x3, x4, x5, x6, x7, hxx⟩ : ∃ x0 x1 x2 x3 x4 x5 x6 x7, st = [x0, x1, x2, x3, x4, x5, x6, x7] := by
    match st, hh8.2 with
    | [a, b, c, d, e, f, g, h'], _ => exact ⟨a, b, c, d, e, f, g, h', rfl⟩
  have JH : Hid (∀ W', Kept Nought w W' → Calls Tryd.prog 27 #[.agg #[.int .u32 1779033703, .int .u32 3144134277, .int .u32 1013904242, .int .u32 2773480762, .int .u32 1359893119, .int .u32 2600822924, .int .u32 528734635, .int .u32 1541459225], .slice (some ⟨yb, yoff, none⟩) Wh cap] W' fun e w' => e = .returned (.agg #[.int .u32 (x0 : Int), .int .u32 (x1 : Int), .int .u32 (x2 : Int), .int .u32 (x3 : Int), .int .u32 (x4 : Int), .int .u32 (x5 : Int), .int .u32 (x6 : Int), .int .u32 (x7 : Int)]) ∧ Kept Nought w w' ∧ Kept Nought W' w') := fun W' k => by
    have := hHashed (some ⟨yb, yoff, none⟩) Wh cap (L / 64) H256 (bs.take Wh) _ rfl W' (hT.grew k) rfl H256_digs.1 ((hb.grew k).cut (by have := hLb.out; omega)) (hbd.take Wh) hM (by omega)
    rw [← hst, hxx] at this
    refine this.mono ?_
    rintro e w' ⟨rfl, k'⟩
    exact ⟨rfl, k.trans k', k'⟩
  have JC : Hid (∀ w', Kept Nought w w' → w'.cell? ⟨0, 0, none⟩ = some (.int .u32 1779033703) ∧ w'.cell? ⟨0, 1, none⟩ = some (.int .u32 3144134277) ∧ w'.cell? ⟨0, 2, none⟩ = some (.int .u32 1013904242) ∧ w'.cell? ⟨0, 3, none⟩ = some (.int .u32 2773480762) ∧ w'.cell? ⟨0, 4, none⟩ = some (.int .u32 1359893119) ∧ w'.cell? ⟨0, 5, none⟩ = some (.int .u32 2600822924) ∧ w'.cell? ⟨0, 6, none⟩ = some (.int .u32 528734635) ∧ w'.cell? ⟨0, 7, none⟩ = some (.int .u32 1541459225)) := fun w' k => by
    have h := (hT.grew k).start
    exact ⟨h 0 (by omega), h 1 (by omega), h 2 (by omega), h 3 (by omega), h 4 (by omega), h 5 (by omega), h 6 (by omega), h 7 (by omega)⟩
  obtain ⟨g0, g1, g2, g3, g4, g5, g6, g7⟩ := JC.out w (Kept.refl _ _)
  obtain ⟨all, hall⟩ : ∃ all, all = bs.drop Wh ++ padN L := ⟨_, rfl⟩
  obtain ⟨M2, hM2⟩ : ∃ M2, all.length = 64 * M2 := ⟨all.length / 64, by
    have h1 := all_blocks L
    have h2 := hLb.out
    rw [hall, List.length_append, List.length_drop, h2]
    omega⟩
  have hall2 : all.length ≤ 2000000 := by
    have := padN_length L
    have : padZ L < 64 := Nat.mod_lt _ (by omega)
    have h2 := hLb.out
    rw [hall, List.length_append, List.length_drop, h2]
    omega
  have hald : Digs 256 all := by rw [hall]; exact (hbd.drop Wh).append (padN_digs L)
  obtain ⟨sf, hsf⟩ : ∃ sf, sf = hsN st all M2 := ⟨_, rfl⟩
  have hf8 := hsN_digs (s := st) (all := all) hh8.2 hh8.1 M2
  rw [← hsf] at hf8
  have HSum : Hid (sumN bs = outN sf 8) := by
    unfold Hid sumN
    have hle : bs.length = L := hLb.out
    have e1 : bs ++ padN L = bs.take Wh ++ all := by rw [hall, ← List.append_assoc, List.take_append_drop]
    have e2 : (bs.take Wh).length = Wh := by rw [List.length_take, hle]; omega
    rw [hle, e1, List.length_append, e2, hM2, show (Wh + 64 * M2) / 64 = (L / 64) + M2 by omega, blks_hs, hs_more, ← hs_take H256 (bs.take Wh ++ all) Wh (L / 64) (by omega), List.take_left' e2, ← hst, show 64 * (L / 64) = Wh by omega, List.drop_left' e2, hsf]
  obtain ⟨y0, y1, y2, y3, y4, y5, y6, y7, hyy⟩ : ∃ y0 y1 y2 y3 y4 y5 y6 y7, sf = [y0, y1, y2, y3, y4, y5, y6, y7] := by
    match sf, hf8.2 with
    | [a, b, c, d, e, f, g, h'], _ => exact ⟨a, b, c, d, e, f, g, h', rfl⟩
  have JP : Hid (∀ W', Kept Nought w W' → Calls Tryd.prog 29 #[.int .i64 (L : Int)] W' fun e w' => ∃ (ad : Addr) (pc : Nat), e = .returned (.slice (some ad) (padN L).length pc) ∧ Row .u8 w' (.slice (some ad) (padN L).length pc) (padN L) ∧ Kept Nought W' w') := fun W' _ => by
    refine (hPad (L : Int) L (by omega) (by simp) W').mono ?_
    rintro e w' ⟨v', rfl, h1, h2⟩
    obtain ⟨po, pn, pc, rfl, hLp, _, _, _, hnp⟩ := h1.row.open
    have hpl := padN_length L
    obtain rfl : pn = (padN L).length := hLp.out.symm
    obtain ⟨pb, poff, e2, _⟩ := hnp 0 (by omega)
    cases e2
    exact ⟨_, _, rfl, h1.row, h2⟩
  have JF : Hid (∀ W' fo fc, Kept Nought w W' → Row .u8 W' (.slice fo all.length fc) all → Calls Tryd.prog 27 #[.agg #[.int .u32 (x0 : Int), .int .u32 (x1 : Int), .int .u32 (x2 : Int), .int .u32 (x3 : Int), .int .u32 (x4 : Int), .int .u32 (x5 : Int), .int .u32 (x6 : Int), .int .u32 (x7 : Int)], .slice fo all.length fc] W' fun e w' => e = .returned (.agg #[.int .u32 (y0 : Int), .int .u32 (y1 : Int), .int .u32 (y2 : Int), .int .u32 (y3 : Int), .int .u32 (y4 : Int), .int .u32 (y5 : Int), .int .u32 (y6 : Int), .int .u32 (y7 : Int)]) ∧ Kept Nought w w' ∧ Kept Nought W' w') := fun W' fo fc k hr => by
    have := hHashed fo all.length fc M2 st all #[.int .u32 (x0 : Int), .int .u32 (x1 : Int), .int .u32 (x2 : Int), .int .u32 (x3 : Int), .int .u32 (x4 : Int), .int .u32 (x5 : Int), .int .u32 (x6 : Int), .int .u32 (x7 : Int)] (by rw [hxx]; rfl) W' (hT.grew k) hh8.2 hh8.1 hr hald hM2 hall2
    rw [← hsf, hyy] at this
    refine this.mono ?_
    rintro e w' ⟨rfl, k'⟩
    exact ⟨rfl, k.trans k', k'⟩
  have JO : Hid (∀ W', Kept Nought w W' → Calls Tryd.prog 28 #[.agg #[.int .u32 (y0 : Int), .int .u32 (y1 : Int), .int .u32 (y2 : Int), .int .u32 (y3 : Int), .int .u32 (y4 : Int), .int .u32 (y5 : Int), .int .u32 (y6 : Int), .int .u32 (y7 : Int)]] W' fun e w' => ∃ v', e = .returned v' ∧ Row .u8 w' v' (outN sf 8) ∧ (∀ b, v'.ownBlock = some b → w.heap.size ≤ b) ∧ Kept Nought w w' ∧ Kept Nought W' w') := fun W' k => by
    refine (hBytesOf sf #[.int .u32 (y0 : Int), .int .u32 (y1 : Int), .int .u32 (y2 : Int), .int .u32 (y3 : Int), .int .u32 (y4 : Int), .int .u32 (y5 : Int), .int .u32 (y6 : Int), .int .u32 (y7 : Int)] (by rw [hyy]; rfl) W' hf8.2 hf8.1).mono ?_
    rintro e w' ⟨v', rfl, h1, h2, h3⟩
    exact ⟨v', rfl, h1, fun b hb => Nat.le_trans k.size (h2 b hb), k.trans h3, h3⟩
  obtain ⟨rs, hrs⟩ : ∃ rs, rs = bs.drop Wh := ⟨_, rfl⟩
  have HALL : Hid (rs ++ padN L = all) := by rw [hrs]; exact hall.symm
  have HRL : Hid (rs.length ≤ 1000000) := by unfold Hid; rw [hrs, List.length_drop, hLb.out]; omega
  have HPL : Hid ((padN L).length ≤ 100) := by
    unfold Hid
    have := padN_length L
    have : padZ L < 64 := Nat.mod_lt _ (by omega)
    omega
  rw [← hrs] at hrest
  have JRest := toHid hrest
  have HWl := toHid (show Wh = 64 * (L / 64) ∧ L ≤ 1000000 from ⟨hM, hL⟩)
  clear hWh hrn hrc hcw
  clear hrest hrs hb hbd hT hst hxx hh8 hall hM2 hall2 hald hsf hf8 hyy hM hmod
  go_enter Tryd.func19, Tryd.ntmps19
  go_wp2_with fail
  go_region_held3 (fun w' => w'.cell? ⟨0, 0, none⟩ = some (.int .u32 1779033703) ∧ w'.cell? ⟨0, 1, none⟩ = some (.int .u32 3144134277) ∧ w'.cell? ⟨0, 2, none⟩ = some (.int .u32 1013904242) ∧ w'.cell? ⟨0, 3, none⟩ = some (.int .u32 2773480762) ∧ w'.cell? ⟨0, 4, none⟩ = some (.int .u32 1359893119) ∧ w'.cell? ⟨0, 5, none⟩ = some (.int .u32 2600822924) ∧ w'.cell? ⟨0, 6, none⟩ = some (.int .u32 528734635) ∧ w'.cell? ⟨0, 7, none⟩ = some (.int .u32 1541459225))
    (((try dsimp only); (repeat' apply And.intro) <;> (repeat (first | (with_reducible assumption) | (with_reducible refine keepAl ?_) | (with_reducible refine keepDr ?_) | (with_reducible refine keepS8 ?_ (by dsimp only; omega)))); done))
    (first
    | (go_at_call 27; refine (JH.out _ ?_).mono ?_; (first | exact (Kept.refl Nought w).drew | exact ((Kept.refl Nought w).alloc _).drew); rintro e w8 ⟨rfl, ks0, kl0⟩; obtain ⟨l0, l1, l2, l3, l4, l5, l6, l7⟩ := JC.out w8 ks0; have sg : 0 < w.heap.size ∧ w.heap.size ≤ w8.heap.size := ⟨lt_of_cell g0, ks0.size⟩; obtain ⟨sg1, sg2⟩ := sg;
        first
        | (have hzz := Arr.grew (show Arr .u32 45 (w.alloc (.cells #[.int .u32 0, .int .u32 0, .int .u32 0, .int .u32 0, .int .u32 0, .int .u32 0, .int .u32 0, .int .u32 0] 45)).drew w.heap.size [0, 0, 0, 0, 0, 0, 0, 0] from heap_alloc_new w _) kl0; obtain ⟨⟨z0, z1, z2, z3, z4, z5, z6, z7⟩, f0, f1, f2, f3, f4, f5, f6, f7⟩ := zfacts hzz)
        | (have hzz : Arr .u32 45 (w8.alloc (.cells #[.int .u32 0, .int .u32 0, .int .u32 0, .int .u32 0, .int .u32 0, .int .u32 0, .int .u32 0, .int .u32 0] 45)) w8.heap.size [0, 0, 0, 0, 0, 0, 0, 0] := heap_alloc_new w8 _; obtain ⟨⟨z0, z1, z2, z3, z4, z5, z6, z7⟩, f0, f1, f2, f3, f4, f5, f6, f7⟩ := zfacts hzz)))
  · have hRR : Arr .u32 45 (w8.alloc (.cells #[.int .u32 (x0 : Int), .int .u32 (x1 : Int), .int .u32 (x2 : Int), .int .u32 (x3 : Int), .int .u32 (x4 : Int), .int .u32 (x5 : Int), .int .u32 (x6 : Int), .int .u32 (x7 : Int)] 45)) w8.heap.size [x0, x1, x2, x3, x4, x5, x6, x7] := heap_alloc_new w8 _
    have kAll := ks0.alloc (.cells #[.int .u32 (x0 : Int), .int .u32 (x1 : Int), .int .u32 (x2 : Int), .int .u32 (x3 : Int), .int .u32 (x4 : Int), .int .u32 (x5 : Int), .int .u32 (x6 : Int), .int .u32 (x7 : Int)] 45)
    obtain ⟨W3, hW3⟩ : ∃ W3, W3 = w8.alloc (.cells #[.int .u32 (x0 : Int), .int .u32 (x1 : Int), .int .u32 (x2 : Int), .int .u32 (x3 : Int), .int .u32 (x4 : Int), .int .u32 (x5 : Int), .int .u32 (x6 : Int), .int .u32 (x7 : Int)] 45) := ⟨_, rfl⟩
    rw [← hW3] at hRR kAll ⊢
    obtain ⟨R, hRe⟩ : ∃ R, R = w8.heap.size := ⟨_, rfl⟩
    rw [← hRe] at hRR ⊢
    have hRl : R < W3.heap.size := lt_of_block hRR
    have HRR := toHid hRR
    have HKA := toHid kAll
    have JR : Hid (∀ w', Kept Nought W3 w' → w'.cell? ⟨R, 0, none⟩ = some (.int .u32 (x0 : Int)) ∧ w'.cell? ⟨R, 1, none⟩ = some (.int .u32 (x1 : Int)) ∧ w'.cell? ⟨R, 2, none⟩ = some (.int .u32 (x2 : Int)) ∧ w'.cell? ⟨R, 3, none⟩ = some (.int .u32 (x3 : Int)) ∧ w'.cell? ⟨R, 4, none⟩ = some (.int .u32 (x4 : Int)) ∧ w'.cell? ⟨R, 5, none⟩ = some (.int .u32 (x5 : Int)) ∧ w'.cell? ⟨R, 6, none⟩ = some (.int .u32 (x6 : Int)) ∧ w'.cell? ⟨R, 7, none⟩ = some (.int .u32 (x7 : Int))) := fun w' k => by
      have h := hRR.grew k
      exact ⟨h.cell 0 (by simp), h.cell 1 (by simp), h.cell 2 (by simp), h.cell 3 (by simp), h.cell 4 (by simp), h.cell 5 (by simp), h.cell 6 (by simp), h.cell 7 (by simp)⟩
    have hrow := JRest.out W3 kAll
    have HRW := toHid (hrow.grew ((Kept.refl Nought W3).alloc (.cells #[] 5)))
    have HE : Hid (OwnB (W3.alloc (.cells #[] 5)) W3.heap.size (.slice (some ⟨W3.heap.size, 0, none⟩) 0 0) []) := OwnB.of (own_of_block (k := .u8) (zs := []) (heap_alloc_new W3 (.cells #[] 5)) rfl (by unfold maxLen; omega) (Nat.le_refl _))
    clear hRe hW3 hRR kAll hrow JRest JH JC hzz ks0 kl0 sg1 sg2 g0 g1 g2 g3 g4 g5 g6 g7 l0 l1 l2 l3 l4 l5 l6 l7 z0 z1 z2 z3 z4 z5 z6 z7 f0 f1 f2 f3 f4 f5 f6 f7
    go_wp2_with (at_builtin; refine wpList_append_row rfl _ _ rfl W3.heap.size _ [] rfl HE.out _ rfl rs HRW.out ?qc ?qd ?_)
    case qc => have := HRL.out; simp only [List.length_nil]; omega
    case qd => simp
    intro v4 w4 ho4 hg4
    have k4 : Kept Nought W3 w4 := ((Kept.refl Nought W3).alloc (.cells #[] 5)).grown hg4 (fun k hk hlt => by
      have := (HE.out.lt k hk).1
      omega)
    obtain ⟨vo, vc, rfl⟩ := own_slice ho4
    obtain ⟨dn, hdn⟩ : ∃ dn, dn = rs.length := ⟨_, rfl⟩
    rw [← hdn] at ho4 ⊢
    have HO4 : Hid (OwnB w4 W3.heap.size (.slice vo dn vc) rs) := OwnB.of ho4
    have HDN := toHid hdn
    have K4 := toHid k4
    obtain ⟨q0, q1, q2, q3, q4, q5, q6, q7⟩ := JR.out w4 k4
    clear ho4 hg4 k4 HE HRW hdn
    go_wp2_with fail
    go_region_held3 (fun w' => w'.cell? ⟨R, 0, none⟩ = some (.int .u32 (x0 : Int)) ∧ w'.cell? ⟨R, 1, none⟩ = some (.int .u32 (x1 : Int)) ∧ w'.cell? ⟨R, 2, none⟩ = some (.int .u32 (x2 : Int)) ∧ w'.cell? ⟨R, 3, none⟩ = some (.int .u32 (x3 : Int)) ∧ w'.cell? ⟨R, 4, none⟩ = some (.int .u32 (x4 : Int)) ∧ w'.cell? ⟨R, 5, none⟩ = some (.int .u32 (x5 : Int)) ∧ w'.cell? ⟨R, 6, none⟩ = some (.int .u32 (x6 : Int)) ∧ w'.cell? ⟨R, 7, none⟩ = some (.int .u32 (x7 : Int)))
      (((try dsimp only); (repeat' apply And.intro) <;> (repeat (first | (with_reducible assumption) | (with_reducible refine keepAl ?_) | (with_reducible refine keepDr ?_) | (with_reducible refine keepS8 ?_ (by dsimp only; omega)))); done))
      (first
      | (refine step_append_row (by rfl) _ _ (by rfl) W3.heap.size _ rs (by rfl) (HO4.out.grew kq5) ad5 _ pc5 (by rfl) (padN L) r5 (by have := HRL.out; have := HPL.out; omega) k35.size ?_; intro v6 w6 ho6 hg6; rw [HALL.out] at ho6; have k36 := k35.grown hg6 (fun k hk hlt => by have := ((HO4.out.grew kq5).lt k hk).1; omega); obtain ⟨fo6, fc6, rfl⟩ := own_slice ho6; obtain ⟨s0, s1, s2, s3, s4, s5, s6, s7⟩ := JR.out w6 k36)
      | (go_at_call 28; refine (JO.out _ k7).mono ?_; rintro e w9 ⟨v9, rfl, r9, f9, k9, kl9⟩; obtain ⟨u0, u1, u2, u3, u4, u5, u6, u7⟩ := JR.out w9 (k37.trans kl9))
      | (go_at_call 27; refine (JF.out _ fo6 fc6 (HKA.out.trans k36) (OwnB.row ho6)).mono ?_; rintro e w7 ⟨rfl, k7, kl7⟩; have k37 := k36.trans kl7; obtain ⟨t0, t1, t2, t3, t4, t5, t6, t7⟩ := JR.out w7 k37)
      | (go_at_call 29; refine (JP.out _ ((HKA.out.trans K4.out).drew)).mono ?_; rintro e w5 ⟨ad5, pc5, rfl, r5, kl5⟩; have kq5 := (Kept.refl Nought w4).drew.trans kl5; have k35 := K4.out.trans kq5; obtain ⟨v0, v1, v2, v3, v4, v5, v6, v7⟩ := JR.out w5 k35))
    all_goals
      go_wp2_with fail
      go_ret
      rw [HSum.out]
      exact ⟨_, rfl, r9, f9, k9⟩
  · have hRR := hzz.put8 rfl x0 x1 x2 x3 x4 x5 x6 x7
    have kAll := ks0.next (kept8 w8 w.heap.size (.int .u32 (x0 : Nat)) (.int .u32 (x1 : Nat)) (.int .u32 (x2 : Nat)) (.int .u32 (x3 : Nat)) (.int .u32 (x4 : Nat)) (.int .u32 (x5 : Nat)) (.int .u32 (x6 : Nat)) (.int .u32 (x7 : Nat))) (fun x hx e => by have e' : x = w.heap.size := e; omega)
    obtain ⟨W3, hW3⟩ : ∃ W3, W3 = (((((((w8.setCell ⟨w.heap.size, 0, none⟩ (.int .u32 (x0 : Nat))).setCell ⟨w.heap.size, 1, none⟩ (.int .u32 (x1 : Nat))).setCell ⟨w.heap.size, 2, none⟩ (.int .u32 (x2 : Nat))).setCell ⟨w.heap.size, 3, none⟩ (.int .u32 (x3 : Nat))).setCell ⟨w.heap.size, 4, none⟩ (.int .u32 (x4 : Nat))).setCell ⟨w.heap.size, 5, none⟩ (.int .u32 (x5 : Nat))).setCell ⟨w.heap.size, 6, none⟩ (.int .u32 (x6 : Nat))).setCell ⟨w.heap.size, 7, none⟩ (.int .u32 (x7 : Nat)) := ⟨_, rfl⟩
    rw [← hW3] at hRR kAll ⊢
    obtain ⟨R, hRe⟩ : ∃ R, R = w.heap.size := ⟨_, rfl⟩
    rw [← hRe] at hRR ⊢
    have hRl : R < W3.heap.size := lt_of_block hRR
    have HRR := toHid hRR
    have HKA := toHid kAll
    have JR : Hid (∀ w', Kept Nought W3 w' → w'.cell? ⟨R, 0, none⟩ = some (.int .u32 (x0 : Int)) ∧ w'.cell? ⟨R, 1, none⟩ = some (.int .u32 (x1 : Int)) ∧ w'.cell? ⟨R, 2, none⟩ = some (.int .u32 (x2 : Int)) ∧ w'.cell? ⟨R, 3, none⟩ = some (.int .u32 (x3 : Int)) ∧ w'.cell? ⟨R, 4, none⟩ = some (.int .u32 (x4 : Int)) ∧ w'.cell? ⟨R, 5, none⟩ = some (.int .u32 (x5 : Int)) ∧ w'.cell? ⟨R, 6, none⟩ = some (.int .u32 (x6 : Int)) ∧ w'.cell? ⟨R, 7, none⟩ = some (.int .u32 (x7 : Int))) := fun w' k => by
      have h := hRR.grew k
      exact ⟨h.cell 0 (by simp), h.cell 1 (by simp), h.cell 2 (by simp), h.cell 3 (by simp), h.cell 4 (by simp), h.cell 5 (by simp), h.cell 6 (by simp), h.cell 7 (by simp)⟩
    have hrow := JRest.out W3 kAll
    have HRW := toHid (hrow.grew ((Kept.refl Nought W3).alloc (.cells #[] 5)))
    have HE : Hid (OwnB (W3.alloc (.cells #[] 5)) W3.heap.size (.slice (some ⟨W3.heap.size, 0, none⟩) 0 0) []) := OwnB.of (own_of_block (k := .u8) (zs := []) (heap_alloc_new W3 (.cells #[] 5)) rfl (by unfold maxLen; omega) (Nat.le_refl _))
    clear hRe hW3 hRR kAll hrow JRest JH JC hzz ks0 kl0 sg1 sg2 g0 g1 g2 g3 g4 g5 g6 g7 l0 l1 l2 l3 l4 l5 l6 l7 z0 z1 z2 z3 z4 z5 z6 z7 f0 f1 f2 f3 f4 f5 f6 f7
    go_wp2_with (at_builtin; refine wpList_append_row rfl _ _ rfl W3.heap.size _ [] rfl HE.out _ rfl rs HRW.out ?qc ?qd ?_)
    case qc => have := HRL.out; simp only [List.length_nil]; omega
    case qd => simp
    intro v4 w4 ho4 hg4
    have k4 : Kept Nought W3 w4 := ((Kept.refl Nought W3).alloc (.cells #[] 5)).grown hg4 (fun k hk hlt => by
      have := (HE.out.lt k hk).1
      omega)
    obtain ⟨vo, vc, rfl⟩ := own_slice ho4
    obtain ⟨dn, hdn⟩ : ∃ dn, dn = rs.length := ⟨_, rfl⟩
    rw [← hdn] at ho4 ⊢
    have HO4 : Hid (OwnB w4 W3.heap.size (.slice vo dn vc) rs) := OwnB.of ho4
    have HDN := toHid hdn
    have K4 := toHid k4
    obtain ⟨q0, q1, q2, q3, q4, q5, q6, q7⟩ := JR.out w4 k4
    clear ho4 hg4 k4 HE HRW hdn
    go_wp2_with fail
    go_region_held3 (fun w' => w'.cell? ⟨R, 0, none⟩ = some (.int .u32 (x0 : Int)) ∧ w'.cell? ⟨R, 1, none⟩ = some (.int .u32 (x1 : Int)) ∧ w'.cell? ⟨R, 2, none⟩ = some (.int .u32 (x2 : Int)) ∧ w'.cell? ⟨R, 3, none⟩ = some (.int .u32 (x3 : Int)) ∧ w'.cell? ⟨R, 4, none⟩ = some (.int .u32 (x4 : Int)) ∧ w'.cell? ⟨R, 5, none⟩ = some (.int .u32 (x5 : Int)) ∧ w'.cell? ⟨R, 6, none⟩ = some (.int .u32 (x6 : Int)) ∧ w'.cell? ⟨R, 7, none⟩ = some (.int .u32 (x7 : Int)))
      (((try dsimp only); (repeat' apply And.intro) <;> (repeat (first | (with_reducible assumption) | (with_reducible refine keepAl ?_) | (with_reducible refine keepDr ?_) | (with_reducible refine keepS8 ?_ (by dsimp only; omega)))); done))
      (first
      | (refine step_append_row (by rfl) _ _ (by rfl) W3.heap.size _ rs (by rfl) (HO4.out.grew kq5) ad5 _ pc5 (by rfl) (padN L) r5 (by have := HRL.out; have := HPL.out; omega) k35.size ?_; intro v6 w6 ho6 hg6; rw [HALL.out] at ho6; have k36 := k35.grown hg6 (fun k hk hlt => by have := ((HO4.out.grew kq5).lt k hk).1; omega); obtain ⟨fo6, fc6, rfl⟩ := own_slice ho6; obtain ⟨s0, s1, s2, s3, s4, s5, s6, s7⟩ := JR.out w6 k36)
      | (go_at_call 28; refine (JO.out _ k7).mono ?_; rintro e w9 ⟨v9, rfl, r9, f9, k9, kl9⟩; obtain ⟨u0, u1, u2, u3, u4, u5, u6, u7⟩ := JR.out w9 (k37.trans kl9))
      | (go_at_call 27; refine (JF.out _ fo6 fc6 (HKA.out.trans k36) (OwnB.row ho6)).mono ?_; rintro e w7 ⟨rfl, k7, kl7⟩; have k37 := k36.trans kl7; obtain ⟨t0, t1, t2, t3, t4, t5, t6, t7⟩ := JR.out w7 k37)
      | (go_at_call 29; refine (JP.out _ ((HKA.out.trans K4.out).drew)).mono ?_; rintro e w5 ⟨ad5, pc5, rfl, r5, kl5⟩; have kq5 := (Kept.refl Nought w4).drew.trans kl5; have k35 := K4.out.trans kq5; obtain ⟨v0, v1, v2, v3, v4, v5, v6, v7⟩ := JR.out w5 k35))
    all_goals
      go_wp2_with fail
      go_ret
      rw [HSum.out]
      exact ⟨_, rfl, r9, f9, k9⟩

/-- Sum, of whatever bytes. -/
theorem hSum (v : Value) (bs : List Nat) (w : World) (hT : Tab11 w) (hb : Row .u8 w v bs) (hbd : Digs 256 bs) (hl : bs.length ≤ 1000000) :
    Calls Tryd.prog 19 #[v] w fun e w' => ∃ v', e = .returned v' ∧ Row .u8 w' v' (sumN bs) ∧ (∀ b, v'.ownBlock = some b → w.heap.size ≤ b) ∧ Kept Nought w w' := by
  obtain ⟨ao, n, cap, rfl, hLb, hc, _, hnone, hnum⟩ := hb.open
  have hlb := hLb.out
  cases ao with
  | none =>
    obtain rfl := hnone rfl
    obtain rfl : n = 0 := by omega
    obtain rfl : bs = [] := List.length_eq_zero_iff.1 hlb
    exact hSumN w hT
  | some ad =>
    by_cases hn : n = 0
    · subst hn
      obtain rfl : bs = [] := List.length_eq_zero_iff.1 hlb
      exact hSumE ad cap w hT hb
    · obtain ⟨yb, yoff, e1, _⟩ := hnum 0 (by omega)
      cases e1
      by_cases hw : cap = n - n % 64
      · obtain rfl : cap = n := by omega
        exact hSumW yb yoff cap bs w hT hb hbd (by omega) (by omega)
      · exact hSumP yb yoff n cap _ _ _ bs w hT hb hbd (by omega) rfl hw rfl rfl

end Go.Proofs.YthnkganmccgaeaaDoor

