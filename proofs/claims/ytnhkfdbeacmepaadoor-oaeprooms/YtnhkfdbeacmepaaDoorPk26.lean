/- Put together of: Oae2. -/
import Derived.Test.YtnhkfdbeacmepaaDoorPk25

/- The plain side of layer 24 (package sconceref23): Open. -/
namespace Go.Proofs.YtnhkfdbeacmepaaDoor
open Go.RowKit

/-- The first place that isn't 0; the length, if there is none. -/
def fstN : List Nat → Nat
  | [] => 0
  | x :: l => if x = 0 then fstN l + 1 else 0

theorem fstN_at : ∀ {l : List Nat} {i : Nat}, i < l.length → l.getD i 0 ≠ 0 → (∀ j, j < i → l.getD j 0 = 0) → fstN l = i
  | [], i, h, _, _ => absurd h (by simp)
  | x :: l, 0, _, h, _ => by
    have h' : x ≠ 0 := by simpa using h
    unfold fstN
    rw [if_neg h']
  | x :: l, i + 1, hl, h, hn => by
    have h0 : x = 0 := by simpa using hn 0 (by omega)
    unfold fstN
    rw [if_pos h0, fstN_at (i := i) (by simpa using hl) (by simpa using h) (fun j hj => by simpa using hn (j + 1) (by omega))]

theorem fstN_none : ∀ {l : List Nat}, (∀ j, j < l.length → l.getD j 0 = 0) → fstN l = l.length
  | [], _ => rfl
  | x :: l, h => by
    have h0 : x = 0 := by simpa using h 0 (by simp)
    unfold fstN
    rw [if_pos h0, fstN_none (l := l) (fun j hj => by simpa using h (j + 1) (by simpa using hj))]
    rfl

/-- The block that is laid open. -/
def opD (h : Int) (em : List Nat) : List Nat := xorN (em.drop (1 + hszN h)) (mskN h (xorN ((em.drop 1).take (hszN h)) (mskN h (em.drop (1 + hszN h)) (hszN h))) (em.drop (1 + hszN h)).length)

/-- What Open answers, of the block D that is laid open. -/
def opB (h : Int) (lb em D : List Nat) : Nat := if em.getD 0 0 ≠ 0 ∨ D.take (hszN h) ≠ hshN h lb ∨ (D.drop (hszN h)).getD (fstN (D.drop (hszN h))) 0 ≠ 1 then 230 else 0
def opE (h : Int) (lb em : List Nat) : Nat := if hszN h = 0 then 130 else if em.length < 2 * hszN h + 2 ∨ 1024 < em.length then 230 else opB h lb em (opD h em)
def opL (h : Int) (lb em : List Nat) : List Nat := if opE h lb em = 0 then (opD h em).drop (hszN h + fstN ((opD h em).drop (hszN h)) + 1) else []

set_option maxRecDepth 20000 in
set_option maxHeartbeats 2000000 in
/-- Open. -/
theorem r23Open (h : Int) (lo : Option Addr) (ll lc : Nat) (lb : List Nat) (eo : Option Addr) (L ec : Nat) (em : List Nat) (w : World) (hlb : Row .u8 w (.slice lo ll lc) lb) (dlb : Digs 256 lb) (hll : ll ≤ 1000000) (hv : Row .u8 w (.slice eo L ec) em) (dem : Digs 256 em) (hLb : L ≤ 1000000) :
    Calls Tryd.prog 16 #[.int .i64 h, .slice lo ll lc, .slice eo L ec] w fun e w' => ∃ u, e = .returned (.tuple #[u, .int .i64 (opE h lb em : Nat)]) ∧ OwnB w' w.heap.size u (opL h lb em) ∧ Kept Nought w w' := by
  obtain ⟨_, _, _, e1, hLL, -, -, -, -⟩ := hlb.open
  cases e1
  have HV := toHid hv
  obtain ⟨_, _, _, e1, hL, hLc, hcm, -, hnum⟩ := hv.open
  cases e1
  have HL := toHid hL.out
  have J1 := r13Size h w
  have hz64 := hsz_le h
  have JS := toHid fun W (kk : Kept Nought w W) => r13Sum h (.slice lo ll lc) lb W (hlb.grew kk) dlb (by have := hLL.out; omega)
  have HDE := toHid dem
  clear hlb dlb hLL hv hL dem
  by_cases c1 : hszN h = 0
  · have HE : Hid (opE h lb em = 130) := by unfold Hid opE; rw [if_pos c1]
    have HL0 : Hid (opL h lb em = []) := by unfold Hid opL; rw [HE.out]; rfl
    rw [c1] at J1
    clear hnum JS
    go_enter Tryd.func16, Tryd.ntmps16
    go_wp2_with fail
    refine J1.mono ?_
    rintro e w1 ⟨rfl, k1⟩
    clear J1
    go_wp2_with fail
    go_ret2
    exact ⟨_, by rw [HE.out]; rfl, by rw [HL0.out]; exact OwnB.nil _ _, k1⟩
  have g1 : ¬ ((hszN h : Nat) : Int) = 0 := by omega
  by_cases c2 : L < 2 * hszN h + 2 ∨ 1024 < L
  · have HE : Hid (opE h lb em = 230) := by unfold Hid opE; rw [if_neg c1, if_pos (by rw [HL.out]; exact c2)]
    have HL0 : Hid (opL h lb em = []) := by unfold Hid opL; rw [HE.out]; rfl
    generalize hszN h = s at *
    by_cases c3 : L < 2 * s + 2
    · have g2 : (L : Int) < 2 * (s : Int) + 2 := by omega
      clear hnum JS c2
      go_enter Tryd.func16, Tryd.ntmps16
      go_wp2_with fail
      refine J1.mono ?_
      rintro e w1 ⟨rfl, k1⟩
      clear J1
      go_wp2_with fail
      go_ret2
      exact ⟨_, by rw [HE.out]; rfl, by rw [HL0.out]; exact OwnB.nil _ _, k1⟩
    · have g2 : ¬ (L : Int) < 2 * (s : Int) + 2 := by omega
      have g3 : (L : Int) > 1024 := by omega
      have g3' : (1024 : Int) < (L : Int) := by omega
      clear hnum JS c2
      go_enter Tryd.func16, Tryd.ntmps16
      go_wp2_with fail
      refine J1.mono ?_
      rintro e w1 ⟨rfl, k1⟩
      clear J1
      go_wp2_with fail
      go_ret2
      exact ⟨_, by rw [HE.out]; rfl, by rw [HL0.out]; exact OwnB.nil _ _, k1⟩
  have HE : Hid (opE h lb em = opB h lb em (opD h em)) := by unfold Hid opE; rw [if_neg c1, if_neg (by rw [HL.out]; exact c2)]
  have HOL : Hid (∀ D, opD h em = D → opL h lb em = if opE h lb em = 0 then D.drop (hszN h + fstN (D.drop (hszN h)) + 1) else []) := fun D hD => by unfold opL; rw [hD]
  have HOD : Hid (opD h em = xorN (em.drop (1 + hszN h)) (mskN h (xorN ((em.drop 1).take (hszN h)) (mskN h (em.drop (1 + hszN h)) (hszN h))) (em.drop (1 + hszN h)).length)) := rfl
  have HOB : Hid (∀ D, opD h em = D → opE h lb em = if em.getD 0 0 ≠ 0 ∨ D.take (hszN h) ≠ hshN h lb ∨ (D.drop (hszN h)).getD (fstN (D.drop (hszN h))) 0 ≠ 1 then 230 else 0) := fun D hD => by rw [HE.out, hD]; rfl
  obtain ⟨hhe, hme⟩ := hsh_ok c1
  rw [hhe] at JS
  have HHL := toHid (hshN_length h lb)
  have HHD := toHid (hshN_digs h lb)
  have HME := toHid hme
  have HMK := toHid fun (seed : List Nat) (n : Nat) => mskN_len c1 seed n
  clear hhe hme HE
  generalize hszN h = s at *
  generalize hshN h lb = hs0 at *
  have g2 : ¬ (L : Int) < 2 * (s : Int) + 2 := by omega
  have g3 : ¬ (L : Int) > 1024 := by omega
  have g3' : ¬ (1024 : Int) < (L : Int) := by omega
  obtain ⟨bb, off, rfl, cem⟩ := hnum 0 (by omega)
  rw [Nat.add_zero] at cem
  obtain ⟨x0, hx0⟩ : ∃ x0, x0 = em.getD 0 0 := ⟨_, rfl⟩
  rw [← hx0] at cem HOB
  obtain ⟨t, ht⟩ : ∃ t, t = 1 + s := ⟨_, rfl⟩
  obtain ⟨n0, hn0⟩ : ∃ n0, n0 = L - t := ⟨_, rfl⟩
  have gt : (1 : Int) + (s : Int) = (t : Int) := by omega
  have gt0 : (0 : Int) ≤ (t : Int) := by omega
  have gtL : (t : Int) ≤ (L : Int) := by omega
  have gtL' : t ≤ L := by omega
  have gtc : (t : Int) ≤ (ec : Int) := by omega
  have gtc' : t ≤ ec := by omega
  have gtn : ¬ ec = t := by omega
  have gt1 : (1 : Int) ≤ (t : Int) := by omega
  have gt1' : 1 ≤ t := by omega
  have g1c : ¬ ec = 1 := by omega
  have gn0 : L - t = n0 := hn0.symm
  have gts : t - 1 = s := by omega
  have hn0b : n0 ≤ 1024 := by omega
  have hn0s : s + 1 ≤ n0 := by omega
  have R0 : Hid (Row .u8 w (.slice (some ⟨bb, off + t, none⟩) n0 (ec - t)) (em.drop t)) := by
    have := row_part (s := t) (m := n0) HV.out (by omega)
    rw [List.take_of_length_le (by rw [List.length_drop, HL.out]; omega)] at this
    exact this
  have R1 : Hid (Row .u8 w (.slice (some ⟨bb, off + 1, none⟩) s (ec - 1)) ((em.drop 1).take s)) := row_part (s := 1) (m := s) HV.out (by omega)
  rw [← ht] at HOD
  have HD0 : Hid ((em.drop t).length = n0 ∧ Digs 256 (em.drop t)) := ⟨by rw [List.length_drop, HL.out]; omega, HDE.out.drop t⟩
  have HD1 : Hid (((em.drop 1).take s).length = s ∧ Digs 256 ((em.drop 1).take s)) := ⟨by rw [List.length_take, List.length_drop, HL.out]; omega, (HDE.out.drop 1).take s⟩
  rw [HD0.out.1] at HOD
  generalize em.drop t = D0 at *
  generalize (em.drop 1).take s = S0 at *
  clear hnum hn0 ht hx0 c2
  go_enter Tryd.func16, Tryd.ntmps16
  go_wp2_with fail
  refine J1.mono ?_
  rintro e w1 ⟨rfl, k1⟩
  have HK1 := toHid k1
  have hM1 := r13Mask h (.slice (some ⟨bb, off + t, none⟩) n0 (ec - t)) D0 s w1 (R0.out.grew k1) HD0.out.2 (by have := HD0.out.1; omega) (HME.out s (by omega))
  clear J1 k1
  go_wp2_with fail
  refine hM1.mono ?_
  rintro e w2 ⟨u2, rfl, o2, k2⟩
  have HK2 := toHid (HK1.out.trans k2)
  have hX1 := r13Xor (.slice (some ⟨bb, off + 1, none⟩) s (ec - 1)) u2 S0 (mskN h D0 s) w2 (R1.out.grew HK2.out) o2.row HD1.out.2 (mskN_digs _ _ _) (by have := HD1.out.1; omega)
  obtain ⟨xo2, xn2, xc2, rfl, -, -, -, -, -⟩ := o2.row.open
  clear hM1 k2 o2
  go_wp2_with fail
  refine hX1.mono ?_
  rintro e w3 ⟨u3, rfl, o3, k3⟩
  have HK3 := toHid (HK2.out.trans k3)
  obtain ⟨sd, hsd⟩ : ∃ sd, sd = xorN S0 (mskN h D0 s) := ⟨_, rfl⟩
  rw [← hsd] at o3 HOD
  have HSD : Hid (sd.length = s ∧ Digs 256 sd) := by unfold Hid; rw [hsd, xorN_length]; exact ⟨HD1.out.1, xorN_digs HD1.out.2 (mskN_digs _ _ _)⟩
  have hM2 := r13Mask h u3 sd n0 w3 o3.row HSD.out.2 (by have := HSD.out.1; omega) (HME.out n0 (by omega))
  obtain ⟨xo3, xn3, xc3, rfl, -, -, -, -, -⟩ := o3.row.open
  clear hX1 k3 o3 hsd
  go_wp2_with fail
  refine hM2.mono ?_
  rintro e w4 ⟨u4, rfl, o4, k4⟩
  have HK4 := toHid (HK3.out.trans k4)
  have hX2 := r13Xor (.slice (some ⟨bb, off + t, none⟩) n0 (ec - t)) u4 D0 (mskN h sd n0) w4 (R0.out.grew HK4.out) o4.row HD0.out.2 (mskN_digs _ _ _) (by have := HD0.out.1; omega)
  obtain ⟨xo4, xn4, xc4, rfl, -, -, -, -, -⟩ := o4.row.open
  clear hM2 k4 o4
  go_wp2_with fail
  refine hX2.mono ?_
  rintro e w5 ⟨u5, rfl, o5, k5⟩
  have HK5 := toHid (HK4.out.trans k5)
  obtain ⟨D, hD⟩ : ∃ D, D = xorN D0 (mskN h sd n0) := ⟨_, rfl⟩
  rw [← hD] at o5 HOD
  have HDL : Hid (D.length = n0 ∧ Digs 256 D) := by unfold Hid; rw [hD, xorN_length]; exact ⟨HD0.out.1, xorN_digs HD0.out.2 (mskN_digs _ _ _)⟩
  have HR5 := toHid o5.row
  have HEE := toHid (HOB.out D HOD.out)
  have HLD := toHid (HOL.out D HOD.out)
  obtain ⟨do5, dn5, dc5, rfl, hdn5, hdc5, hdm5, -, hnum5⟩ := o5.row.open
  obtain rfl : dn5 = n0 := by have := hdn5.out; have := HDL.out.1; omega
  obtain ⟨gb, go, rfl, _⟩ := hnum5 0 (by omega)
  have hSum := JS.out w5 HK5.out
  clear hX2 k5 o5 hD HOB HOL HOD hdn5 hnum5 R0 R1 HD0 HD1 HSD JS
  go_wp2_with fail
  refine hSum.mono ?_
  rintro e w6 ⟨u6, rfl, o6, k6⟩
  have HK6 := toHid (HK5.out.trans k6)
  have HR6 := toHid (HR5.out.grew k6)
  have cem6 : w6.cell? ⟨bb, off, none⟩ = some (.int .u8 (x0 : Nat)) := HK6.out.cellN cem
  have HO6 := toHid o6.row
  obtain ⟨so6, sn6, sc6, rfl, -, -, -, -, -⟩ := o6.row.open
  have a1 : (0 : Int) < (L : Int) := by omega
  have gsd : (s : Int) ≤ (dc5 : Int) := by omega
  have gsd' : s ≤ dc5 := by omega
  have gs0 : (0 : Int) ≤ (s : Int) := by omega
  clear hSum k6 o6 cem HR5
  by_cases c3 : x0 = 0
  case neg =>
    have HE1 : Hid (opE h lb em = 230) := by unfold Hid; rw [HEE.out, if_pos (.inl c3)]
    have HL1 : Hid (opL h lb em = []) := by unfold Hid; rw [HLD.out, HE1.out]; rfl
    have g4 : ¬ (x0 : Int) = 0 := by omega
    go_wp2_with fail
    go_ret2
    exact ⟨_, by rw [HE1.out]; rfl, by rw [HL1.out]; exact OwnB.nil _ _, HK6.out⟩
  subst c3
  have hSame := r13Same (.slice (some ⟨gb, go, none⟩) s dc5) (.slice so6 sn6 sc6) (D.take s) hs0 w6 (HR6.out.cut (m := s) (by rw [HDL.out.1]; omega)) HO6.out (HDL.out.2.take s) HHD.out
  by_cases c4 : D.take s = hs0
  case neg =>
    rw [decide_eq_false c4] at hSame
    have HE1 : Hid (opE h lb em = 230) := by unfold Hid; rw [HEE.out, if_pos (.inr (.inl c4))]
    have HL1 : Hid (opL h lb em = []) := by unfold Hid; rw [HLD.out, HE1.out]; rfl
    clear c4
    go_wp2_with fail
    refine hSame.mono ?_
    rintro e w7 ⟨rfl, rfl⟩
    go_wp2_with fail
    go_ret2
    exact ⟨_, by rw [HE1.out]; rfl, by rw [HL1.out]; exact OwnB.nil _ _, HK6.out⟩
  rw [decide_eq_true c4] at hSame
  have HC4 := toHid c4
  have HNUM : Hid (∀ i, i < dn5 → w6.cell? ⟨gb, go + i, none⟩ = some (.int .u8 (D.getD i 0 : Nat))) := fun i hi => by
    obtain ⟨_, _, _, e0, _, _, _, _, hn⟩ := HR6.out.open
    cases e0
    obtain ⟨_, _, e0, c⟩ := hn i hi
    cases e0
    exact c
  clear c4
  go_wp2_with fail
  refine hSame.mono ?_
  rintro e w7 ⟨rfl, rfl⟩
  clear hSame
  go_wp2_with fail
  go_loopw [16] (fun iv wr => wr = w7 ∧ ∃ i : Nat, s ≤ i ∧ i ≤ dn5 ∧ iv = .int .i64 (i : Int) ∧ Hid (∀ j, j < i - s → (D.drop s).getD j 0 = 0)) (fun iv _ => dn5 - (intOf iv).toNat)
  case atStart => exact ⟨rfl, s, Nat.le_refl _, by omega, rfl, fun j hj => by omega⟩
  case round =>
    obtain ⟨rfl, i, his, hin, rfl, HI⟩ := hrel
    by_cases c5 : i < dn5
    · have g5 : (i : Int) < (dn5 : Int) := by omega
      have g0 : (0 : Int) ≤ (i : Int) := by omega
      have ci := HNUM.out i c5
      have hdr : (D.drop s).getD (i - s) 0 = D.getD i 0 := by
        rw [List.getD_eq_getElem?_getD, List.getD_eq_getElem?_getD, List.getElem?_drop]
        rw [show s + (i - s) = i by omega]
      obtain ⟨x, hx⟩ : ∃ x, x = D.getD i 0 := ⟨_, rfl⟩
      rw [← hx] at ci hdr
      have HDR := toHid hdr
      clear hx hdr
      by_cases hx0 : x = 0
      · subst hx0
        have HI2 : Hid (∀ j, j < i + 1 - s → (D.drop s).getD j 0 = 0) := fun j hj => by
          by_cases e : j = i - s
          · rw [e, HDR.out]
          · exact HI.out j (by omega)
        go_wp2_with fail
        go_roundw
        case rel => exact ⟨trivial, i + 1, by omega, by omega, by go_num, HI2⟩
        case measure => simp [intOf]; omega
      · have hfst : fstN (D.drop s) = i - s := fstN_at (by rw [List.length_drop, HDL.out.1]; omega) (by rw [HDR.out]; exact hx0) HI.out
        by_cases hx1 : x = 1
        · subst hx1
          have HE1 : Hid (opE h lb em = 0) := by
            unfold Hid
            rw [HEE.out, if_neg]
            rintro (e | e | e)
            · exact e rfl
            · exact e HC4.out
            · rw [hfst, HDR.out] at e
              exact e rfl
          obtain ⟨p, hp⟩ : ∃ p, p = i + 1 := ⟨_, rfl⟩
          have HU : Hid (opL h lb em = (D.drop p).take (dn5 - p)) := by
            unfold Hid
            rw [HLD.out, if_pos HE1.out, hfst, show s + (i - s) + 1 = p by omega, List.take_of_length_le (by rw [List.length_drop, HDL.out.1]; exact Nat.le_refl _)]
          have gp : (i : Int) + 1 = (p : Int) := by omega
          have gp0 : (0 : Int) ≤ (p : Int) := by omega
          have gp1 : (p : Int) ≤ (dn5 : Int) := by omega
          have gp2 : p ≤ dn5 := by omega
          have gpw : IntKind.i64.wrap ((i : Int) + 1) = (p : Int) := by rw [IntKind.wrap_i64]; omega
          have HP2 : Hid (dc5 = p → Row .u8 wr (.slice (some ⟨gb, go, none⟩) 0 0) ((D.drop p).take (dn5 - p))) := (row_cut (s := p) (m := dn5 - p) HR6.out (by omega)).2.1 _ rfl
          have HP3 : Hid (Row .u8 wr (.slice (some ⟨gb, go + p, none⟩) (dn5 - p) (dc5 - p)) ((D.drop p).take (dn5 - p))) := row_part HR6.out (by omega)
          have hlt : ((D.drop p).take (dn5 - p)).length ≤ 1000000 := by rw [List.length_take]; omega
          have hbase := HK6.out.size
          clear hfst hp HEE HLD HI HNUM HDR
          by_cases hcp : dc5 = p
          · have hr := HP2.out hcp
            have hnil : (D.drop p).take (dn5 - p) = [] := by rw [show dn5 - p = 0 by omega]; rfl
            rw [hnil] at hr HU
            have HR := toHid hr
            obtain rfl : dn5 = p := by omega
            subst hcp
            clear hnil hr HP3 HP2
            go_wp2_with (at_builtin; refine wpList_append_row rfl _ _ rfl wr.heap.size _ [] rfl (OwnB.nil _ _) _ rfl _ HR.out (by simp) (Nat.le_refl _) ?_)
            intro v8 w8 ho8 hg8
            have k8 : Kept Nought wr w8 := (Kept.refl Nought wr).grown hg8 (fun q hq hlt => by cases hq)
            have HF : Hid (OwnB w8 w.heap.size v8 (opL h lb em)) := by unfold Hid; rw [HU.out]; exact ho8.base hbase
            obtain ⟨yo, yc, rfl⟩ := own_slice ho8
            clear ho8 hg8
            go_wp2_with fail
            go_ret2
            exact ⟨_, by rw [HE1.out]; rfl, HF.out, HK6.out.trans k8⟩
          · clear HP2
            go_wp2_with (at_builtin; refine wpList_append_row rfl _ _ rfl wr.heap.size _ [] rfl (OwnB.nil _ _) _ rfl _ HP3.out (by rw [List.length_nil]; omega) (Nat.le_refl _) ?_)
            intro v8 w8 ho8 hg8
            have k8 : Kept Nought wr w8 := (Kept.refl Nought wr).grown hg8 (fun q hq hlt => by cases hq)
            have HF : Hid (OwnB w8 w.heap.size v8 (opL h lb em)) := by unfold Hid; rw [HU.out]; exact ho8.base hbase
            obtain ⟨yo, yc, rfl⟩ := own_slice ho8
            clear ho8 hg8
            go_wp2_with fail
            go_ret2
            exact ⟨_, by rw [HE1.out]; rfl, HF.out, HK6.out.trans k8⟩
        · have HE1 : Hid (opE h lb em = 230) := by unfold Hid; rw [HEE.out, if_pos (.inr (.inr (by rw [hfst, HDR.out]; exact hx1)))]
          have HL1 : Hid (opL h lb em = []) := by unfold Hid; rw [HLD.out, HE1.out]; rfl
          have g6 : ¬ (x : Int) = 1 := by omega
          have g7 : ¬ (x : Int) = 0 := by omega
          clear hfst
          go_wp2_with fail
          go_ret2
          exact ⟨_, by rw [HE1.out]; rfl, by rw [HL1.out]; exact OwnB.nil _ _, HK6.out⟩
    · have g5 : ¬ (i : Int) < (dn5 : Int) := by omega
      have hfst : fstN (D.drop s) = (D.drop s).length := fstN_none (fun j hj => HI.out j (by rw [List.length_drop, HDL.out.1] at hj; omega))
      have HE1 : Hid (opE h lb em = 230) := by
        unfold Hid
        have hne : (D.drop s).getD (fstN (D.drop s)) 0 ≠ 1 := by
          rw [hfst, List.getD_eq_getElem?_getD, List.getElem?_eq_none (Nat.le_refl _)]
          exact fun e => by cases e
        rw [HEE.out, if_pos (.inr (.inr hne))]
      have HL1 : Hid (opL h lb em = []) := by unfold Hid; rw [HLD.out, HE1.out]; rfl
      clear hfst
      go_wp2_with fail
      go_ret2
      exact ⟨_, by rw [HE1.out]; rfl, by rw [HL1.out]; exact OwnB.nil _ _, HK6.out⟩

end Go.Proofs.YtnhkfdbeacmepaaDoor

