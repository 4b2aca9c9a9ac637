/- The plain side of layer 15: Below. -/
import Derived.Test.YtcjaafmlflonhaaGreatDoorScr3
namespace Go.Proofs.YtcjaafmlflonhaaGreatDoor
open Go.RowKit

theorem belF_step {M t z f k : Nat} {bs : List Nat} (hf : bs.length < f) (hz : 0 < z) : (bs.length < z ∧ belF M t z f bs k = (0, 0, [])) ∨
    (¬ bs.length < z ∧ (0 < bev (bs.take z) % 2 ^ t ∧ bev (bs.take z) % 2 ^ t < M) ∧ belF M t z f bs k = (bev (bs.take z) % 2 ^ t, k, bs.drop z)) ∨
    (¬ bs.length < z ∧ ¬ (0 < bev (bs.take z) % 2 ^ t ∧ bev (bs.take z) % 2 ^ t < M) ∧ ∃ g, (bs.drop z).length < g ∧ belF M t z f bs k = belF M t z g (bs.drop z) (k + 1)) := by
  obtain ⟨g, rfl⟩ : ∃ g, f = g + 1 := ⟨f - 1, by omega⟩
  by_cases h1 : bs.length < z
  · exact .inl ⟨h1, by rw [belF, if_pos h1]⟩
  · by_cases h2 : 0 < bev (bs.take z) % 2 ^ t ∧ bev (bs.take z) % 2 ^ t < M
    · exact .inr (.inl ⟨h1, h2, by rw [belF, if_neg h1, if_pos h2]⟩)
    · exact .inr (.inr ⟨h1, h2, g, by rw [List.length_drop]; omega, by rw [belF, if_neg h1, if_neg h2]⟩)

set_option maxRecDepth 20000 in
set_option maxHeartbeats 1600000 in
/-- Below. -/
theorem r15Below (b B : Nat) (bs xs : List Nat) (v : Value) (w : World) (h : ScrAt w b B bs) (hbd : Digs 256 bs) (hbl : bs.length ≤ 1000000) (hv : Row .u64 w v xs) (hd : Digs 18446744073709551616 xs) (hl : xs.length ≤ 300) (hM2 : 2 ≤ val 18446744073709551616 xs) :
    Calls Tryz.prog 54 #[.pointer (some ⟨b, 0, none⟩), v] w fun e w' => ∃ u, e = .returned (.tuple #[u, .int .i64 (belK xs bs : Nat), .int .i64 (belE xs bs : Nat)]) ∧ Row .u64 w' u (belX xs bs) ∧ (∀ x, u.ownBlock = some x → w.heap.size ≤ x) ∧ ScrAt w' b B (belR xs bs) ∧ Kept (fun x => x = b) w w' := by
  have H := toHid h
  have J := toHid fun W (k : Kept Nought w W) => rOf v xs W (hv.grew k) hd (by omega)
  obtain ⟨ao, L, cap, rfl, hL, hLc, hcm, _, _⟩ := hv.open
  have hLb : L ≤ 300 := by have := hL.out; omega
  obtain ⟨M, hM⟩ : ∃ M, M = val 18446744073709551616 xs := ⟨_, rfl⟩
  rw [← hM] at hM2
  have hMd : dlen M ≤ 600 := by rw [hM]; have := dlenVal hd; omega
  obtain ⟨t, ht⟩ : ∃ t, t = blen M := ⟨_, rfl⟩
  have htb : t ≤ 19200 := by rw [ht, hM]; have := blen_val hd; omega
  have ht0 : 0 < t := by
    have := (blen_le M 0).1
    rw [ht]
    rcases Nat.eq_zero_or_pos (blen M) with e | e
    · have := this (by omega)
      omega
    · exact e
  obtain ⟨z, hz⟩ : ∃ z, z = (t + 7) / 8 := ⟨_, rfl⟩
  have hz0 : 0 < z := by omega
  have hzb : z ≤ 2401 := by omega
  have HE : Hid (belE xs bs = if (belN M bs).1 = 0 then 150 else 0) := by unfold Hid belE; rw [if_neg (by omega), ← hM, if_neg (by omega)]
  have HX : Hid (belX xs bs = if belE xs bs = 0 then digs 18446744073709551616 (belN M bs).1 L else []) := by unfold Hid belX; rw [← hM, hL.out]
  have HKk : Hid (belK xs bs = if belE xs bs = 0 then (belN M bs).2.1 else 0) := by unfold Hid belK; rw [← hM]
  have HR : Hid (belR xs bs = (belN M bs).2.2) := by unfold Hid belR; rw [← hM, if_neg (by omega)]
  have HN : Hid (belN M bs = belF M t z (bs.length + 1) bs 1) := by unfold Hid belN; rw [hz, ht]
  rw [← hM] at J
  have HT := toHid ht
  have hcmp : cmpN M 2 = 0 ∨ cmpN M 2 = 1 := by
    rcases Nat.lt_or_ge 2 M with h | h
    · exact .inr (cmpN_gt h)
    · obtain rfl : M = 2 := by omega
      exact .inl (by unfold cmpN; simp)
  have hcmp0 : ¬ cmpN M 2 < 0 := by omega
  have HBD := toHid hbd
  have hbw : b < w.heap.size := h.lt
  have hsz : ((t : Int) + 7).tdiv 8 = (z : Int) := by rw [Int.tdiv_eq_ediv_of_nonneg (by omega)]; omega
  have hszd : ((t : Int) + 7) / 8 = (z : Int) := by omega
  clear h hv hd hbd hM ht hz hcmp
  go_enter Tryz.func54, Tryz.ntmps54
  go_wp2_with fail
  refine (J.out _ (Kept.refl _ _)).mono ?_
  rintro e w1 ⟨v1, rfl, hb1, f1, k1⟩
  have J2 := toHid (rSmall 2 (by omega) w1)
  have HB1 := toHid hb1
  have HF1 := toHid f1
  have HK1 := toHid k1
  clear hb1 f1 k1 J
  go_wp2_with fail
  refine J2.out.mono ?_
  rintro e w2 ⟨v2, rfl, hb2, f2, k2⟩
  have J3 := toHid (rCmp v1 v2 M 2 w2 (HB1.out.grew k2) hb2)
  have HK2 := toHid (HK1.out.trans k2)
  have HB2 := toHid (HB1.out.grew k2)
  clear hb2 f2 k2 J2 HB1 HK1
  generalize cmpN M 2 = cm at *
  go_wp2_with fail
  refine J3.out.mono ?_
  rintro e w3 ⟨rfl, nn, rfl⟩
  have HB3 := toHid (HB2.out.grew ((Kept.refl Nought w2).drewN nn))
  have HK3 := toHid (HK2.out.drewN nn)
  generalize w2.drewN nn = w3 at *
  clear J3 HB2 HK2
  have J4 := rBitLen v1 M w3 HB3.out
  rw [← HT.out] at J4
  have J4 := toHid J4
  go_wp2_with fail
  refine J4.out.mono ?_
  rintro e w4 ⟨rfl, rfl⟩
  clear J4
  obtain ⟨s1, sn1, sc1, rfl, _⟩ := HB3.out.length
  go_wp2_with fail
  go_loopw [9] (fun kv wr => ∃ (k f : Nat) (rest : List Nat), Hid (rest.length < f) ∧ Hid (belN M bs = belF M t z f rest k) ∧ kv = .int .i64 (k : Int) ∧ k ≤ 1000001 ∧ Hid (k + rest.length ≤ bs.length + 1) ∧ Hid (Digs 256 rest) ∧ Hid (ScrAt wr b B rest) ∧ Hid (Kept (fun x => x = b) w4 wr)) (fun _ wr => scrLen b wr)
  case atStart => exact ⟨1, bs.length + 1, bs, by unfold Hid; omega, HN.out, rfl, by omega, by unfold Hid; omega, HBD.out, H.out.grew HK3.out, Kept.refl _ _⟩
  case round =>
    clear H
    obtain ⟨k, f, rest, Hf, HNb, rfl, hk, Hkr, HD, HS, HK⟩ := hrel
    have hrl : rest.length ≤ 1000001 := by have := Hkr.out; omega
    have hw4 : w.heap.size ≤ w4.heap.size := HK3.out.size
    have hwr : w4.heap.size ≤ wr.heap.size := HK.out.size
    have HKw : Hid (Kept (fun x => x = b) w wr) := (HK3.out.any (S := fun x => x = b)).trans HK.out
    have HBr := toHid (HB3.out.kept HK.out (fun x hx e => by
      have e' : x = b := e
      have := HF1.out x hx
      omega))
    by_cases h1 : rest.length < z
    · have hst : belF M t z f rest k = (0, 0, []) := by
        rcases belF_step (M := M) (t := t) (k := k) Hf.out hz0 with ⟨_, e⟩ | ⟨h, _⟩ | ⟨h, _⟩
        · exact e
        · exact absurd h1 h
        · exact absurd h1 h
      have e1 : belE xs bs = 150 := by rw [HE.out, HNb.out, hst]; rfl
      have e2 : belX xs bs = [] := by rw [HX.out, e1]; rfl
      have e3 : belK xs bs = 0 := by rw [HKk.out, e1]; rfl
      have e4 : belR xs bs = [] := by rw [HR.out, HNb.out, hst]
      have J5 := r15Read b B rest (z : Int) wr HS.out (by omega)
      rw [show readE rest (z : Int) = 150 by unfold readE; rw [if_neg (by omega), if_pos (by omega)], show readR rest (z : Int) = [] by unfold readR; rw [if_neg (by omega)]; exact List.drop_eq_nil_of_le (by simp; omega)] at J5
      have J5 := toHid J5
      have HE1 := toHid e1
      have HE2 := toHid e2
      have HE3 := toHid e3
      have HE4 := toHid e4
      clear e1 e2 e3 e4 hst
      go_wp2_with fail
      refine J5.out.mono ?_
      rintro e w5 ⟨u, rfl, ho5, hs5, k5⟩
      have HS5 := toHid hs5
      have HK5 := toHid (HKw.out.trans k5)
      clear ho5 hs5 k5 J5
      go_wp2_with fail
      refine bodyPost_ret (v := .tuple #[.slice none 0 0, .int .i64 0, .int .i64 150]) (by simp [results, Tryz.results54, go_sem]) rfl ?_
      rw [HE1.out, HE2.out, HE3.out, HE4.out]
      exact ⟨_, rfl, Row.nil _ _, (fun x hx => by cases hx), HS5.out, HK5.out⟩
    · have J5 := r15Read b B rest (z : Int) wr HS.out (by omega)
      have hE0 : readE rest (z : Int) = 0 := by unfold readE; rw [if_neg (by omega), if_neg (by omega)]
      rw [hE0, show readL rest (z : Int) = rest.take z by unfold readL; rw [hE0]; rfl, show readR rest (z : Int) = rest.drop z by unfold readR; rw [if_neg (by omega)]; rfl] at J5
      have J5 := toHid J5
      clear hE0
      have HDt : Hid (Digs 256 (rest.take z)) := fun d hd => HD.out d (List.mem_of_mem_take hd)
      have HDd : Hid (Digs 256 (rest.drop z)) := fun d hd => HD.out d (List.mem_of_mem_drop hd)
      have hlt : (rest.take z).length ≤ 2401 := by rw [List.length_take]; omega
      have hdl := bev_dlen HDt.out
      have hst := belF_step (M := M) (t := t) (k := k) Hf.out hz0
      obtain ⟨X, hX⟩ : ∃ X, X = bev (rest.take z) % 2 ^ t := ⟨_, rfl⟩
      rw [← hX] at hst
      have HST := toHid hst
      have HXX := toHid hX
      have hp : 0 < 2 ^ t := Nat.pow_pos (by omega)
      clear hst hX
      go_wp2_with fail
      refine J5.out.mono ?_
      rintro e w5 ⟨u, rfl, ho5, hs5, k5⟩
      have HS5 := toHid hs5
      have HK5 := toHid (HKw.out.trans k5)
      have HKr5 := toHid k5
      have J6 := toHid (rFromBytes u _ w5 ho5.row HDt.out (by omega))
      clear ho5 hs5 k5 J5
      go_wp2_with fail
      refine J6.out.mono ?_
      rintro e w6 ⟨v6, rfl, hb6, f6, k6⟩
      have HB6 := toHid hb6
      have HK6 := toHid k6
      have J7 := toHid (rSmall 1 (by omega) w6)
      clear hb6 f6 k6 J6
      go_wp2_with fail
      refine J7.out.mono ?_
      rintro e w7 ⟨v7, rfl, hb7, f7, k7⟩
      have HK7 := toHid (HK6.out.trans k7)
      have HB6' := toHid (HB6.out.grew k7)
      have J8 := toHid (rShl v7 1 t w7 hb7 (by rw [show dlen 1 = 1 by decide]; omega) (by omega))
      clear hb7 f7 k7 J7 HB6 HK6
      go_wp2_with fail
      refine J8.out.mono ?_
      rintro e w8 ⟨v8, rfl, hb8, f8, k8⟩
      rw [Nat.mul_one] at hb8
      have HK8 := toHid (HK7.out.trans k8)
      have J9 := rMod v6 v8 (bev (rest.take z)) (2 ^ t) w8 (HB6'.out.grew k8) hb8 hp (by omega)
      rw [← HXX.out] at J9
      have J9 := toHid J9
      clear hb8 f8 k8 J8 HB6' HK7
      go_wp2_with fail
      refine J9.out.mono ?_
      rintro e w9 ⟨v9, rfl, hb9, f9, k9⟩
      obtain ⟨xo, xn, xc, rfl, HXn, _⟩ := hb9.length
      have HK9 := toHid (HK8.out.trans k9)
      have HB9 := toHid hb9
      have HBm := toHid ((HBr.out.kept HKr5.out (fun x hx e => by
        have e' : x = b := e
        have := HF1.out x hx
        omega)).grew HK9.out)
      have HS9 := toHid (HS5.out.grew HK9.out)
      have HKw9 := toHid (HK5.out.next HK9.out (fun x _ f => f.elim))
      have HK49 : Hid (Kept (fun x => x = b) w4 w9) := (HK.out.trans HKr5.out).next HK9.out (fun x _ f => f.elim)
      have hw9 : w.heap.size ≤ w9.heap.size := HKw9.out.size
      clear hb9 f9 k9 J9 HK8
      by_cases hX0 : X = 0
      · have gx : xn = 0 := by rw [HXn.out, hX0]; rfl
        subst gx
        obtain ⟨g, hg, hgo⟩ : ∃ g, (rest.drop z).length < g ∧ belF M t z f rest k = belF M t z g (rest.drop z) (k + 1) := by
          rcases HST.out with ⟨h, _⟩ | ⟨_, h, _⟩ | ⟨_, _, h⟩
          · exact absurd h h1
          · omega
          · exact h
        have HG := toHid hg
        have HGO := toHid hgo
        clear hg hgo
        go_wp2_with fail
        go_roundw
        case rel => exact ⟨k + 1, g, rest.drop z, HG.out, HNb.out.trans HGO.out, by go_num, by have := Hkr.out; omega, by unfold Hid; have := Hkr.out; rw [List.length_drop]; omega, HDd.out, HS9.out, HK49.out⟩
        case measure => rw [HS9.out.len, HS.out.len, List.length_drop]; omega
      · have gx : 0 < xn := by rw [HXn.out]; exact dlen_pos (by omega)
        have gx2 : (0 : Int) < (xn : Int) := by omega
        have gx3 : (xn : Int) > 0 := gx2
        have J10 := rCmp _ _ X M w9 HB9.out HBm.out
        by_cases hXM : X < M
        · rw [cmpN_lt hXM] at J10
          have J10 := toHid J10
          have hgo : belF M t z f rest k = (X, k, rest.drop z) := by
            rcases HST.out with ⟨h, _⟩ | ⟨_, _, h⟩ | ⟨_, h, _⟩
            · exact absurd h h1
            · exact h
            · exact absurd ⟨by omega, hXM⟩ h
          have e1 : belE xs bs = 0 := by rw [HE.out, HNb.out, hgo]; exact if_neg hX0
          have e2 : belX xs bs = digs 18446744073709551616 X L := by rw [HX.out, e1, HNb.out, hgo]; rfl
          have e3 : belK xs bs = k := by rw [HKk.out, e1, HNb.out, hgo]; rfl
          have e4 : belR xs bs = rest.drop z := by rw [HR.out, HNb.out, hgo]
          have HE1 := toHid e1
          have HE2 := toHid e2
          have HE3 := toHid e3
          have HE4 := toHid e4
          clear e1 e2 e3 e4 hgo
          go_wp2_with fail
          refine J10.out.mono ?_
          rintro e w10 ⟨rfl, nn, rfl⟩
          have HKn := toHid ((Kept.refl Nought w9).drewN nn)
          have J11 := toHid (rNat _ X L (w9.drewN nn) (HB9.out.grew HKn.out) (by omega))
          generalize w9.drewN nn = wa at *
          clear J10
          go_wp2_with fail
          refine J11.out.mono ?_
          rintro e wb ⟨v11, rfl, hr11, f11, k11⟩
          have HR11 := toHid hr11
          have HF11 := toHid f11
          have HK11 := toHid (HKn.out.trans k11)
          clear hr11 f11 k11 J11
          go_wp2_with fail
          refine bodyPost_ret (v := .tuple #[v11, .int .i64 (k : Int), .int .i64 0]) (by simp [results, Tryz.results54, go_sem]) rfl ?_
          rw [HE1.out, HE2.out, HE3.out, HE4.out]
          exact ⟨_, rfl, HR11.out, (fun x hx => by rw [HF11.out] at hx; cases hx; have := HKn.out.size; omega), HS9.out.grew HK11.out, HKw9.out.next HK11.out (fun x _ f => f.elim)⟩
        · have hcm : ¬ cmpN X M < 0 := by
            rcases Nat.lt_or_ge M X with h | h
            · rw [cmpN_gt h]; omega
            · obtain rfl : X = M := by omega
              unfold cmpN
              simp
          obtain ⟨g, hg, hgo⟩ : ∃ g, (rest.drop z).length < g ∧ belF M t z f rest k = belF M t z g (rest.drop z) (k + 1) := by
            rcases HST.out with ⟨h, _⟩ | ⟨_, h, _⟩ | ⟨_, _, h⟩
            · exact absurd h h1
            · omega
            · exact h
          generalize cmpN X M = cx at *
          have J10 := toHid J10
          have HG := toHid hg
          have HGO := toHid hgo
          clear hg hgo
          go_wp2_with fail
          refine J10.out.mono ?_
          rintro e w10 ⟨rfl, nn, rfl⟩
          have HSn := toHid (HS9.out.grew ((Kept.refl Nought w9).drewN nn))
          have HKn := toHid (HK49.out.drewN nn)
          generalize w9.drewN nn = wa at *
          clear J10
          go_wp2_with fail
          go_roundw
          case rel => exact ⟨k + 1, g, rest.drop z, HG.out, HNb.out.trans HGO.out, by go_num, by have := Hkr.out; omega, by unfold Hid; have := Hkr.out; rw [List.length_drop]; omega, HDd.out, HSn.out, HKn.out⟩
          case measure => rw [HSn.out.len, HS.out.len, List.length_drop]; omega

end Go.Proofs.YtcjaafmlflonhaaGreatDoor
