/- Put together of: Scr4 Gro1 Prm4. -/
import Derived.Test.YtcjaafmlflonhaaGreatDoorPk5
import Derived.Test.YtcjaafmlflonhaaGreatDoorPk18
import Derived.Test.YtcjaafmlflonhaaGreatDoorPk28

/- The plain side of layer 15: Below. -/
namespace Go.Proofs.YtcjaafmlflonhaaGreatDoor
open Go.RowKit

theorem belF_step {M t z f k : Nat} {bs : List Nat} (hf : bs.length < f) (hz : 0 < z) : (bs.length < z ∧ belF M t z f bs k = (0, 0, [])) ∨
    (¬ bs.length < z ∧ (0 < bev (bs.take z) % 2 ^ t ∧ bev (bs.take z) % 2 ^ t < M) ∧ belF M t z f bs k = (bev (bs.take z) % 2 ^ t, k, bs.drop z)) ∨
    (¬ bs.length < z ∧ ¬ (0 < bev (bs.take z) % 2 ^ t ∧ bev (bs.take z) % 2 ^ t < M) ∧ ∃ g, (bs.drop z).length < g ∧ belF M t z f bs k = belF M t z g (bs.drop z) (k + 1)) := by
  obtain ⟨g, rfl⟩ : ∃ g, f = g + 1 := ⟨f - 1, by omega⟩
  by_cases h1 : bs.length < z
  · exact .inl ⟨h1, by rw [belF, if_pos h1]⟩
  · by_cases h2 : 0 < bev (bs.take z) % 2 ^ t ∧ bev (bs.take z) % 2 ^ t < M
    · exact .inr (.inl ⟨h1, h2, by rw [belF, if_neg h1, if_pos h2]⟩)
    · exact .inr (.inr ⟨h1, h2, g, by rw [List.length_drop]; omega, by rw [belF, if_neg h1, if_neg h2]⟩)

set_option maxRecDepth 20000 in
set_option maxHeartbeats 1600000 in
/-- Below. -/
theorem r15Below (b B : Nat) (bs xs : List Nat) (v : Value) (w : World) (h : ScrAt w b B bs) (hbd : Digs 256 bs) (hbl : bs.length ≤ 1000000) (hv : Row .u64 w v xs) (hd : Digs 18446744073709551616 xs) (hl : xs.length ≤ 300) (hM2 : 2 ≤ val 18446744073709551616 xs) :
    Calls Tryz.prog 54 #[.pointer (some ⟨b, 0, none⟩), v] w fun e w' => ∃ u, e = .returned (.tuple #[u, .int .i64 (belK xs bs : Nat), .int .i64 (belE xs bs : Nat)]) ∧ Row .u64 w' u (belX xs bs) ∧ (∀ x, u.ownBlock = some x → w.heap.size ≤ x) ∧ ScrAt w' b B (belR xs bs) ∧ Kept (fun x => x = b) w w' := by
  have H := toHid h
  have J := toHid fun W (k : Kept Nought w W) => rOf v xs W (hv.grew k) hd (by omega)
  obtain ⟨ao, L, cap, rfl, hL, hLc, hcm, _, _⟩ := hv.open
  have hLb : L ≤ 300 := by have := hL.out; omega
  obtain ⟨M, hM⟩ : ∃ M, M = val 18446744073709551616 xs := ⟨_, rfl⟩
  rw [← hM] at hM2
  have hMd : dlen M ≤ 600 := by rw [hM]; have := dlenVal hd; omega
  obtain ⟨t, ht⟩ : ∃ t, t = blen M := ⟨_, rfl⟩
  have htb : t ≤ 19200 := by rw [ht, hM]; have := blen_val hd; omega
  have ht0 : 0 < t := by
    have := (blen_le M 0).1
    rw [ht]
    rcases Nat.eq_zero_or_pos (blen M) with e | e
    · have := this (by omega)
      omega
    · exact e
  obtain ⟨z, hz⟩ : ∃ z, z = (t + 7) / 8 := ⟨_, rfl⟩
  have hz0 : 0 < z := by omega
  have hzb : z ≤ 2401 := by omega
  have HE : Hid (belE xs bs = if (belN M bs).1 = 0 then 150 else 0) := by unfold Hid belE; rw [if_neg (by omega), ← hM, if_neg (by omega)]
  have HX : Hid (belX xs bs = if belE xs bs = 0 then digs 18446744073709551616 (belN M bs).1 L else []) := by unfold Hid belX; rw [← hM, hL.out]
  have HKk : Hid (belK xs bs = if belE xs bs = 0 then (belN M bs).2.1 else 0) := by unfold Hid belK; rw [← hM]
  have HR : Hid (belR xs bs = (belN M bs).2.2) := by unfold Hid belR; rw [← hM, if_neg (by omega)]
  have HN : Hid (belN M bs = belF M t z (bs.length + 1) bs 1) := by unfold Hid belN; rw [hz, ht]
  rw [← hM] at J
  have HT := toHid ht
  have hcmp : cmpN M 2 = 0 ∨ cmpN M 2 = 1 := by
    rcases Nat.lt_or_ge 2 M with h | h
    · exact .inr (cmpN_gt h)
    · obtain rfl : M = 2 := by omega
      exact .inl (by unfold cmpN; simp)
  have hcmp0 : ¬ cmpN M 2 < 0 := by omega
  have HBD := toHid hbd
  have hbw : b < w.heap.size := h.lt
  have hsz : ((t : Int) + 7).tdiv 8 = (z : Int) := by rw [Int.tdiv_eq_ediv_of_nonneg (by omega)]; omega
  have hszd : ((t : Int) + 7) / 8 = (z : Int) := by omega
  clear h hv hd hbd hM ht hz hcmp
  go_enter Tryz.func54, Tryz.ntmps54
  go_wp2_with fail
  refine (J.out _ (Kept.refl _ _)).mono ?_
  rintro e w1 ⟨v1, rfl, hb1, f1, k1⟩
  have J2 := toHid (rSmall 2 (by omega) w1)
  have HB1 := toHid hb1
  have HF1 := toHid f1
  have HK1 := toHid k1
  clear hb1 f1 k1 J
  go_wp2_with fail
  refine J2.out.mono ?_
  rintro e w2 ⟨v2, rfl, hb2, f2, k2⟩
  have J3 := toHid (rCmp v1 v2 M 2 w2 (HB1.out.grew k2) hb2)
  have HK2 := toHid (HK1.out.trans k2)
  have HB2 := toHid (HB1.out.grew k2)
  clear hb2 f2 k2 J2 HB1 HK1
  generalize cmpN M 2 = cm at *
  go_wp2_with fail
  refine J3.out.mono ?_
  rintro e w3 ⟨rfl, nn, rfl⟩
  have HB3 := toHid (HB2.out.grew ((Kept.refl Nought w2).drewN nn))
  have HK3 := toHid (HK2.out.drewN nn)
  generalize w2.drewN nn = w3 at *
  clear J3 HB2 HK2
  have J4 := rBitLen v1 M w3 HB3.out
  rw [← HT.out] at J4
  have J4 := toHid J4
  go_wp2_with fail
  refine J4.out.mono ?_
  rintro e w4 ⟨rfl, rfl⟩
  clear J4
  obtain ⟨s1, sn1, sc1, rfl, _⟩ := HB3.out.length
  go_wp2_with fail
  go_loopw [9] (fun kv wr => ∃ (k f : Nat) (rest : List Nat), Hid (rest.length < f) ∧ Hid (belN M bs = belF M t z f rest k) ∧ kv = .int .i64 (k : Int) ∧ k ≤ 1000001 ∧ Hid (k + rest.length ≤ bs.length + 1) ∧ Hid (Digs 256 rest) ∧ Hid (ScrAt wr b B rest) ∧ Hid (Kept (fun x => x = b) w4 wr)) (fun _ wr => scrLen b wr)
  case atStart => exact ⟨1, bs.length + 1, bs, by unfold Hid; omega, HN.out, rfl, by omega, by unfold Hid; omega, HBD.out, H.out.grew HK3.out, Kept.refl _ _⟩
  case round =>
    clear H
    obtain ⟨k, f, rest, Hf, HNb, rfl, hk, Hkr, HD, HS, HK⟩ := hrel
    have hrl : rest.length ≤ 1000001 := by have := Hkr.out; omega
    have hw4 : w.heap.size ≤ w4.heap.size := HK3.out.size
    have hwr : w4.heap.size ≤ wr.heap.size := HK.out.size
    have HKw : Hid (Kept (fun x => x = b) w wr) := (HK3.out.any (S := fun x => x = b)).trans HK.out
    have HBr := toHid (HB3.out.kept HK.out (fun x hx e => by
      have e' : x = b := e
      have := HF1.out x hx
      omega))
    by_cases h1 : rest.length < z
    · have hst : belF M t z f rest k = (0, 0, []) := by
        rcases belF_step (M := M) (t := t) (k := k) Hf.out hz0 with ⟨_, e⟩ | ⟨h, _⟩ | ⟨h, _⟩
        · exact e
        · exact absurd h1 h
        · exact absurd h1 h
      have e1 : belE xs bs = 150 := by rw [HE.out, HNb.out, hst]; rfl
      have e2 : belX xs bs = [] := by rw [HX.out, e1]; rfl
      have e3 : belK xs bs = 0 := by rw [HKk.out, e1]; rfl
      have e4 : belR xs bs = [] := by rw [HR.out, HNb.out, hst]
      have J5 := r15Read b B rest (z : Int) wr HS.out (by omega)
      rw [show readE rest (z : Int) = 150 by unfold readE; rw [if_neg (by omega), if_pos (by omega)], show readR rest (z : Int) = [] by unfold readR; rw [if_neg (by omega)]; exact List.drop_eq_nil_of_le (by simp; omega)] at J5
      have J5 := toHid J5
      have HE1 := toHid e1
      have HE2 := toHid e2
      have HE3 := toHid e3
      have HE4 := toHid e4
      clear e1 e2 e3 e4 hst
      go_wp2_with fail
      refine J5.out.mono ?_
      rintro e w5 ⟨u, rfl, ho5, hs5, k5⟩
      have HS5 := toHid hs5
      have HK5 := toHid (HKw.out.trans k5)
      clear ho5 hs5 k5 J5
      go_wp2_with fail
      refine bodyPost_ret (v := .tuple #[.slice none 0 0, .int .i64 0, .int .i64 150]) (by simp [results, Tryz.results54, go_sem]) rfl ?_
      rw [HE1.out, HE2.out, HE3.out, HE4.out]
      exact ⟨_, rfl, Row.nil _ _, (fun x hx => by cases hx), HS5.out, HK5.out⟩
    · have J5 := r15Read b B rest (z : Int) wr HS.out (by omega)
      have hE0 : readE rest (z : Int) = 0 := by unfold readE; rw [if_neg (by omega), if_neg (by omega)]
      rw [hE0, show readL rest (z : Int) = rest.take z by unfold readL; rw [hE0]; rfl, show readR rest (z : Int) = rest.drop z by unfold readR; rw [if_neg (by omega)]; rfl] at J5
      have J5 := toHid J5
      clear hE0
      have HDt : Hid (Digs 256 (rest.take z)) := fun d hd => HD.out d (List.mem_of_mem_take hd)
      have HDd : Hid (Digs 256 (rest.drop z)) := fun d hd => HD.out d (List.mem_of_mem_drop hd)
      have hlt : (rest.take z).length ≤ 2401 := by rw [List.length_take]; omega
      have hdl := bev_dlen HDt.out
      have hst := belF_step (M := M) (t := t) (k := k) Hf.out hz0
      obtain ⟨X, hX⟩ : ∃ X, X = bev (rest.take z) % 2 ^ t := ⟨_, rfl⟩
      rw [← hX] at hst
      have HST := toHid hst
      have HXX := toHid hX
      have hp : 0 < 2 ^ t := Nat.pow_pos (by omega)
      clear hst hX
      go_wp2_with fail
      refine J5.out.mono ?_
      rintro e w5 ⟨u, rfl, ho5, hs5, k5⟩
      have HS5 := toHid hs5
      have HK5 := toHid (HKw.out.trans k5)
      have HKr5 := toHid k5
      have J6 := toHid (rFromBytes u _ w5 ho5.row HDt.out (by omega))
      clear ho5 hs5 k5 J5
      go_wp2_with fail
      refine J6.out.mono ?_
      rintro e w6 ⟨v6, rfl, hb6, f6, k6⟩
      have HB6 := toHid hb6
      have HK6 := toHid k6
      have J7 := toHid (rSmall 1 (by omega) w6)
      clear hb6 f6 k6 J6
      go_wp2_with fail
      refine J7.out.mono ?_
      rintro e w7 ⟨v7, rfl, hb7, f7, k7⟩
      have HK7 := toHid (HK6.out.trans k7)
      have HB6' := toHid (HB6.out.grew k7)
      have J8 := toHid (rShl v7 1 t w7 hb7 (by rw [show dlen 1 = 1 by decide]; omega) (by omega))
      clear hb7 f7 k7 J7 HB6 HK6
      go_wp2_with fail
      refine J8.out.mono ?_
      rintro e w8 ⟨v8, rfl, hb8, f8, k8⟩
      rw [Nat.mul_one] at hb8
      have HK8 := toHid (HK7.out.trans k8)
      have J9 := rMod v6 v8 (bev (rest.take z)) (2 ^ t) w8 (HB6'.out.grew k8) hb8 hp (by omega)
      rw [← HXX.out] at J9
      have J9 := toHid J9
      clear hb8 f8 k8 J8 HB6' HK7
      go_wp2_with fail
      refine J9.out.mono ?_
      rintro e w9 ⟨v9, rfl, hb9, f9, k9⟩
      obtain ⟨xo, xn, xc, rfl, HXn, _⟩ := hb9.length
      have HK9 := toHid (HK8.out.trans k9)
      have HB9 := toHid hb9
      have HBm := toHid ((HBr.out.kept HKr5.out (fun x hx e => by
        have e' : x = b := e
        have := HF1.out x hx
        omega)).grew HK9.out)
      have HS9 := toHid (HS5.out.grew HK9.out)
      have HKw9 := toHid (HK5.out.next HK9.out (fun x _ f => f.elim))
      have HK49 : Hid (Kept (fun x => x = b) w4 w9) := (HK.out.trans HKr5.out).next HK9.out (fun x _ f => f.elim)
      have hw9 : w.heap.size ≤ w9.heap.size := HKw9.out.size
      clear hb9 f9 k9 J9 HK8
      by_cases hX0 : X = 0
      · have gx : xn = 0 := by rw [HXn.out, hX0]; rfl
        subst gx
        obtain ⟨g, hg, hgo⟩ : ∃ g, (rest.drop z).length < g ∧ belF M t z f rest k = belF M t z g (rest.drop z) (k + 1) := by
          rcases HST.out with ⟨h, _⟩ | ⟨_, h, _⟩ | ⟨_, _, h⟩
          · exact absurd h h1
          · omega
          · exact h
        have HG := toHid hg
        have HGO := toHid hgo
        clear hg hgo
        go_wp2_with fail
        go_roundw
        case rel => exact ⟨k + 1, g, rest.drop z, HG.out, HNb.out.trans HGO.out, by go_num, by have := Hkr.out; omega, by unfold Hid; have := Hkr.out; rw [List.length_drop]; omega, HDd.out, HS9.out, HK49.out⟩
        case measure => rw [HS9.out.len, HS.out.len, List.length_drop]; omega
      · have gx : 0 < xn := by rw [HXn.out]; exact dlen_pos (by omega)
        have gx2 : (0 : Int) < (xn : Int) := by omega
        have gx3 : (xn : Int) > 0 := gx2
        have J10 := rCmp _ _ X M w9 HB9.out HBm.out
        by_cases hXM : X < M
        · rw [cmpN_lt hXM] at J10
          have J10 := toHid J10
          have hgo : belF M t z f rest k = (X, k, rest.drop z) := by
            rcases HST.out with ⟨h, _⟩ | ⟨_, _, h⟩ | ⟨_, h, _⟩
            · exact absurd h h1
            · exact h
            · exact absurd ⟨by omega, hXM⟩ h
          have e1 : belE xs bs = 0 := by rw [HE.out, HNb.out, hgo]; exact if_neg hX0
          have e2 : belX xs bs = digs 18446744073709551616 X L := by rw [HX.out, e1, HNb.out, hgo]; rfl
          have e3 : belK xs bs = k := by rw [HKk.out, e1, HNb.out, hgo]; rfl
          have e4 : belR xs bs = rest.drop z := by rw [HR.out, HNb.out, hgo]
          have HE1 := toHid e1
          have HE2 := toHid e2
          have HE3 := toHid e3
          have HE4 := toHid e4
          clear e1 e2 e3 e4 hgo
          go_wp2_with fail
          refine J10.out.mono ?_
          rintro e w10 ⟨rfl, nn, rfl⟩
          have HKn := toHid ((Kept.refl Nought w9).drewN nn)
          have J11 := toHid (rNat _ X L (w9.drewN nn) (HB9.out.grew HKn.out) (by omega))
          generalize w9.drewN nn = wa at *
          clear J10
          go_wp2_with fail
          refine J11.out.mono ?_
          rintro e wb ⟨v11, rfl, hr11, f11, k11⟩
          have HR11 := toHid hr11
          have HF11 := toHid f11
          have HK11 := toHid (HKn.out.trans k11)
          clear hr11 f11 k11 J11
          go_wp2_with fail
          refine bodyPost_ret (v := .tuple #[v11, .int .i64 (k : Int), .int .i64 0]) (by simp [results, Tryz.results54, go_sem]) rfl ?_
          rw [HE1.out, HE2.out, HE3.out, HE4.out]
          exact ⟨_, rfl, HR11.out, (fun x hx => by rw [HF11.out] at hx; cases hx; have := HKn.out.size; omega), HS9.out.grew HK11.out, HKw9.out.next HK11.out (fun x _ f => f.elim)⟩
        · have hcm : ¬ cmpN X M < 0 := by
            rcases Nat.lt_or_ge M X with h | h
            · rw [cmpN_gt h]; omega
            · obtain rfl : X = M := by omega
              unfold cmpN
              simp
          obtain ⟨g, hg, hgo⟩ : ∃ g, (rest.drop z).length < g ∧ belF M t z f rest k = belF M t z g (rest.drop z) (k + 1) := by
            rcases HST.out with ⟨h, _⟩ | ⟨_, h, _⟩ | ⟨_, _, h⟩
            · exact absurd h h1
            · omega
            · exact h
          generalize cmpN X M = cx at *
          have J10 := toHid J10
          have HG := toHid hg
          have HGO := toHid hgo
          clear hg hgo
          go_wp2_with fail
          refine J10.out.mono ?_
          rintro e w10 ⟨rfl, nn, rfl⟩
          have HSn := toHid (HS9.out.grew ((Kept.refl Nought w9).drewN nn))
          have HKn := toHid (HK49.out.drewN nn)
          generalize w9.drewN nn = wa at *
          clear J10
          go_wp2_with fail
          go_roundw
          case rel => exact ⟨k + 1, g, rest.drop z, HG.out, HNb.out.trans HGO.out, by go_num, by have := Hkr.out; omega, by unfold Hid; have := Hkr.out; rw [List.length_drop]; omega, HDd.out, HSn.out, HKn.out⟩
          case measure => rw [HSn.out.len, HS.out.len, List.length_drop]; omega

end Go.Proofs.YtcjaafmlflonhaaGreatDoor


/- A slice of numbers that grows by append. -/
namespace Go.Proofs.YtcjaafmlflonhaaGreatDoor
open Go.RowKit

/-- A slice of numbers that grows: it holds k numbers of L words, number j reads f j and lies apart from the slice's own memory. -/
def Grows (w : World) (base : Nat) (out : Value) (L k : Nat) (A : Nat → Option Addr) (C : Nat → Nat) (f : Nat → List Nat) : Prop :=
  w.ownsRow base 31 1 out k ((List.range k).map fun j => .slice (A j) L (C j)) ∧ ∀ j, j < k → Row .u64 w (.slice (A j) L (C j)) (f j) ∧ ∀ b, (Value.slice (A j) L (C j)).ownBlock = some b → out.ownBlock ≠ some b

theorem Grows.nil (w : World) (base L : Nat) (A : Nat → Option Addr) (C : Nat → Nat) (f : Nat → List Nat) : Grows w base (.slice none 0 0) L 0 A C f := ⟨World.ownsRow_nil _ _ _ _, fun j hj => by omega⟩

theorem Grows.grew {w w' : World} {base : Nat} {out : Value} {L k : Nat} {A : Nat → Option Addr} {C : Nat → Nat} {f : Nat → List Nat} (h : Grows w base out L k A C f) (kk : Kept Nought w w') : Grows w' base out L k A C f :=
  ⟨kk.own h.1 (fun _ _ q => q), fun j hj => ⟨(h.2 j hj).1.grew kk, (h.2 j hj).2⟩⟩

theorem append_apart {W w4 : World} {out v : Value} {zs : List Nat} {g n cap : Nat} (hr : Row .u64 W v zs) (hne : zs ≠ []) (hap : ∀ b, v.ownBlock = some b → out.ownBlock ≠ some b) (hg : W.grownBy w4 out.ownBlock) (hat : out.ownBlock = some g ∨ g = W.heap.size) :
    Row .u64 w4 v zs ∧ ∀ b, v.ownBlock = some b → (Value.slice (some ⟨g, 0, none⟩) n cap).ownBlock ≠ some b := by
  have kk : Kept (fun b => out.ownBlock = some b) W w4 := (Kept.refl _ W).grown hg (fun b e _ => e)
  refine ⟨hr.kept' kk (fun _ b hb f => hap b hb f), fun b hb e => ?_⟩
  have e' : g = b := by simpa [Value.ownBlock] using e
  subst e'
  rcases hat with h1 | h1
  · exact hap g hb h1
  · have := hr.lt hne g hb
    omega

theorem Grows.base {w : World} {base base' : Nat} {out : Value} {L k : Nat} {A : Nat → Option Addr} {C : Nat → Nat} {f : Nat → List Nat} (h : Grows w base out L k A C f) (hb : base' ≤ base) : Grows w base' out L k A C f :=
  ⟨own_base h.1 (fun b e => Nat.le_trans hb (World.ownsRow.lt h.1 b e).1), h.2⟩

theorem Grows.push {W w4 : World} {base : Nat} {out : Value} {L k g cap : Nat} {A : Nat → Option Addr} {C : Nat → Nat} {f : Nat → List Nat} {yo : Option Addr} {yc : Nat} (h : Grows W base out L k A C f) (hf : ∀ j, f j ≠ [])
    (hy : Row .u64 W (.slice yo L yc) (f k)) (hya : ∀ b, (Value.slice yo L yc).ownBlock = some b → out.ownBlock ≠ some b)
    (ho : w4.ownsRow base 31 1 (.slice (some ⟨g, 0, none⟩) (k + 1) cap) (k + 1) (((List.range k).map fun j => .slice (A j) L (C j)) ++ [.slice yo L yc])) (hg : W.grownBy w4 out.ownBlock) (hat : out.ownBlock = some g ∨ g = W.heap.size) :
    Grows w4 base (.slice (some ⟨g, 0, none⟩) (k + 1) cap) L (k + 1) (fun j => if j = k then yo else A j) (fun j => if j = k then yc else C j) f := by
  refine ⟨?_, fun j hj => ?_⟩
  · rw [List.range_succ, List.map_append, List.map_cons, List.map_nil]
    dsimp only
    rw [if_pos rfl, if_pos rfl]
    have e : ((List.range k).map fun j => Value.slice (if j = k then yo else A j) L (if j = k then yc else C j)) = (List.range k).map fun j => Value.slice (A j) L (C j) := by
      refine List.map_congr_left (fun j hj => ?_)
      have : j < k := List.mem_range.1 hj
      rw [if_neg (by omega), if_neg (by omega)]
    rw [e]
    exact ho
  · by_cases e : j = k
    · subst e
      dsimp only
      rw [if_pos rfl, if_pos rfl]
      exact append_apart hy (hf _) hya hg hat
    · dsimp only
      rw [if_neg e, if_neg e]
      exact append_apart (h.2 j (by omega)).1 (hf j) (h.2 j (by omega)).2 hg hat

theorem Tryz.infoN31 : (Tryz.prog.info? 31).map (fun i => (i.zero, i.size, i.bytes)) = some (some (.slice none 0 0), 1, 24) := by kernel_rfl

theorem row_slice {w : World} {v : Value} {zs : List Nat} {L : Nat} (h : Row .u64 w v zs) (hl : zs.length = L) : ∃ po pc, v = .slice po L pc := by
  obtain ⟨po, pn, pc, rfl, hpn, _⟩ := h.open
  have : pn = L := hpn.out.symm.trans hl
  subst this
  exact ⟨po, pc, rfl⟩

end Go.Proofs.YtcjaafmlflonhaaGreatDoor


/- The plain side of layer 17 (package sconceref16): Rounds, as numbers. -/
namespace Go.Proofs.YtcjaafmlflonhaaGreatDoor
open Go.RowKit

theorem belF_less (M t z : Nat) (hz : 0 < z) : ∀ f bs k, (belF M t z f bs k).1 ≠ 0 → (belF M t z f bs k).2.2.length < bs.length
  | 0, _, _, h => absurd rfl h
  | f + 1, bs, k, h => by
    unfold belF at *
    split at h
    · exact absurd rfl h
    · next h1 =>
      rw [if_neg h1]
      split at h
      · next h2 => rw [if_pos h2]; simp only [List.length_drop]; omega
      · next h2 =>
        rw [if_neg h2]
        have := belF_less M t z hz f (bs.drop z) (k + 1) h
        rw [List.length_drop] at this
        omega

theorem blen_pos {M : Nat} (h : 0 < M) : 0 < blen M := by
  rcases Nat.eq_zero_or_pos (blen M) with e | e
  · have := (blen_le M 0).1 (by omega)
    simp at this
    omega
  · exact e

theorem bel_less {xs bs : List Nat} (h : belE xs bs = 0) : (belR xs bs).length < bs.length := by
  unfold belE at h
  unfold belR
  split at h
  · omega
  · next h1 =>
    split at h
    · omega
    · next h2 =>
      split at h
      · omega
      · next h3 =>
        rw [if_neg (by omega)]
        exact belF_less _ _ _ (by have := blen_pos (show 0 < val 18446744073709551616 xs by omega); omega) _ _ _ h3

theorem bel_rest (xs bs : List Nat) : ∃ n, belR xs bs = bs.drop n := by
  unfold belR
  split
  · exact ⟨0, by simp⟩
  · exact belF_rest _ _ _ _ _ _

theorem bel_len {xs bs : List Nat} (h : belE xs bs = 0) : (belX xs bs).length = xs.length := by
  unfold belX
  rw [if_pos h, digs_length]

theorem bel_val {xs bs : List Nat} (hd : Digs 18446744073709551616 xs) (h : belE xs bs = 0) : 0 < val 18446744073709551616 (belX xs bs) ∧ val 18446744073709551616 (belX xs bs) < val 18446744073709551616 xs := by
  have hb := h
  unfold belE at h
  split at h
  · omega
  · split at h
    · omega
    · next h2 =>
      split at h
      · omega
      · next h3 =>
        have hlt := belF_lt (val 18446744073709551616 xs) (blen (val 18446744073709551616 xs)) ((blen (val 18446744073709551616 xs) + 7) / 8) (by omega) (bs.length + 1) bs 1
        have hlt' : (belN (val 18446744073709551616 xs) bs).1 < val 18446744073709551616 xs := hlt
        unfold belX
        rw [if_pos hb, val_digs, Nat.mod_eq_of_lt (Nat.lt_trans hlt' (val_lt (by omega) hd))]
        exact ⟨by omega, hlt'⟩

/-- What Rounds comes to: whether, with which bases, the error, the bytes that are left. -/
def rndF (xs : List Nat) (k : Nat) : Nat → Nat → List Nat → List (List Nat) → Bool × List (List Nat) × Nat × List Nat
  | 0, _, bs, _ => (false, [], 150, bs)
  | f + 1, i, bs, acc => if k ≤ i then (true, acc, 0, bs) else if belE xs bs ≠ 0 then (false, [], belE xs bs, belR xs bs) else
    if val 18446744073709551616 (belX xs bs) = 1 ∨ val 18446744073709551616 (belX xs bs) = val 18446744073709551616 xs - 1 then rndF xs k f i (belR xs bs) acc else
    if strongB (val 18446744073709551616 xs) (val 18446744073709551616 (belX xs bs)) then rndF xs k f (i + 1) (belR xs bs) (acc ++ [belX xs bs]) else (false, acc ++ [belX xs bs], 0, belR xs bs)

/-- What Rounds answers. -/
def rndAll (xs : List Nat) (k : Int) (bs : List Nat) : Bool × List (List Nat) × Nat × List Nat :=
  if oddE (val 18446744073709551616 xs) ≠ 0 then (false, [], oddE (val 18446744073709551616 xs), bs) else if k < 0 ∨ 100 < k then (false, [], 1, bs) else rndF xs k.toNat (bs.length + 1) 0 bs []

theorem scr_apart {w : World} {b B : Nat} {bs xs : List Nat} {v : Value} (h : ScrAt w b B bs) (hr : Row .u64 w v xs) (hne : xs ≠ []) : ∀ x, v.ownBlock = some x → x ≠ b := by
  obtain ⟨sv, ⟨h1, hrow, _⟩, _⟩ := h
  intro x hx e
  subst e
  obtain ⟨ao, cap, rfl, _, _, _, h4⟩ := hr
  obtain ⟨b2, off, rfl, hc⟩ := h4 0 (by cases xs with
    | nil => exact absurd rfl hne
    | cons a l => simp)
  have e : b2 = x := by simpa [Value.ownBlock] using hx
  subst e
  have hs : ∃ so sn sc, sv = .slice so sn sc := by
    obtain ⟨so, sc, e, _⟩ := hrow
    exact ⟨so, _, sc, e⟩
  obtain ⟨so, sn, sc, rfl⟩ := hs
  simp only [World.cell?, h1] at hc
  cases off with
  | zero => simp at hc
  | succ o => simp at hc

end Go.Proofs.YtcjaafmlflonhaaGreatDoor

