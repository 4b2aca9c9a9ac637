/- Package sign: Encode, Verify. -/
import Derived.Test.YthnkganmccgaeaaDoorSgn3
import Derived.Test.YthnkganmccgaeaaDoorHas1
import Derived.Test.YthnkganmccgaeaaDoorHas2
import Derived.Test.YthnkganmccgaeaaDoorLaw25
namespace Go.Proofs.YthnkganmccgaeaaDoor
open Go.RowKit

theorem sgStands : Stands TabH := fun _ _ h k => h.grew k

set_option maxRecDepth 20000 in
set_option maxHeartbeats 2000000 in
/-- Encode. -/
theorem sgEnc : SEnc TabH := by
  intro h mo M mc ms k w hT hh0 hh1 hk0 hk1 hm dm hM
  obtain ⟨_, _, _, e1, hML, -, -, -, -⟩ := hm.open
  cases e1
  have JP := z13Prefix h w
  have JZ := toHid fun W => z13Size h W
  have JS := toHid fun W (kk : Kept Nought w W) => z13Sum h (.slice mo M mc) ms W (hT.grew kk) (hm.grew kk) dm (by rw [hML.out]; omega)
  clear hT hm dm hML
  have hz64 := hsz_le h
  by_cases c1 : hszN h = 0
  · have HE : Hid (siE h ms k = 130) := by unfold Hid siE; rw [if_pos c1]
    have HL0 : Hid (siL h ms k = []) := by unfold Hid siL; rw [HE.out]; rfl
    rw [c1] at JZ
    clear JS c1 hz64
    go_enter Tryd.func7, Tryd.ntmps7
    go_wp2_with fail
    refine JP.mono ?_
    rintro e w1 ⟨u1, rfl, o1, k1⟩
    obtain ⟨xo, xc, rfl⟩ := own_slice o1
    have hZ := JZ.out w1
    clear JP o1 JZ
    go_wp2_with fail
    refine hZ.mono ?_
    rintro e w2 ⟨rfl, k2⟩
    clear hZ
    go_wp2_with fail
    go_ret2
    exact ⟨_, by rw [HE.out]; rfl, by rw [HL0.out]; exact ⟨Row.nil _ _, fun b hb => by cases hb⟩, k1.trans k2⟩
  have HPL := toHid (preN_length c1)
  have HHL := toHid (hshN_length h ms)
  have HE : Hid (siE h ms k = if k < 0 ∨ 1024 < k then 1 else if k < ((siT h ms).length : Int) + 11 then 232 else 0) := by unfold Hid siE; rw [if_neg c1]
  have HLL : Hid (siL h ms k = if siE h ms k = 0 then [0, 1] ++ List.replicate (k.toNat - 3 - (siT h ms).length) 255 ++ [0] ++ siT h ms else []) := rfl
  have HT : Hid (siT h ms = preN h ++ hshN h ms) := rfl
  rw [(hsh_ok c1).1] at JS
  have hs0 : 0 < hszN h := Nat.pos_of_ne_zero c1
  have gs0 : ¬ ((hszN h : Nat) : Int) = 0 := by omega
  generalize hszN h = s at *
  generalize hshN h ms = hs at *
  generalize preN h = pr at *
  generalize siT h ms = T at *
  have HTL : Hid (T.length = 19 + s) := by unfold Hid; rw [HT.out, List.length_append, HPL.out, HHL.out]
  rw [HTL.out] at HE HLL
  clear c1
  by_cases c2 : k < 0 ∨ 1024 < k
  · have HE1 : Hid (siE h ms k = 1) := by unfold Hid; rw [HE.out, if_pos c2]
    have HL0 : Hid (siL h ms k = []) := by unfold Hid; rw [HLL.out, HE1.out]; rfl
    clear JS HE HLL
    by_cases c3 : k < 0
    · clear c2
      go_enter Tryd.func7, Tryd.ntmps7
      go_wp2_with fail
      refine JP.mono ?_
      rintro e w1 ⟨u1, rfl, o1, k1⟩
      obtain ⟨xo, xc, rfl⟩ := own_slice o1
      have hZ := JZ.out w1
      clear JP o1 JZ
      go_wp2_with fail
      refine hZ.mono ?_
      rintro e w2 ⟨rfl, k2⟩
      clear hZ
      go_wp2_with fail
      go_ret2
      exact ⟨_, by rw [HE1.out]; rfl, by rw [HL0.out]; exact ⟨Row.nil _ _, fun b hb => by cases hb⟩, k1.trans k2⟩
    · have g2 : (1024 : Int) < k := by omega
      clear c2
      go_enter Tryd.func7, Tryd.ntmps7
      go_wp2_with fail
      refine JP.mono ?_
      rintro e w1 ⟨u1, rfl, o1, k1⟩
      obtain ⟨xo, xc, rfl⟩ := own_slice o1
      have hZ := JZ.out w1
      clear JP o1 JZ
      go_wp2_with fail
      refine hZ.mono ?_
      rintro e w2 ⟨rfl, k2⟩
      clear hZ
      go_wp2_with fail
      go_ret2
      exact ⟨_, by rw [HE1.out]; rfl, by rw [HL0.out]; exact ⟨Row.nil _ _, fun b hb => by cases hb⟩, k1.trans k2⟩
  have a1 : ¬ k < 0 := fun e => c2 (.inl e)
  have a3 : ¬ (1024 : Int) < k := fun e => c2 (.inr e)
  have HE2 : Hid (siE h ms k = if k < ((19 + s : Nat) : Int) + 11 then 232 else 0) := by unfold Hid; rw [HE.out, if_neg c2]
  clear HE c2
  by_cases c4 : k < ((19 + s : Nat) : Int) + 11
  · have HE1 : Hid (siE h ms k = 232) := by unfold Hid; rw [HE2.out, if_pos c4]
    have HL0 : Hid (siL h ms k = []) := by unfold Hid; rw [HLL.out, HE1.out]; rfl
    clear JS HE2 HLL
    go_enter Tryd.func7, Tryd.ntmps7
    go_wp2_with fail
    refine JP.mono ?_
    rintro e w1 ⟨u1, rfl, o1, k1⟩
    obtain ⟨xo, pn, xc, rfl, hpn, -, -, -, -⟩ := o1.row.open
    have hpn2 : pn = 19 := by rw [← hpn.out, HPL.out]
    have g4 : k < (pn : Int) + (s : Int) + 11 := by omega
    have hpb : pn ≤ 19 := by omega
    have hZ := JZ.out w1
    clear JP o1 JZ hpn hpn2 c4
    go_wp2_with fail
    refine hZ.mono ?_
    rintro e w2 ⟨rfl, k2⟩
    clear hZ
    go_wp2_with fail
    go_ret2
    exact ⟨_, by rw [HE1.out]; rfl, by rw [HL0.out]; exact ⟨Row.nil _ _, fun b hb => by cases hb⟩, k1.trans k2⟩
  obtain ⟨n, hn⟩ : ∃ n : Nat, k = (n : Int) + 3 + 19 + (s : Int) := ⟨(k - 22 - (s : Int)).toNat, by omega⟩
  have HE1 : Hid (siE h ms k = 0) := by unfold Hid; rw [HE2.out, if_neg c4]
  have HL1 : Hid (siL h ms k = [0, 1] ++ List.replicate n 255 ++ [0] ++ (pr ++ hs)) := by
    unfold Hid
    rw [HLL.out, if_pos HE1.out, show k.toNat - 3 - (19 + s) = n by omega, HT.out]
  have hn0 : 0 < n := by omega
  have hnb : n ≤ 2000 := by omega
  have HN := toHid hn
  clear HE2 HLL HT HTL hn
  go_enter Tryd.func7, Tryd.ntmps7
  go_wp2_with fail
  refine JP.mono ?_
  rintro e w1 ⟨u1, rfl, o1, k1⟩
  have HR1 := toHid o1.row
  have HK1 := toHid k1
  obtain ⟨po, pn, pc, rfl, hpn, -, -, -, -⟩ := o1.row.open
  have hpn2 : pn = 19 := by rw [← hpn.out, HPL.out]
  have g4 : ¬ k < (pn : Int) + (s : Int) + 11 := by omega
  have hk2 : k = (n : Int) + 3 + (pn : Int) + (s : Int) := by have := HN.out; omega
  have hpb : pn ≤ 19 := by omega
  have HK2' := toHid hk2
  have hZ := JZ.out w1
  clear JP o1 JZ hpn hpn2 c4 k1 hk2
  go_wp2_with fail
  refine hZ.mono ?_
  rintro e w2 ⟨rfl, k2⟩
  have hS := JS.out w2 (HK1.out.trans k2)
  have HK2 := toHid (HK1.out.trans k2)
  have HR2 := toHid (HR1.out.grew k2)
  clear hZ JS k2 HK1 HR1
  go_wp2_with fail
  refine hS.mono ?_
  rintro e w3 ⟨v3, rfl, r3, -, k3⟩
  have HR3 := toHid r3
  have HK3 := toHid (HK2.out.trans k3)
  obtain ⟨so, sn, sc, rfl, hsn, -, -, -, -⟩ := r3.open
  have hsn2 : sn = s := by rw [← hsn.out, HHL.out]
  subst hsn2
  have hka : Kept Nought w3 (w3.alloc (.cells #[.slice po pn pc, .slice so sn sc] 22)) := (Kept.refl Nought w3).alloc _
  have hbl : (w3.alloc (.cells #[.slice po pn pc, .slice so sn sc] 22)).heap[w3.heap.size]? = some (.cells #[.slice po pn pc, .slice so sn sc] 22 (0, 0)) := heap_alloc_new w3 _
  have JB := sgBlock k w3.heap.size n pn sn po so pc sc pr hs (w3.alloc (.cells #[.slice po pn pc, .slice so sn sc] 22)) ((cell_of_row _ _ 0 _ _ _ hbl).trans rfl) ((cell_of_row _ _ 1 _ _ _ hbl).trans rfl) ((HR2.out.grew k3).grew hka) (HR3.out.grew hka) (by omega) (by omega) HK2'.out hn0 hnb
  rw [← HL1.out] at JB
  have HKA := toHid (HK3.out.trans hka)
  clear hS r3 k3 hsn hka hbl HR2 HR3 HK2
  go_wp2_with fail
  refine JB.mono ?_
  rintro e w4 ⟨v4, rfl, o4, k4⟩
  have HO4 := toHid (o4.base HKA.out.size)
  have HK4 := toHid (HKA.out.trans k4)
  clear JB o4 k4
  go_wp2_with fail
  go_ret2
  exact ⟨_, by rw [HE1.out]; rfl, ⟨HO4.out.row, fun b hb => (HO4.out.lt b hb).1⟩, HK4.out⟩

set_option maxRecDepth 20000 in
set_option maxHeartbeats 1000000 in
/-- Verify. -/
theorem sgVer : SVer TabH := by
  intro h mo M mc ms eo L ec em R w hR hT hh0 hh1 hm dm hM he de hL
  have J1 := sgEnc h mo M mc ms (L : Int) w hT hh0 hh1 (by omega) (by omega) hm dm hM
  have JQ := toHid fun W (k : Kept Nought w W) (u : Value) (hu : Row .u8 W u (siL h ms (L : Int))) => sgEqual (.slice eo L ec) u em (siL h ms (L : Int)) W (he.grew k) hu de (siL_digs _ _ _)
  clear hm dm he de hT
  generalize siE h ms (L : Int) = E at *
  generalize siL h ms (L : Int) = sl at *
  go_enter Tryd.func10, Tryd.ntmps10
  go_wp2_with fail
  refine J1.mono ?_
  rintro e w1 ⟨u1, rfl, ⟨r1, -⟩, k1⟩
  have HK1 := toHid k1
  have hQ := JQ.out w1 k1 u1 r1
  obtain ⟨xo, xn, xc, rfl, -, -, -, -, -⟩ := r1.open
  clear J1 r1 k1 JQ
  by_cases c1 : E = 0
  · subst c1
    have HR : Hid (decide (em = sl) = R) := by
      unfold Hid
      rw [hR]
      by_cases e : em = sl
      · rw [decide_eq_true e, decide_eq_true ⟨rfl, e.symm⟩]
      · rw [decide_eq_false e, decide_eq_false fun x => e x.2.symm]
    rw [HR.out] at hQ
    clear hR HR
    go_wp2_with fail
    refine hQ.mono ?_
    rintro e w2 ⟨rfl, rfl⟩
    clear hQ
    go_wp2_with fail
    go_ret
    exact ⟨by first | rfl | simp, HK1.out⟩
  · have hRf : R = false := by rw [hR, decide_eq_false (fun h => c1 h.1)]
    subst hRf
    have g1 : ¬ (E : Int) = 0 := by omega
    clear hR c1 hQ
    go_wp2_with fail
    go_ret
    exact ⟨by first | rfl | simp [g1], HK1.out⟩

end Go.Proofs.YthnkganmccgaeaaDoor
