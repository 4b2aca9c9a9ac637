/- Put together of: BigDivMod NatB Seq0 NatD. -/
import Derived.Test.YtldbfcifoijliaaGreatDoorPk1
import Derived.Test.YtldbfcifoijliaaGreatDoorPk3
import Derived.Test.YtldbfcifoijliaaGreatDoorPk4
import Derived.Test.YtldbfcifoijliaaGreatDoorPk5
import Derived.Test.YtldbfcifoijliaaGreatDoorPk7
import Derived.Test.YtldbfcifoijliaaGreatDoorPk10
import Derived.Deep.RegionHeld3
import Derived.Deep.DrawnRows
import Derived.Deep.RegionWith
import Derived.Shelf.Strings.BuilderK
import Derived.Shelf.Strings.Repeat
import Derived.Shelf.Small.Wraps
import Derived.Shelf.Strconv.Itoa0
import Derived.RangeFuncWrites
import Derived.RangeFuncNested
import Derived.RangeFuncBound
import Derived.RangeFuncCalls
import Derived.RangeFuncLeaves
import Derived.RangeFuncBox
import Derived.Shelf.Abstract
import Derived.Shelf.RegionOpen
import Derived.OwnWalkIn
import Derived.TacticsInMore
import Derived.LoopNIn
import Derived.LoopIn

/- The plain quotient and rest. -/
namespace Go.Proofs.YtldbfcifoijliaaGreatDoor
open Go.RowKit

attribute [local go_sem ↓] Go.wp_at_zero Go.wp_at_succ

theorem bit_and1 (t r : Nat) (ht : t < 4294967296) : bits .and .u32 ((t : Int) / 2 ^ r) 1 = ((t / 2 ^ r % 2 : Nat) : Int) := by
  have e : (t : Int) / 2 ^ r = ((t / 2 ^ r : Nat) : Int) := by simp
  have hy := Nat.div_le_self t (2 ^ r)
  have h1 := u32_and_nat (t / 2 ^ r) 1 (by omega) (by omega)
  rw [nat_mask1] at h1
  rw [e, show (1 : Int) = ((1 : Nat) : Int) from rfl, h1]

theorem top_bit {t r : Nat} (h : t < 2 ^ (r + 1)) (hb : t / 2 ^ r % 2 = 0) : t < 2 ^ r := by
  have h1 : t / 2 ^ r < 2 := by rw [Nat.div_lt_iff_lt_mul (Nat.pow_pos (by omega))]; rw [Nat.pow_succ] at h; omega
  have h2 : t / 2 ^ r = 0 := by
    generalize t / 2 ^ r = q at *
    omega
  rcases Nat.lt_or_ge t (2 ^ r) with h3 | h3
  · exact h3
  · have := (Nat.div_pos_iff).2 ⟨Nat.pow_pos (n := r) (show 0 < 2 by omega), h3⟩
    omega

theorem top_bit1 {t r : Nat} (hb : t / 2 ^ r % 2 ≠ 0) : 2 ^ r ≤ t := by
  rcases Nat.lt_or_ge t (2 ^ r) with h3 | h3
  · rw [Nat.div_eq_of_lt h3] at hb
    exact absurd rfl hb
  · exact h3

set_option maxRecDepth 100000 in
set_option maxHeartbeats 600000 in
theorem rDivMod (u v : Value) (A M : Nat) (w : World) (hu : IsBig w u A) (hv : IsBig w v M) (hM : 0 < M) (hla : dlen A ≤ 10000000) :
    Calls Tryz.prog 59 #[u, v] w fun r w' => ∃ v1 v2, r = .returned (.tuple #[v1, v2]) ∧ IsBig w' v1 (A / M) ∧ IsBig w' v2 (A % M) ∧ (∀ b, v1.ownBlock = some b → w.heap.size ≤ b) ∧ (∀ b, v2.ownBlock = some b → u.ownBlock = some b ∨ w.heap.size ≤ b) ∧ Kept Nought w w' := by
  obtain ⟨i0, hi0, hz0, hz1, hz2⟩ := info_parts Tryz.info62
  have hC := rCmp u v A M w hu hv
  by_cases hlt : A < M
  · rw [cmpN_lt hlt] at hC
    have E1 : Hid (A / M = 0) := Nat.div_eq_of_lt hlt
    have E2 : Hid (A % M = A) := Nat.mod_eq_of_lt hlt
    clear hlt
    go_enter Tryz.func59, Tryz.ntmps59
    go_wp2_with fail
    refine hC.mono ?_
    rintro e w1 ⟨rfl, n1, rfl⟩
    go_wp2
    go_ret2
    have k1 : Kept Nought w (w.drewN n1) := (Kept.refl _ _).drewN n1
    exact ⟨.slice none 0 0, u, rfl, by rw [E1.out]; exact IsBig.nil _, by rw [E2.out]; exact hu.grew k1, fun b hb => (by cases hb), fun b hb => .inl hb, k1⟩
  · have hcc : ¬ cmpN A M < 0 := by unfold cmpN; rw [if_neg hlt]; split <;> decide
    obtain ⟨cc, hcc2⟩ : ∃ cc, cc = cmpN A M := ⟨_, rfl⟩
    rw [← hcc2] at hC hcc
    have hAM : M ≤ A := by omega
    clear hcc2 hlt
    obtain ⟨ds, rd, dd, td, hdv, hdl⟩ := hv
    have hlm := len_dlen dd td
    rw [hdv] at hlm
    have hdlen : dlen M ≤ dlen A := dlen_mono hAM
    have hp1 : 0 < dlen M := by
      rcases Nat.eq_zero_or_pos (dlen M) with h | h
      · have := (dlen_le M 0).1 (by omega)
        simp at this; omega
      · exact h
    obtain ⟨p, hp⟩ : ∃ p, dlen M = p + 1 := ⟨dlen M - 1, by omega⟩
    rw [hp] at hlm
    have htop : 0 < ds.getD p 0 := by
      rcases td with h | h
      · omega
      · rw [hlm, Nat.add_sub_cancel] at h; omega
    have htlt := dd.getD (by omega) p
    have hv : IsBig w v M := ⟨ds, rd, dd, td, hdv, hdl⟩
    obtain ⟨bo, m, bc, rfl, hMl, _, _, _, hB⟩ := rd.open
    have hm : m = p + 1 := hMl.out.symm.trans hlm
    subst hm
    obtain ⟨gb, ob, rfl, cb⟩ := hB p (by omega)
    by_cases hone : p = 0
    · subst hone
      have hval : M = ds.getD 0 0 := by
        rw [← hdv]
        cases ds with
        | nil => simp at hlm
        | cons x r =>
          have : r = [] := List.eq_nil_of_length_eq_zero (by simpa using hlm)
          subst this
          simp [val]
      have hDS := fun W (hk : Kept Nought w W) => rDivSmall u A (ds.getD 0 0) W (hu.grew hk) htop htlt
      rw [← hval] at hDS cb
      simp only [Nat.add_zero] at cb
      clear hB hMl rd dd td hdv hval htop htlt
      go_enter Tryz.func59, Tryz.ntmps59
      go_wp2_with fail
      refine hC.mono ?_
      rintro e w1 ⟨rfl, n1, rfl⟩
      have k1 : Kept Nought w (w.drewN n1) := (Kept.refl _ _).drewN n1
      have hD1 := hDS _ k1
      clear hDS hC
      go_wp2_with fail
      refine hD1.mono ?_
      rintro e w2 ⟨v1, v2, rfl, b1, b2, o1, o2, k2⟩
      go_wp2
      go_ret2
      exact ⟨v1, v2, rfl, b1, b2, o1, fun b hb => .inr (o2 b hb), k1.trans k2⟩
    · have hp0 : ¬ (p : Int) + 1 = 1 := by omega
      have hu0 := hu
      obtain ⟨az, ra, da, ta, hav, hal⟩ := hu
      have hasl := len_dlen da ta
      rw [hav] at hasl
      obtain ⟨uo, la, uc, rfl, hLa, _, _, _, _⟩ := ra.open
      have hlae : la = dlen A := hLa.out.symm.trans hasl
      clear ra da ta hav hal hasl hLa
      have hu := hu0
      clear hu0
      rw [← hlae] at hla hdlen
      have HLA : Hid (la = dlen A) := hlae
      clear hlae
      go_enter Tryz.func59, Tryz.ntmps59
      go_wp2_with fail
      refine hC.mono ?_
      rintro e w1 ⟨rfl, n1, hw1⟩
      have k1 : Kept Nought w w1 := by rw [hw1]; exact (Kept.refl _ _).drewN n1
      have hcb := k1.cellN cb
      clear hC hw1 cb hB
      obtain ⟨t, ht⟩ : ∃ t, t = ds.getD p 0 := ⟨_, rfl⟩
      rw [← ht] at hcb htop htlt
      have HT : Hid (ds.getD p 0 = t) := ht.symm
      clear ht
      obtain ⟨W, hWW⟩ : ∃ W, Hid (w1 = W) := ⟨_, rfl⟩
      go_wp2_with fail
      go_loopw [6] (fun ss wr => ∃ s r : Nat, s + r = 31 ∧ ss = .int .i64 (s : Nat) ∧ Hid (t < 2 ^ (r + 1)) ∧ Hid (wr = W)) (fun ss _ => (31 - intOf ss).toNat)
      case atStart => exact ⟨0, 31, rfl, rfl, by unfold Hid; omega, hWW⟩
      case round =>
        obtain ⟨s, r, hsr, rfl, htr, hwr⟩ := hrel
        have hwr' : wr = w1 := hwr.out.trans hWW.out.symm
        subst hwr'
        have hs1 : (31 : Int) - (s : Int) = (r : Int) := by omega
        have hr31 : r ≤ 31 := by omega
        have hs31 : s ≤ 31 := by omega
        have HSR : Hid (s + r = 31) := hsr
        clear hsr
        have hand := bit_and1 t r htlt
        have g0 : (0 : Int) ≤ (p : Int) := Int.natCast_nonneg _
        have g3 : (p : Int) < (p : Int) + 1 := by omega
        by_cases hb : t / 2 ^ r % 2 = 0
        · have hlow := top_bit htr.out hb
          rw [hb] at hand
          have hr1 : 0 < r := by
            rcases Nat.eq_zero_or_pos r with h | h
            · subst h; simp at hlow; omega
            · exact h
          have hlow' : Hid (t < 2 ^ (r - 1 + 1)) := by unfold Hid; rw [Nat.sub_add_cancel hr1]; exact hlow
          clear hb hlow htr
          go_wp2
          go_roundw
          case rel => exact ⟨s + 1, r - 1, by have := HSR.out; omega, by go_num, hlow', hwr⟩
          case measure => simp [intOf]; omega
        · have hb1 : t / 2 ^ r % 2 = 1 := by omega
          have hge := top_bit1 hb
          rw [hb1] at hand
          have es : 31 - r = s := by have := HSR.out; omega
          obtain ⟨nv1, nv2, nv3⟩ := norm_div dd hlm HT.out htr.out hge hr31
          rw [hdv, es] at nv1 nv2 nv3
          obtain ⟨sh1, sh2, sh3⟩ := dlen_shift A s hs31
          rw [← HLA.out] at sh1 sh2 sh3
          have hSa := rShlOwn _ A s wr (hu.grew k1) (by rw [← HLA.out]; omega) (by omega)
          clear hb hb1 hge htr es HT
          go_wp2_with fail
          refine hSa.mono ?_
          rintro e w2 ⟨v2, rfl, own2, k2⟩
          obtain ⟨us, ou, du, tu, uv, ul⟩ := own2
          have hul := len_dlen du tu
          rw [uv] at hul
          rw [← hul] at sh1 sh2
          have HUL : Hid (us.length = dlen (2 ^ s * A)) := hul
          clear hul
          go_wp2_with (at_builtin; refine wpList_append_lies _ rfl _ _ 36 rfl wr.heap.size 62 i0 _ 1 4 Tryz.underlying36 hi0 hz0 hz1 hz2 rfl (by omega) _ _ _ rfl (ou.alloc _) ⟨w2.heap.size, 0, none⟩ 2 2 [.int .u32 0, .int .u32 0] rfl rfl (new2_cells w2 _ _ _) (by simp [Value.oneCell']) (by omega) (by unfold maxLen; omega) (by omega) (by have := k2.size; simp; omega) (w2.heap.size + 1) (by simp) ?_; intro gu cu w3 ho3 hg3 hat3 hgl3)
          have k3 : Kept Nought wr w3 := (k2.alloc _).grown hg3 (fun b hb hlt => by have := (ou.lt b hb).1; omega)
          have ou3 : OwnN .u32 62 w3 wr.heap.size (.slice (some ⟨gu, 0, none⟩) (us.length + 2) cu) (us.length + 2) (us ++ [0, 0]) := by unfold OwnN; rw [List.map_append]; exact ho3
          have hgu : wr.heap.size ≤ gu := (ho3.lt gu rfl).1
          have hcu : us.length + 2 ≤ cu := by
            rcases ou3.2 with ⟨h', _⟩ | ⟨g', cap', cur, h', _, _, hnc, _⟩
            · simp at h'
            · simp only [Value.slice.injEq, Option.some.injEq, Addr.mk.injEq, and_true] at h'
              obtain ⟨_, _, rfl⟩ := h'
              exact hnc
          clear ho3 hg3 hat3 ou
          have hSm := rShl _ M s w3 ((hv.grew k1).grew k3) (by omega) (by omega)
          refine hSm.mono ?_
          rintro e w4 ⟨v4, rfl, b4, o4, k4⟩
          have ou4 : OwnN .u32 62 w4 wr.heap.size (.slice (some ⟨gu, 0, none⟩) (us.length + 2) cu) (us.length + 2) (us ++ [0, 0]) := k4.own ou3 (fun _ _ f => f)
          have hzl2 : (us ++ [0, 0]).length = us.length + 2 := by simp
          have hTr := rTrim _ (us ++ [0, 0]) w4 (Row.of_own (by rw [hzl2]; exact ou4))
          clear hSm hSa
          go_wp2_with fail
          refine hTr.mono ?_
          rintro e w5 ⟨mt, vt, rfl, hmt, _, hzt, htt, _, ⟨ao5, n5, cap5, hvt, rfl⟩, rfl⟩
          simp only [Value.slice.injEq] at hvt
          obtain ⟨rfl, rfl, rfl⟩ := hvt
          have du2 : Digs 4294967296 (us ++ [0, 0]) := du.append (fun d hd => by simp at hd; omega)
          have hv20 : val 4294967296 (us ++ [0, 0]) = 2 ^ s * A := by rw [val_append]; simp [val, uv]
          have hmtl : mt = us.length := by
            have h1 := len_dlen (du2.take mt) (trimmed_take hmt htt)
            rw [take_trim hmt hzt, hv20, ← HUL.out, List.length_take] at h1
            omega
          have hmax : max ((la : Int) + 1) (mt : Int) = (la : Int) + 1 := by omega
          have hcl : (la : Int) + 1 ≤ (cu : Int) := by omega
          obtain ⟨zs0, hzs0⟩ : ∃ zs0, zs0 = (us ++ [0, 0]).take (la + 1) := ⟨_, rfl⟩
          have oz : OwnN .u32 62 w5 wr.heap.size (.slice (some ⟨gu, 0, none⟩) (la + 1) cu) (la + 1) zs0 := by rw [hzs0]; exact own_cut ou4 (by omega)
          have hz0l : zs0.length = la + 1 := by rw [hzs0, List.length_take]; omega
          have hz0d : Digs 4294967296 zs0 := by rw [hzs0]; exact du2.take _
          have hz0v : val 4294967296 zs0 = 2 ^ s * A := by
            rw [hzs0, take_trim (by omega) (fun i hi => hzt i (by omega)), hv20]
          have b4d := b4
          obtain ⟨vs, rv, dv, tv, hvv, _⟩ := b4d
          have hvl := len_dlen dv tv
          rw [hvv, nv3] at hvl
          obtain ⟨vo, nv, vc, rfl, hNv, _, _, _, hVc⟩ := rv.open
          have hnv : nv = p + 1 := hNv.out.symm.trans hvl
          subst hnv
          obtain ⟨gv, ov, rfl, cv⟩ := hVc 0 (by omega)
          have hgv : gv < w5.heap.size := World.block_lt_of_cell? w5 _ cv
          have hgv2 : w3.heap.size ≤ gv := o4 gv rfl
          clear hTr ou4 hzt htt hmt hzl2 du2 hv20 hzs0 rv dv tv hvv hvl hNv hVc cv o4 hmtl
          have hsub : (la : Int) + 1 - ((p : Int) + 1) = ((la - p : Nat) : Int) := by omega
          obtain ⟨Kq, hKq⟩ : ∃ Kq, Kq = la - p := ⟨_, rfl⟩
          rw [← hKq] at hsub
          have HK : Hid (Kq = la - p) := hKq
          have hKp : Kq + (p + 1) = la + 1 := by omega
          clear hKq
          go_wp2_with (at_make; refine wpList_make_full _ rfl _ _ 36 rfl w5.heap.size 62 i0 _ 1 Tryz.underlying36 hi0 hz0 hz1 _ _ _ _ Kq rfl rfl (by first | rfl | omega) (by first | rfl | omega) (by rw [hz2]; omega) (by unfold maxLen; omega) (Nat.le_refl _) ?_; intro w6 ho6 hg6)
          rw [zeros_map] at ho6
          have k6 : Kept Nought w5 w6 := grown_kept hg6
          clear hg6
          have oz6 : OwnN .u32 62 w6 wr.heap.size (.slice (some ⟨gu, 0, none⟩) (la + 1) cu) (la + 1) zs0 := k6.own oz (fun _ _ f => f)
          have hst0 : val 4294967296 (zs0.drop Kq) < 2 ^ s * M := by
            have := div_start (V := 2 ^ s * M) hz0d hz0v sh3 hs31 (show p ≤ la by omega) nv2
            rwa [HK.out]
          obtain ⟨V, hV⟩ : ∃ V, V = 2 ^ s * M := ⟨_, rfl⟩
          rw [← hV] at hst0 b4 nv1 nv3
          have hVp : 0 < V := by rw [hV]; exact Nat.mul_pos (Nat.pow_pos (by omega)) hM
          have HV : Hid (V = 2 ^ s * M) := hV
          have HZ0 : Hid (val 4294967296 zs0 = 2 ^ s * A) := hz0v
          have HN1 : Hid (V < 4294967296 ^ (p + 1)) := nv1
          have HD3 : Hid (dlen V = p + 1) := nv3
          have hgw : gu < w5.heap.size := Nat.lt_of_lt_of_le hgl3 k4.size
          have K6 : Kept Nought w w6 := ((k1.trans k3).trans k4).trans k6
          have hb6 : IsBig w6 _ V := b4.grew k6
          have hB0w : w.heap.size ≤ wr.heap.size := k1.size
          clear hV hz0v nv1 nv2 nv3 sh3 oz b4 hu hv k1 k2 k3 k4 hand ou3
          obtain ⟨B0, hB0⟩ : ∃ B0, B0 = wr.heap.size := ⟨_, rfl⟩
          rw [← hB0] at oz6 hgu hB0w
          obtain ⟨gq, hgq⟩ : ∃ gq, gq = w5.heap.size := ⟨_, rfl⟩
          rw [← hgq] at ho6 hgw hgv
          have HGQ : Hid (w5.heap.size = gq) := hgq.symm
          rw [← hgq]
          clear hB0 hgq
          go_wp2_with fail
          go_loopw [11] (fun jj wx => ∃ (k : Nat) (zs qs : List Nat), k ≤ Kq ∧ jj = .int .i64 ((k : Int) - 1) ∧ Hid (zs.length = la + 1) ∧ Digs 4294967296 zs ∧ Hid (zs.take k = zs0.take k) ∧ Hid (val 4294967296 (zs.drop k) < V) ∧ Hid (V * val 4294967296 qs + val 4294967296 (zs.drop k) = val 4294967296 (zs0.drop k)) ∧ Hid (qs.length = Kq - k) ∧ Digs 4294967296 qs ∧
              OwnN .u32 62 wx B0 (.slice (some ⟨gu, 0, none⟩) (la + 1) cu) (la + 1) zs ∧ OwnN .u32 62 wx gq (.slice (some ⟨gq, 0, none⟩) Kq Kq) Kq (List.replicate k 0 ++ qs) ∧ Kept (fun b => b = gu ∨ b = gq) w6 wx) (fun jj _ => (intOf jj + 1).toNat)
          case atStart => exact ⟨Kq, zs0, [], Nat.le_refl _, rfl, hz0l, hz0d, rfl, hst0, by unfold Hid; simp [val], by unfold Hid; simp, Digs.nil _, oz6, by rw [List.append_nil]; exact ho6, Kept.refl _ _⟩
          case round =>
            clear oz6 ho6
            obtain ⟨k, zs, qs, hk, rfl, hzl, hzd, htk, hR, hinv, hql, hqd, oz, oq, hkx⟩ := hrel
            cases k with
            | zero =>
              rw [List.drop_zero] at hR hinv
              rw [List.drop_zero] at hinv
              have hi2 := hinv.out
              rw [HZ0.out, HV.out] at hi2
              obtain ⟨d1, d2⟩ := div_end (n := p + 1) hzl.out (by omega) hM (by rw [← HV.out]; exact HN1.out) (by rw [← HV.out]; exact hR.out) hi2
              rw [List.replicate_zero, List.nil_append] at oq
              have hqll : qs.length = Kq := by have := hql.out; omega
              have D1 : Hid (val 4294967296 qs = A / M) := d1
              have D2 : Hid (val 4294967296 (zs.take (p + 1)) / 2 ^ s = A % M) := d2
              have hTq := fun W (hk : Kept Nought wr W) => rTrimBig (.slice (some ⟨gq, 0, none⟩) Kq Kq) qs W ((Row.of_own (base := gq) (e := 62) (by rw [hqll]; exact oq)).grew hk) hqd (by omega)
              have hcutr : OwnN .u32 62 wr B0 (.slice (some ⟨gu, 0, none⟩) (p + 1) cu) (p + 1) (zs.take (p + 1)) := own_cut oz (by omega)
              have j2 : (p : Int) + 1 ≤ (cu : Int) := by omega
              have j0 : (0 : Int) ≤ (p : Int) + 1 := by omega
              have KW : Kept Nought w wr := K6.next hkx (fun x hx h => by rcases h with h | h <;> omega)
              clear hinv hi2 hR htk d1 d2 hb6 HZ0 HN1 HD3
              have hcells : ∀ i u, ((zs.take (p + 1)).map fun z => Value.int .u32 (z : Nat))[i]? = some u → wr.drew.cell? ((⟨gu, 0, none⟩ : Addr).add i) = some u := World.ownsRow.cells hcutr (g := gu) rfl
              have hone1 := nums_one .u32 (zs.take (p + 1))
              have hln : (zs.take (p + 1)).length = p + 1 := by rw [List.length_take]; have := hzl.out; omega
              have hlnm : ((zs.take (p + 1)).map fun z => Value.int .u32 (z : Nat)).length = (p + 1) * 1 := by rw [List.length_map, hln]; omega
              have hrd := hzd.take (p + 1)
              obtain ⟨rs, hrs⟩ : ∃ rs, rs = zs.take (p + 1) := ⟨_, rfl⟩
              rw [← hrs] at hcells hone1 hln hlnm hrd
              have D3 : Hid (val 4294967296 rs / 2 ^ s = A % M) := by rw [hrs]; exact D2
              have HLN : Hid (rs.length = p + 1) := hln
              clear D2 hrs hln hcutr
              go_wp2_with fail
              go_region_held3 (fun _ => True) (trivial)
                (first
                  | (go_at_call_of 33 (Value.slice (some ⟨gq, 0, none⟩) Kq Kq); refine (hTq _ ?_).mono ?_; exact (Kept.refl Nought wr).drew; rintro e w7 ⟨vq, rfl, bq, oqq, rfl⟩)
                  | (refine step_append_lies _ (by rfl) _ _ _ (by rfl) wr.heap.size 62 i0 _ 1 4 Tryz.underlying36 hi0 hz0 hz1 hz2 rfl (by omega) (.slice none 0 0) 0 [] (by rfl) (World.ownsRow_nil _ _ _ _) ⟨gu, 0, none⟩ (p + 1) cu (rs.map fun z => .int .u32 (z : Nat)) (by rfl) hlnm hcells hone1 (by omega) (by unfold maxLen; omega) (by omega) (Nat.le_refl _) wr.heap.size (by simp) ?_; intro gg cg w8 ho8 hg8 hat8 hgl8)
                  | (go_at_call 33; refine (rTrimBig _ rs _ (Row.of_own (base := wr.heap.size) (e := 62) (by rw [HLN.out]; rw [Nat.zero_add, List.nil_append] at ho8; exact ho8)) hrd (by have := HLN.out; omega)).mono ?_; rintro e w9 ⟨vr, rfl, br, orr, rfl⟩)
                  | (go_at_call 80; refine (rShr _ _ s _ br (by omega)).mono ?_; rintro e w10 ⟨vs, rfl, bs, os, ks⟩))
              all_goals
                go_wp2
                go_ret2
                have k8 : Kept Nought _ _ := grown_kept hg8
                refine ⟨vq, vs, rfl, ?_, ?_, fun b hb => ?_, fun b hb => .inr ?_, (KW.drew.trans k8).trans ks⟩
                · rw [← D1.out]
                  exact (bq.grew k8).grew ks
                · rw [← D3.out]
                  exact bs
                · rw [oqq] at hb
                  simp [Value.ownBlock] at hb
                  omega
                · have h1 := os b hb
                  have h2 := (KW.drew.trans k8).size
                  omega
            | succ j =>
              have hvx : IsBig wr _ V := hb6.kept hkx (fun b hb h => by simp [Value.ownBlock] at hb; omega)
              obtain ⟨U, hU⟩ : ∃ U, U = val 4294967296 ((zs.drop j).take (p + 2)) := ⟨_, rfl⟩
              obtain ⟨hUV, hnext⟩ := div_round (n := p + 1) (j := j) hzd hzl.out hz0l (by omega) HN1.out hVp hR.out htk.out hinv.out U hU
              rw [hU] at hUV
              have hG := fun c => rGuess gu B0 (la + 1) cu j p c V zs _ wr oz hzl.out hzd (by omega) (by omega) hvx HD3.out hUV
              rw [← hU] at hG
              obtain ⟨zs', hzs'⟩ : ∃ zs', zs' = zs.take j ++ (digs 4294967296 (U % V) (p + 1 + 1) ++ zs.drop (j + (p + 1 + 1))) := ⟨_, rfl⟩
              obtain ⟨n1, n2, n3, n4, n5⟩ := hnext zs' hzs'
              have hG2 := fun c => by
                have h := hG c
                rw [← hzs'] at h
                exact h
              have hqlt : U / V < 4294967296 := by rw [Nat.div_lt_iff_lt_mul hVp, Nat.mul_comm, hU]; exact hUV
              have N1 : Hid (zs'.length = la + 1) := n1
              have N3 : Hid (zs'.take j = zs0.take j) := n3
              have N4 : Hid (val 4294967296 (zs'.drop j) < V) := n4
              have N5 : Hid (V * val 4294967296 (U / V :: qs) + val 4294967296 (zs'.drop j) = val 4294967296 (zs0.drop j)) := n5
              clear hU hzs' hG hnext n1 n3 n4 n5 hUV hinv htk hR hvx
              generalize U / V = Q at *
              have j1 : (0 : Int) ≤ (j : Int) := Int.natCast_nonneg _
              have j2 : (j : Int) + ((p : Int) + 1) + 1 ≤ (cu : Int) := by omega
              have j3 : (j : Int) < (Kq : Int) := by omega
              have jl : j + (p + 1) + 1 - j = p + 2 := by omega
              go_wp2_with fail
              refine (hG2 _).mono ?_
              rintro e w7 ⟨rfl, oz7, kg⟩
              have oq7 : OwnN .u32 62 w7 gq (.slice (some ⟨gq, 0, none⟩) Kq Kq) Kq (List.replicate (j + 1) 0 ++ qs) := kg.own oq (fun b hb h => by simp [Value.ownBlock] at hb; omega)
              have hcell : w7.cell? ⟨gq, j, none⟩ = some (.int .u32 0) := by
                rw [World.ownsRow.cellAt oq7 j (by omega), List.getElem?_map, List.getElem?_append_left (by simp), List.getElem?_replicate, if_pos (by omega)]
                rfl
              have hf := World.ownsRow.frozenAt oq7 j
              have hsto := fun u => (World.ownsRow.stored oq7 j u).1
              have oz8 := fun u => ownsRow_setCell_other oz7 (a := ⟨gq, j, none⟩) (by simp [Value.ownBlock]; omega) u
              have hk8 : Kept (fun b => b = gu ∨ b = gq) w6 w7 := hkx.trans (kg.mono (fun _ _ h => .inl h))
              clear oz oq hG2 hkx kg oz7 oq7
              go_wp2
              go_roundw
              case rel =>
                refine ⟨j, zs', Q :: qs, by omega, by go_num, N1, n2, N3, N4, N5, by unfold Hid; rw [List.length_cons, hql.out]; omega, fun y hy => ?_, oz8 _, ?_, hk8.setCell _ (fun _ => .inr rfl) _⟩
                · rcases List.mem_cons.1 hy with h | h
                  · omega
                  · exact hqd y h
                · unfold OwnN
                  rw [← div_set, List.map_set]
                  exact hsto _
              case measure => simp [intOf]

end Go.Proofs.YtldbfcifoijliaaGreatDoor


/- Package nat: Word, Bit, Resize: what they answer, for any number. -/
namespace Go.Proofs.YtldbfcifoijliaaGreatDoor
open Go.RowKit

set_option maxHeartbeats 400000 in
/-- Word. -/
theorem nWord (x : Nat) (hx : x < 18446744073709551616) (n : Int) (w : World) :
    Calls Tryz.prog 46 #[.int .u64 x, .int .i64 n] w fun r w' => ∃ v', r = .returned v' ∧ Row .u64 w' v' (digs 18446744073709551616 x (clampN n)) ∧ Kept Nought w w' := by
  obtain ⟨i0, hi0, hz0, hz1, hz2⟩ := info_parts Tryz.info24
  obtain ⟨m, hm⟩ : ∃ m, clampN n = m + 1 := ⟨clampN n - 1, by unfold clampN; omega⟩
  have hb : m + 1 ≤ 300 := by rw [← hm]; unfold clampN; omega
  have hc : min (max n 1) 300 = ((m + 1 : Nat) : Int) := by rw [← hm]; unfold clampN; omega
  rw [hm, word_digs x m hx]
  clear hm
  go_enter Tryz.func46, Tryz.ntmps46
  go_wp2_with (at_make; refine wpList_make_full _ rfl _ _ 23 rfl w.heap.size 24 i0 _ 1 Tryz.underlying23 hi0 hz0 hz1 _ _ _ _ (m + 1) rfl rfl (by first | exact hc | rfl) (by first | exact hc | rfl) (by rw [hz2]; omega) (by unfold maxLen; omega) (Nat.le_refl _) ?_; intro w1 ho1 hg1; rw [zeros_map] at ho1; have k1 := grown_kept hg1; have hc1 : w1.cell? ⟨w.heap.size, 0, none⟩ = some (.int .u64 0) := (by rw [World.ownsRow.cellAt ho1 0 (by omega)]; rfl); have hf := World.ownsRow.frozenAt ho1 0; have hst := (World.ownsRow.stored ho1 0 (.int .u64 (x : Nat))).1)
  go_ret
  refine ⟨_, rfl, Row.of_own (base := w.heap.size) (e := 24) ?_, k1.setCell _ (fun h => by simp at h) _⟩
  simpa [List.replicate_succ] using hst

set_option maxHeartbeats 800000 in
/-- Bit. -/
theorem nBit (v : Value) (xs : List Nat) (i : Int) (w : World) (h : Row .u64 w v xs) (hd : Digs 18446744073709551616 xs) (hi : i ≤ 9223372036854775807) :
    Calls Tryz.prog 63 #[v, .int .i64 i] w fun r w' => r = .returned (.int .u64 (bitN (val 18446744073709551616 xs) i : Nat)) ∧ w' = w := by
  obtain ⟨ao, n, cap, rfl, hL, h1, h2, h3, h4⟩ := h.open
  by_cases hi0 : i < 0
  · rw [show bitN (val 18446744073709551616 xs) i = 0 from if_pos hi0]
    clear h4 h hd
    go_enter Tryz.func63, Tryz.ntmps63
    go_wp2
    go_ret
    exact ⟨rfl, rfl⟩
  · obtain ⟨j, rfl⟩ := Int.eq_ofNat_of_zero_le (show 0 ≤ i by omega)
    rw [bitN_nat, ← bit_dig64, dig_val (by omega) hd]
    by_cases hlt : j / 64 < n
    · obtain ⟨b, off, rfl, hc⟩ := h4 (j / 64) hlt
      have hx : xs.getD (j / 64) 0 < 18446744073709551616 := hd.getD (by omega) _
      clear h4 h hd
      generalize xs.getD (j / 64) 0 = x at *
      have g1 : (j : Int) / 64 < (n : Int) := by omega
      have g2 : (0 : Int) ≤ (j : Int) / 64 := by omega
      have g3 : ((j : Int) / 64).toNat = j / 64 := by omega
      have hy := Nat.div_le_self x (2 ^ (j % 64))
      have hand : Hid (bits .and .u64 ((x : Int) / 2 ^ (j % 64)) 1 = ((x / 2 ^ (j % 64) % 2 : Nat) : Int)) := by
        unfold Hid
        have e : (x : Int) / 2 ^ (j % 64) = ((x / 2 ^ (j % 64) : Nat) : Int) := by simp
        rw [e]
        generalize x / 2 ^ (j % 64) = Y at *
        rw [and_one_u64 (Y : Int) (by omega) (by omega)]
        omega
      clear hy
      generalize x / 2 ^ (j % 64) % 2 = R at *
      go_enter Tryz.func63, Tryz.ntmps63
      go_wp2
      go_ret
      refine ⟨?_, rfl⟩
      show Ending.returned (Value.int .u64 (bits .and .u64 ((x : Int) / 2 ^ (j % 64)) 1)) = _
      rw [hand.out]
    · have hz : xs.getD (j / 64) 0 = 0 := by have := hL.out; rw [List.getD_eq_getElem?_getD, List.getElem?_eq_none (by omega)]; rfl
      rw [hz, Nat.zero_div]
      have g1 : ¬ (j : Int) / 64 < (n : Int) := by omega
      clear h4 h hd
      go_enter Tryz.func63, Tryz.ntmps63
      go_wp2
      go_ret
      exact ⟨rfl, rfl⟩

end Go.Proofs.YtldbfcifoijliaaGreatDoor


/- What a range over a function asks of memory (Rnd1: a drawn region in a round). -/

/- What a range over a function asks of memory: blocks that lie as they lay; numbers and variables while the loop's own books are turned. -/
namespace Go.Proofs.YtldbfcifoijliaaGreatDoor
open Go.RowKit Go.Shelf

/-- The blocks of S lie as they lay. -/
def KeepB (S : Nat → Prop) (W W' : World) : Prop := ∀ k, S k → W'.heap[k]? = W.heap[k]?

theorem KeepB.refl (S : Nat → Prop) (W : World) : KeepB S W W := fun _ _ => rfl

theorem KeepB.trans {S : Nat → Prop} {A B C : World} (h : KeepB S A B) (k : KeepB S B C) : KeepB S A C := fun i hi => (k i hi).trans (h i hi)

theorem KeepB.put {S : Nat → Prop} {w : World} (hS : ∀ k, S k → k < w.heap.size) (W : World) (l : Nat) (o o' : Obj) (hl : w.heap.size ≤ l) (_ : W.heap[l]? = some o) (_ : o.isCells = false) (_ : o.isWalk = false) : KeepB S W (W.putObj l o') := fun k hk =>
  World.putObj_heap_other (fun e => by have := hS k hk; omega)

theorem KeepB.cell {S : Nat → Prop} {W W' : World} (h : KeepB S W W') {p : Addr} (hp : S p.block) : W'.cell? p = W.cell? p := World.cell?_of_block (h p.block hp)

theorem KeepB.row {S : Nat → Prop} {k : IntKind} {W W' : World} {v : Value} {zs : List Nat} (h : KeepB S W W') (hs : ∀ b, v.ownBlock = some b → 0 < zs.length → S b) (hr : Row k W v zs) : Row k W' v zs := by
  obtain ⟨ao, cap, rfl, h1, h2, h3, h4⟩ := hr
  refine ⟨ao, cap, rfl, h1, h2, h3, fun i hi => ?_⟩
  obtain ⟨b, off, rfl, hc⟩ := h4 i hi
  exact ⟨b, off, rfl, (h.cell (p := ⟨b, off + i, none⟩) (hs b rfl (by omega))).trans hc⟩

/-- What the loop's own books are when they are turned: a new block, or one that is no variable's. -/
def Turn (B : Nat) (W W' : World) : Prop := ∃ row, W.grownBy W' row ∧ ∀ r, row = some r → B ≤ r ∧ ∃ o : Obj, W.heap[r]? = some o ∧ o.isCells = false

/-- A row of the call's own stands while blocks turn that are no rows. -/
theorem own_turn {W W' : World} {row : Option Nat} {base size n : Nat} {e : TypeId} {v : Value} {xs : List Value} (h : W.ownsRow base e size v n xs) (hg : W.grownBy W' row) (hr : ∀ r, row = some r → ∃ o : Obj, W.heap[r]? = some o ∧ o.isCells = false) : W'.ownsRow base e size v n xs := by
  refine ⟨h.1, ?_⟩
  rcases h.2 with h1 | ⟨g, cap, cur, e1, hb, hblk, h4⟩
  · exact .inl h1
  · refine .inr ⟨g, cap, cur, e1, hb, ?_, h4⟩
    rw [hg.block g (Array.getElem?_eq_some_iff.1 hblk).1 ?_]
    · exact hblk
    · intro e
      obtain ⟨o, ho, hc⟩ := hr g e.symm
      rw [hblk] at ho
      cases ho
      cases hc

theorem boxed_turn {W W' : World} {row : Option Nat} {B : Nat} {t : TypeId} {v : Value} (h : Boxed W B t v) (hg : W.grownBy W' row) (hr : ∀ r, row = some r → ∃ o : Obj, W.heap[r]? = some o ∧ o.isCells = false) : Boxed W' B t v := h.kept hg (fun e => by
  obtain ⟨o, ho, hc⟩ := hr B e.symm
  have hb : W.heap[B]? = some _ := h
  rw [hb] at ho
  cases ho
  cases hc)

theorem Turn.cells {B : Nat} {W W' : World} (t : Turn B W W') {b : Nat} {c : Array Value} {ty : TypeId} {f : Nat × Nat} (h : W.heap[b]? = some (.cells c ty f)) : W'.heap[b]? = some (.cells c ty f) := by
  obtain ⟨row, hg, hr⟩ := t
  rw [hg.block b (Array.getElem?_eq_some_iff.1 h).1 ?_]
  · exact h
  · intro e
    obtain ⟨_, o, ho, hc⟩ := hr b e.symm
    rw [h] at ho
    cases ho
    cases hc

theorem Turn.kept {B : Nat} {S : Nat → Prop} {w W W' : World} (t : Turn B W W') (k : Kept S w W) (hB : w.heap.size ≤ B) : Kept S w W' := by
  obtain ⟨row, hg, hr⟩ := t
  exact k.grown hg (fun b e hb => by have := (hr b e).1; omega)

theorem Turn.own {B : Nat} {W W' : World} (t : Turn B W W') {base size n : Nat} {e : TypeId} {v : Value} {xs : List Value} (h : W.ownsRow base e size v n xs) : W'.ownsRow base e size v n xs := by
  obtain ⟨row, hg, hr⟩ := t
  exact own_turn h hg (fun r e => (hr r e).2)

theorem Turn.cell {B : Nat} {W W' : World} (t : Turn B W W') {a : Addr} {v : Value} (h : W.cell? a = some v) : W'.cell? a = some v := by
  obtain ⟨row, hg, hr⟩ := t
  exact cell_kept h hg (fun r e => (hr r e).2)

theorem Turn.row {B : Nat} {W W' : World} (t : Turn B W W') {k : IntKind} {v : Value} {zs : List Nat} (h : Row k W v zs) : Row k W' v zs := by
  obtain ⟨ao, cap, rfl, h1, h2, h3, h4⟩ := h
  refine ⟨ao, cap, rfl, h1, h2, h3, fun i hi => ?_⟩
  obtain ⟨b, off, rfl, hc⟩ := h4 i hi
  exact ⟨b, off, rfl, t.cell hc⟩

/-- The end of a loop turns the book of its deferred calls. -/
theorem turn_put {B D : Nat} {W : World} {o : Obj} (hD : B ≤ D) (hK : W.heap[D]? = some o) (ho : o.isCells = false) (o' : Obj) : Turn B W (W.putObj D o') :=
  ⟨some D, grownBy_putObj' W D o', fun r e => by cases e; exact ⟨hD, o, hK, ho⟩⟩

/-- What holds through every turn is what a range over a function asks of what stands between its rounds. -/
theorem ownFrom_turn {β : Type} {B : Nat} {I : β → World → Prop} (h : ∀ s W W', I s W → Turn B W W' → I s W') : OwnFrom B I := fun s W W' row hs hg hr => h s W W' hs ⟨row, hg, hr⟩

/-- What is seen of a call keeps whatever is no variable's. -/
theorem keepsFrom_kept {B : Nat} {S : Nat → Prop} {W W' : World} (k : Kept S W W') (hS : ∀ b, S b → B ≤ b → ∃ c ty f, W.heap[b]? = some (.cells c ty f)) : KeepsFrom B W W' :=
  ⟨k.size, fun b o hb hk ho => by
    rw [← hk]
    refine k.block b (Array.getElem?_eq_some_iff.1 hk).1 (fun hs => ?_)
    obtain ⟨c, ty, f, h⟩ := hS b hs hb
    rw [h] at hk
    cases hk
    cases ho⟩

end Go.Proofs.YtldbfcifoijliaaGreatDoor


/- Package nat: Compare: how any two numbers stand to one another. -/
namespace Go.Proofs.YtldbfcifoijliaaGreatDoor
open Go.RowKit Go.Shelf

attribute [local go_sem] Oper.semAt_some

theorem words_len {xs : List Nat} (hd : Digs 18446744073709551616 xs) : wordsN (val 18446744073709551616 xs) ≤ xs.length := (wordsN_le _ _).2 (val_lt (by omega) hd)

end Go.Proofs.YtldbfcifoijliaaGreatDoor

