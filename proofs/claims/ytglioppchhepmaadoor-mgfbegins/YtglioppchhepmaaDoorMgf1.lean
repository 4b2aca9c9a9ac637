/- Package mgf: the bytes of a count (layCount); bytes put together bit by bit (Xor). -/
import Derived.Test.YtglioppchhepmaaDoorHsh3
import Derived.Test.YtglioppchhepmaaDoorArr1
namespace Go.Proofs.YtglioppchhepmaaDoor
open Go.RowKit

/-- The bytes of a count, the highest ahead. -/
def cnt4 (c : Nat) : List Nat := [c / 16777216 % 256, c / 65536 % 256, c / 256 % 256, c % 256]

theorem cnt4_length (c : Nat) : (cnt4 c).length = 4 := rfl

theorem cnt4_digs (c : Nat) : Digs 256 (cnt4 c) := fun d hd => by
  simp only [cnt4, List.mem_cons, List.not_mem_nil, or_false] at hd
  omega

/-- While they are written: the last i are there. -/
def layN (ps : List Nat) (c i : Nat) : List Nat := ps.take (4 - i) ++ (cnt4 c).drop (4 - i)

theorem layN_length {ps : List Nat} (c : Nat) (hp : ps.length = 4) {i : Nat} (hi : i ≤ 4) : (layN ps c i).length = 4 := by
  unfold layN
  rw [List.length_append, List.length_take, List.length_drop, cnt4_length]
  omega

theorem layN_zero {ps : List Nat} (c : Nat) (hp : ps.length = 4) : layN ps c 0 = ps := by
  unfold layN
  rw [List.take_of_length_le (by omega), List.drop_of_length_le (by rw [cnt4_length]; omega), List.append_nil]

theorem layN_four (ps : List Nat) (c : Nat) : layN ps c 4 = cnt4 c := by simp [layN]

theorem layN_set {ps : List Nat} (c : Nat) (hp : ps.length = 4) {i q y : Nat} (hi : i < 4) (hq : q = 8 * i) (hy : y = c / 2 ^ q % 256) : (layN ps c i).set (3 - i) y = layN ps c (i + 1) := by
  match ps, hp with
  | [a, b, d, e], _ =>
    subst hq hy
    obtain rfl | rfl | rfl | rfl : i = 0 ∨ i = 1 ∨ i = 2 ∨ i = 3 := by omega
    all_goals simp [layN, cnt4]

set_option maxRecDepth 20000 in
set_option maxHeartbeats 1000000 in
/-- layCount. -/
theorem gLay (g off cap c : Nat) (ss ps : List Nat) (w : World) (hA : Arr .u8 5 w g (ss ++ ps)) (hl : ss.length = off) (hp : ps.length = 4) :
    Calls Tryd.prog 17 #[.slice (some ⟨g, off, none⟩) 4 cap, .int .u32 (c : Int)] w fun e w' => (∃ v, e = .returned v) ∧ Arr .u8 5 w' g (ss ++ cnt4 c) ∧ Kept (fun b => b = g) w w' := by
  have HA := toHid hA
  have HL := toHid hl
  have HP := toHid hp
  clear hA hl hp
  go_enter Tryd.func17, Tryd.ntmps17
  go_wp2_with fail
  go_loopw [7] (fun iv wr => ∃ i : Nat, i ≤ 4 ∧ iv = .int .i64 (i : Int) ∧ Hid (Arr .u8 5 wr g (ss ++ layN ps c i)) ∧ Hid (Kept (fun b => b = g) w wr)) (fun iv _ => 4 - (intOf iv).toNat)
  case atStart => exact ⟨0, by omega, rfl, by unfold Hid; rw [layN_zero c HP.out]; exact HA.out, Kept.refl _ _⟩
  case round =>
    obtain ⟨i, hi, rfl, HB, HK⟩ := hrel
    by_cases hi4 : i < 4
    · have g1 : (i : Int) < 4 := by omega
      have g0 : (0 : Int) ≤ (i : Int) := by omega
      obtain ⟨k, hk⟩ : ∃ k, k = 3 - i := ⟨_, rfl⟩
      have gk : (4 : Int) - 1 - (i : Int) = (k : Int) := by omega
      have gk' : (3 : Int) - (i : Int) = (k : Int) := by omega
      have gk0 : (0 : Int) ≤ (k : Int) := by omega
      have gk1 : (k : Int) < 4 := by omega
      have gk2 : k < 4 := by omega
      obtain ⟨q, hq⟩ : ∃ q, q = 8 * i := ⟨_, rfl⟩
      have gq : (8 : Int) * (i : Int) = (q : Int) := by omega
      have gq0 : (0 : Int) ≤ (q : Int) := by omega
      have hq64 : q < 32 := by omega
      obtain ⟨y, hy⟩ : ∃ y, y = c / 2 ^ q % 256 := ⟨_, rfl⟩
      have gy : (c : Int) / 2 ^ q % 256 = (y : Int) := by
        rw [hy]
        simp
      have hlen : (ss ++ layN ps c i).length = off + 4 := by rw [List.length_append, layN_length c HP.out hi, HL.out]
      have ck := HB.out.cell (off + k) (by omega)
      have fk := HB.out.free (off + k)
      have HN : Hid (Arr .u8 5 (wr.setCell ⟨g, off + k, none⟩ (.int .u8 (y : Nat))) g (ss ++ layN ps c (i + 1))) := by
        have := HB.out.set (off + k) y
        rw [List.set_append_right _ _ (by rw [HL.out]; omega), HL.out, show off + k - off = 3 - i by omega, layN_set c HP.out hi4 hq hy] at this
        exact this
      clear hk hq hy hlen
      go_wp2_with fail
      go_roundw
      case rel => exact ⟨i + 1, by omega, by go_num, HN.out, HK.out.setCell ⟨g, off + k, none⟩ (fun _ => rfl) (.int .u8 (y : Int))⟩
      case measure => simp [intOf]; omega
    · obtain rfl : i = 4 := by omega
      have g1 : ¬ ((4 : Nat) : Int) < 4 := by omega
      go_wp2_with fail
      go_end0
      exact ⟨⟨_, rfl⟩, by have := HB.out; rw [layN_four] at this; exact this, HK.out⟩

/-- What a copy reads. -/
theorem row_src {k : IntKind} {w W : World} {ao : Option Addr} {n cap : Nat} {zs : List Nat} (h : Row k w (.slice ao n cap) zs) (kk : Kept Nought w W) (hp : 0 < (zs.map fun z : Nat => Value.int k (z : Int)).length) : ∃ ad, ao = some ad ∧ ∀ j u, (zs.map fun z : Nat => Value.int k (z : Int))[j]? = some u → W.cell? (ad.add j) = some u := by
  rw [List.length_map] at hp
  obtain ⟨ao', n', cap', e, hL, _, _, _, hn⟩ := h.open
  cases e
  obtain ⟨b, off, rfl, _⟩ := hn 0 (by have := hL.out; omega)
  exact ⟨_, rfl, news_row h kk⟩

theorem xorK_zero (xs bs : List Nat) : xorK xs bs 0 = xs := by simp [xorK]

/-- Where the second's bytes end, nothing more is put together. -/
theorem xorK_min {xs bs : List Nat} {m : Nat} (hm : m = min xs.length bs.length) : xorK xs bs m = xorN xs bs := by
  unfold xorK
  have h : xs.drop m = (xorN xs bs).drop m := by
    apply List.ext_getElem?
    intro i
    rw [List.getElem?_drop, List.getElem?_drop]
    by_cases hi : m + i < xs.length
    · have h0 : bs.getD (m + i) 0 = 0 := by
        rw [List.getD_eq_getElem?_getD, List.getElem?_eq_none (by omega)]
        rfl
      unfold xorN
      rw [List.getElem?_map, List.getElem?_range hi, Option.map_some, h0, Nat.xor_zero, List.getD_eq_getElem?_getD, List.getElem?_eq_getElem hi]
      rfl
    · rw [List.getElem?_eq_none (by omega), List.getElem?_eq_none (by rw [xorN_length]; omega)]
  rw [h, List.take_append_drop]

set_option maxRecDepth 20000 in
set_option maxHeartbeats 1000000 in
/-- Xor. -/
theorem gXor (u v : Value) (xs bs : List Nat) (w : World) (hx : Row .u8 w u xs) (hb : Row .u8 w v bs) (dx : Digs 256 xs) (db : Digs 256 bs) (hl : xs.length ≤ 1000000) :
    Calls Tryd.prog 10 #[u, v] w fun e w' => ∃ v', e = .returned v' ∧ OwnB w' w.heap.size v' (xorN xs bs) ∧ Kept Nought w w' := by
  obtain ⟨i0, hi0, hz0, hz1, hz2⟩ := info_parts Tryd.info8s
  have HX := toHid hx
  have HB := toHid hb
  obtain ⟨ao, na, ca, rfl, hLa, hac, ham, _⟩ := hx.open
  obtain ⟨bo, nb, cb, rfl, hLb, hbc, hbm, _⟩ := hb.open
  have HDX := toHid dx
  have HDB := toHid db
  obtain ⟨CS, hCS⟩ : ∃ CS, CS = xs.map fun z : Nat => Value.int .u8 (z : Int) := ⟨_, rfl⟩
  have HC := toHid hCS
  have HLC : Hid (CS.length = na) := by unfold Hid; rw [hCS, List.length_map]; exact hLa.out
  have HSRC : Hid (∀ W, Kept Nought w W → 0 < CS.length → ∃ ad, ao = some ad ∧ ∀ j u, CS[j]? = some u → W.cell? (ad.add j) = some u) := by rw [hCS]; exact fun W k hp => row_src HX.out k hp
  have HO1 : Hid (∀ u ∈ CS, u.oneCell' = true) := by rw [hCS]; exact ones8 _ _
  have hna : na ≤ 1000000 := by have := hLa.out; omega
  obtain ⟨m, hm⟩ : ∃ m, m = min na nb := ⟨_, rfl⟩
  have gm : min (na : Int) (nb : Int) = (m : Int) := by omega
  have gm1 : m ≤ na := by omega
  have gm2 : m ≤ nb := by omega
  have HM := toHid hm
  clear hx hb dx db hCS hm
  go_enter Tryd.func10, Tryd.ntmps10
  go_wp2_with (at_make; refine wpList_make_full _ rfl _ _ 22 rfl w.heap.size 5 i0 _ 1 Tryd.underlying22 hi0 hz0 hz1 _ _ _ _ na rfl rfl rfl rfl (by rw [hz2]; omega) (by unfold maxLen; omega) (Nat.le_refl _) ?_; intro w1 ho1 hg1; rw [zeros_map] at ho1; have k1 := grown_kept hg1; obtain ⟨w2, hrun, hb2, k2⟩ := run_copy_part (P := Tryd.prog) 22 22 3 5 w.heap.size 0 na na (some ⟨w.heap.size, 0, none⟩) ao na ca _ 5 CS Tryd.underlying22 (by rw [hi0]; simp [hz1]) (own_block ho1) (by rw [HLC.out]; exact (Nat.min_self _).symm) (fun hp => ⟨rfl, HSRC.out _ k1 hp⟩) (by have := HLC.out; simp; omega) HO1.out; have HB2 : Hid _ := hb2; have HK2 := toHid (kept_new k1 k2 (Nat.le_refl _)); clear hb2 ho1 hg1 k1 k2)
  have HA2 : Hid (Arr .u8 5 w2 w.heap.size (xorK xs bs 0)) := by
    have := HB2.out
    rw [HC.out, splice_fill, hLa.out, Nat.sub_self, List.replicate_zero, List.append_nil] at this
    unfold Hid
    rw [xorK_zero]
    exact this
  clear HB2 HSRC HO1 HLC HC hrun
  go_loopw [18] (fun iv wr => ∃ k : Nat, k ≤ m ∧ iv = .int .i64 (k : Int) ∧ Hid (Arr .u8 5 wr w.heap.size (xorK xs bs k)) ∧ Hid (Kept Nought w wr)) (fun iv _ => m - (intOf iv).toNat)
  case atStart => exact ⟨0, Nat.zero_le _, rfl, HA2.out, HK2.out⟩
  case round =>
    clear HA2 HK2
    obtain ⟨k, hk, rfl, HA, HK⟩ := hrel
    by_cases hkm : k < m
    · have g1 : (k : Int) < (m : Int) := by omega
      have g0 : (0 : Int) ≤ (k : Int) := by omega
      have ga : (k : Int) < (na : Int) := by omega
      have gb : (k : Int) < (nb : Int) := by omega
      have hkx : k < xs.length := by have := hLa.out; omega
      have ck := HA.out.cell k (by rw [xorK_length]; exact hkx)
      rw [xorK_getD hkx] at ck
      have fk := HA.out.free k
      obtain ⟨_, _, _, e5, _, _, _, _, hnb⟩ := (HB.out.grew HK.out).open
      cases e5
      obtain ⟨bb, boff, rfl, hcb⟩ := hnb k (by omega)
      have lx : xs.getD k 0 < 256 := HDX.out.getD (by omega) k
      have lb : bs.getD k 0 < 256 := HDB.out.getD (by omega) k
      have hset := xorK_set (bs := bs) hkx
      generalize xs.getD k 0 = X at *
      generalize bs.getD k 0 = Y at *
      have e6 := u8_xor_nat X Y (by omega) (by omega)
      obtain ⟨Z, hZ⟩ : ∃ Z, Z = X ^^^ Y := ⟨_, rfl⟩
      rw [← hZ] at e6 hset
      have HS : Hid (Arr .u8 5 (wr.setCell ⟨w.heap.size, k, none⟩ (.int .u8 (Z : Int))) w.heap.size (xorK xs bs (k + 1))) := by
        have := HA.out.set k Z
        rw [hset] at this
        exact this
      have HKS : Hid (Kept Nought w (wr.setCell ⟨w.heap.size, k, none⟩ (.int .u8 (Z : Int)))) := HK.out.setCell _ (fun h => by simp at h) _
      clear hnb hset hZ
      go_wp2_with fail
      go_region
      all_goals
        go_wp2_with fail
        go_roundw
        case rel => exact ⟨k + 1, by omega, by go_num, HS.out.grew (Kept.refl _ _).drew, HKS.out.drew⟩
        case measure => simp [intOf]; omega
    · have g1 : ¬ (k : Int) < (m : Int) := by omega
      have hA := HA.out
      rw [show k = m by omega, xorK_min (by rw [hLa.out, hLb.out]; exact HM.out)] at hA
      have hO : OwnB wr w.heap.size (.slice (some ⟨w.heap.size, 0, none⟩) na na) (xorN xs bs) := OwnB.of (own_of_block hA (by rw [xorN_length]; exact hLa.out) (by unfold maxLen; omega) (Nat.le_refl _))
      have HOO := toHid hO
      clear hA hO
      go_wp2_with fail
      go_ret
      exact ⟨_, rfl, HOO.out, HK.out⟩

end Go.Proofs.YtglioppchhepmaaDoor
