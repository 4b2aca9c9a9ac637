/- The plain side of layers 13 and 14: how long hashes are; append of bytes that come in; Prefix, Xor. -/
import Derived.Test.YtglioppchhepmaaDoorHsh1
import Derived.BigRegion
namespace Go.Proofs.YtglioppchhepmaaDoor
open Go.RowKit

theorem outN_len (s : List Nat) : ∀ k, (outN s k).length = 4 * k
  | 0 => rfl
  | k + 1 => by unfold outN b4N; rw [List.length_append, outN_len s k]; simp; omega

theorem outN_digs (s : List Nat) : ∀ k, Digs 256 (outN s k)
  | 0 => Digs.nil _
  | k + 1 => by
    unfold outN b4N
    refine (outN_digs s k).app fun d hd => ?_
    simp only [List.mem_cons, List.not_mem_nil, or_false] at hd
    omega

theorem outM_digs (s : List Nat) : ∀ k, Digs 256 (outM s k)
  | 0 => Digs.nil _
  | k + 1 => by
    unfold outM b8M
    refine (outM_digs s k).app fun d hd => ?_
    obtain ⟨i, _, rfl⟩ := List.mem_map.1 hd
    exact Nat.mod_lt _ (by omega)

theorem hshN_length (h : Int) (bs : List Nat) : (hshN h bs).length = hszN h := by
  unfold hshN hszN
  split
  · exact outN_len _ 8
  · split
    · show ((sum64M true bs).take 48).length = 48
      unfold sum64M
      rw [List.length_take, outM_length]
      rfl
    · split
      · exact outM_length _ 8
      · rfl

theorem hshN_digs (h : Int) (bs : List Nat) : Digs 256 (hshN h bs) := by
  unfold hshN
  split
  · exact outN_digs _ 8
  · split
    · exact fun d hd => outM_digs _ 8 d (List.mem_of_mem_take hd)
    · split
      · exact outM_digs _ 8
      · exact Digs.nil _

/-- Bytes put together bit by bit. -/
def xorN (xs bs : List Nat) : List Nat := (List.range xs.length).map fun i => xs.getD i 0 ^^^ bs.getD i 0

theorem xorN_length (xs bs : List Nat) : (xorN xs bs).length = xs.length := by unfold xorN; simp

theorem xorN_digs {xs bs : List Nat} (hx : Digs 256 xs) (hb : Digs 256 bs) : Digs 256 (xorN xs bs) := fun d hd => by
  obtain ⟨i, _, rfl⟩ := List.mem_map.1 hd
  exact Nat.xor_lt_two_pow (n := 8) (hx.getD (by omega) i) (hb.getD (by omega) i)

/-- While they are put together: the first k. -/
def xorK (xs bs : List Nat) (k : Nat) : List Nat := (xorN xs bs).take k ++ xs.drop k

theorem xorK_length (xs bs : List Nat) (k : Nat) : (xorK xs bs k).length = xs.length := by
  unfold xorK
  rw [List.length_append, List.length_take, List.length_drop, xorN_length]
  omega

theorem xorK_getD {xs bs : List Nat} {k : Nat} (hk : k < xs.length) : (xorK xs bs k).getD k 0 = xs.getD k 0 := by
  unfold xorK
  rw [List.getD_eq_getElem?_getD, List.getElem?_append_right (by rw [List.length_take, xorN_length]; omega), List.length_take, xorN_length, Nat.min_eq_left (by omega), Nat.sub_self, List.getElem?_drop, Nat.add_zero, List.getD_eq_getElem?_getD]

theorem xorK_set {xs bs : List Nat} {k : Nat} (hk : k < xs.length) : (xorK xs bs k).set k (xs.getD k 0 ^^^ bs.getD k 0) = xorK xs bs (k + 1) := by
  have e1 : (xorN xs bs)[k]? = some (xs.getD k 0 ^^^ bs.getD k 0) := by
    unfold xorN
    rw [List.getElem?_map, List.getElem?_range hk]
    rfl
  obtain ⟨h1, h2⟩ := List.getElem?_eq_some_iff.1 e1
  unfold xorK
  rw [List.set_append_right _ _ (by rw [List.length_take, xorN_length]; omega), List.length_take, xorN_length, Nat.min_eq_left (by omega), Nat.sub_self, List.drop_eq_getElem_cons hk, List.set_cons_zero, List.take_succ_eq_append_getElem h1, h2, List.append_assoc]
  rfl

theorem xorK_last (xs bs : List Nat) : xorK xs bs xs.length = xorN xs bs := by
  unfold xorK
  rw [List.drop_length, List.append_nil, List.take_of_length_le (by rw [xorN_length]; omega)]

set_option maxRecDepth 20000 in
set_option maxHeartbeats 1000000 in
/-- Xor. -/
theorem r13Xor (u v : Value) (xs bs : List Nat) (w : World) (hx : Row .u8 w u xs) (hb : Row .u8 w v bs) (dx : Digs 256 xs) (db : Digs 256 bs) (hl : xs.length ≤ 1000000) :
    Calls Tryd.prog 11 #[u, v] w fun e w' => ∃ v', e = .returned v' ∧ OwnB w' w.heap.size v' (xorN xs bs) ∧ Kept Nought w w' := by
  have HX := toHid hx
  have HB := toHid hb
  obtain ⟨ao, na, ca, rfl, hLa, hac, ham, _⟩ := hx.open
  obtain ⟨bo, nb, cb, rfl, hLb, hbc, hbm, _⟩ := hb.open
  have HDX := toHid dx
  have HDB := toHid db
  clear hx hb dx db
  go_enter Tryd.func11, Tryd.ntmps11
  go_wp2_with (at_builtin; refine wpList_append_row rfl _ _ rfl w.heap.size _ [] rfl (OwnB.nil _ _) _ rfl xs HX.out (by simp; omega) (Nat.le_refl _) ?_)
  intro v1 w1 ho1 hg1
  have k1 : Kept Nought w w1 := (Kept.refl Nought w).grown hg1 (fun k hk hlt => by cases hk)
  obtain ⟨yo, yn, yc, rfl, hLy, hyc, hym, _, _⟩ := ho1.row.open
  have hyo : yn = 0 ∨ ∃ g, yo = some ⟨g, 0, none⟩ := by
    rcases ho1.2 with ⟨e, _⟩ | ⟨g, _, _, e, _⟩
    · cases e
      exact .inl rfl
    · cases e
      exact .inr ⟨g, rfl⟩
  have HO1 := toHid ho1
  have HK1 := toHid k1
  have hyb : yn ≤ 1000000 := by have := hLy.out; omega
  clear ho1 k1 hg1
  go_wp2_with fail
  go_loopw [11] (fun iv wr => ∃ k : Nat, k ≤ yn ∧ iv = .int .i64 (k : Int) ∧ Hid (OwnB wr w.heap.size (.slice yo yn yc) (xorK xs bs k)) ∧ Hid (Kept Nought w wr)) (fun iv _ => yn - (intOf iv).toNat)
  case atStart => exact ⟨0, Nat.zero_le _, rfl, HO1.out, HK1.out⟩
  case round =>
    clear HO1 HK1
    obtain ⟨k, hk, rfl, HO, HK⟩ := hrel
    by_cases hkn : k < yn
    · have g1 : (k : Int) < (yn : Int) := by omega
      have g0 : (0 : Int) ≤ (k : Int) := by omega
      obtain ⟨g, rfl⟩ : ∃ g, yo = some ⟨g, 0, none⟩ := by
        rcases hyo with e | e
        · omega
        · exact e
      have hkx : k < xs.length := by have := hLy.out; omega
      have ho := HO.out
      unfold OwnB at ho
      rw [xorK_length, hLy.out] at ho
      have hcell : wr.cell? ⟨g, k, none⟩ = some (.int .u8 ((xs.getD k 0 : Nat) : Int)) := by
        rw [World.ownsRow.cellAt ho k (by omega), List.getElem?_map, List.getElem?_eq_getElem (by rw [xorK_length]; omega), ← xorK_getD (bs := bs) hkx, List.getD_eq_getElem?_getD, List.getElem?_eq_getElem (by rw [xorK_length]; omega)]
        rfl
      have hf := World.ownsRow.frozenAt ho k
      have hst := fun u => (World.ownsRow.stored ho k u).1
      have hgb : w.heap.size ≤ g := (ho.lt g rfl).1
      have HST := toHid hst
      by_cases hkb : k < nb
      · have y1 : (k : Int) < (nb : Int) := by omega
        obtain ⟨_, _, _, e5, _, _, _, _, hnb⟩ := (HB.out.grew HK.out).open
        cases e5
        obtain ⟨bb, boff, rfl, hcb⟩ := hnb k hkb
        have lx : xs.getD k 0 < 256 := HDX.out.getD (by omega) k
        have lb : bs.getD k 0 < 256 := HDB.out.getD (by omega) k
        have hset := xorK_set (bs := bs) hkx
        generalize xs.getD k 0 = X at *
        generalize bs.getD k 0 = Y at *
        have e6 := u8_xor_nat X Y (by omega) (by omega)
        have HSET := toHid hset
        obtain ⟨Z, hZ⟩ : ∃ Z, Z = X ^^^ Y := ⟨_, rfl⟩
        rw [← hZ] at e6
        have HZ := toHid hZ
        have HS : Hid (OwnB (wr.setCell ⟨g, k, none⟩ (.int .u8 (Z : Int))) w.heap.size (.slice (some ⟨g, 0, none⟩) yn yc) (xorK xs bs (k + 1))) := by
          refine OwnB.of (n := yn) ?_
          unfold OwnN
          rw [← HSET.out, List.map_set, ← HZ.out]
          exact HST.out _
        have HKS : Hid (Kept Nought w (wr.setCell ⟨g, k, none⟩ (.int .u8 (Z : Int)))) := HK.out.setCell _ (fun h => by
          have h' : g < w.heap.size := h
          omega) _
        clear hnb ho hst hset hZ HST HSET HZ
        go_wp2_with fail
        go_region
        all_goals
          go_wp2_with fail
          go_roundw
          case rel => exact ⟨k + 1, by omega, by go_num, HS.out.grew (Kept.refl _ _).drew, HKS.out.drew⟩
          case measure => simp [intOf]; omega
      · have y1 : ¬ (k : Int) < (nb : Int) := by omega
        have hset := xorK_set (bs := bs) hkx
        have e0 : bs.getD k 0 = 0 := by
          rw [List.getD_eq_getElem?_getD, List.getElem?_eq_none (by have := hLb.out; omega)]
          rfl
        rw [e0, Nat.xor_zero, ← xorK_getD (bs := bs) hkx, List.getD_eq_getElem?_getD, List.getElem?_eq_getElem (by rw [xorK_length]; omega)] at hset
        have hsame : xorK xs bs k = xorK xs bs (k + 1) := by
          rw [← hset]
          simp
        have HSAME := toHid hsame
        clear ho hst hset hsame hcell hf e0 HST
        go_wp2_with fail
        go_roundw
        case rel => exact ⟨k + 1, by omega, by go_num, by unfold Hid; rw [← HSAME.out]; exact HO.out, HK.out⟩
        case measure => simp [intOf]; omega
    · have g1 : ¬ (k : Int) < (yn : Int) := by omega
      have ho := HO.out
      rw [show k = xs.length by have := hLy.out; omega, xorK_last] at ho
      have HOO := toHid ho
      clear ho
      go_wp2_with fail
      go_ret
      exact ⟨_, rfl, HOO.out, HK.out⟩

end Go.Proofs.YtglioppchhepmaaDoor
