/- Put together of: NatB NatC NatD. -/
import Derived.Test.YtcjaafmlflonhaaGreatDoorPk1
import Derived.Test.YtcjaafmlflonhaaGreatDoorPk9
import Derived.Test.YtcjaafmlflonhaaGreatDoorPk22
import Derived.RangeFuncNested
import Derived.RangeFuncBound
import Derived.RangeFuncCalls
import Derived.RangeFuncLeaves
import Derived.RangeFuncBox
import Derived.Shelf.Abstract
import Derived.Shelf.RegionOpen
import Derived.OwnWalkIn
import Derived.TacticsInMore
import Derived.LoopNIn
import Derived.LoopIn
import Derived.Deep.RegionWith

/- Package nat: Word, Bit, Resize: what they answer, for any number. -/
namespace Go.Proofs.YtcjaafmlflonhaaGreatDoor
open Go.RowKit

set_option maxHeartbeats 400000 in
/-- Word. -/
theorem nWord (x : Nat) (hx : x < 18446744073709551616) (n : Int) (w : World) :
    Calls Tryz.prog 30 #[.int .u64 x, .int .i64 n] w fun r w' => ∃ v', r = .returned v' ∧ Row .u64 w' v' (digs 18446744073709551616 x (clampN n)) ∧ Kept Nought w w' := by
  obtain ⟨i0, hi0, hz0, hz1, hz2⟩ := info_parts Tryz.info23
  obtain ⟨m, hm⟩ : ∃ m, clampN n = m + 1 := ⟨clampN n - 1, by unfold clampN; omega⟩
  have hb : m + 1 ≤ 300 := by rw [← hm]; unfold clampN; omega
  have hc : min (max n 1) 300 = ((m + 1 : Nat) : Int) := by rw [← hm]; unfold clampN; omega
  rw [hm, word_digs x m hx]
  clear hm
  go_enter Tryz.func30, Tryz.ntmps30
  go_wp2_with (at_make; refine wpList_make_full _ rfl _ _ 31 rfl w.heap.size 23 i0 _ 1 Tryz.underlying31 hi0 hz0 hz1 _ _ _ _ (m + 1) rfl rfl (by first | exact hc | rfl) (by first | exact hc | rfl) (by rw [hz2]; omega) (by unfold maxLen; omega) (Nat.le_refl _) ?_; intro w1 ho1 hg1; rw [zeros_map] at ho1; have k1 := grown_kept hg1; have hc1 : w1.cell? ⟨w.heap.size, 0, none⟩ = some (.int .u64 0) := (by rw [World.ownsRow.cellAt ho1 0 (by omega)]; rfl); have hf := World.ownsRow.frozenAt ho1 0; have hst := (World.ownsRow.stored ho1 0 (.int .u64 (x : Nat))).1)
  go_ret
  refine ⟨_, rfl, Row.of_own (base := w.heap.size) (e := 23) ?_, k1.setCell _ (fun h => by simp at h) _⟩
  simpa [List.replicate_succ] using hst

set_option maxHeartbeats 800000 in
/-- Bit. -/
theorem nBit (v : Value) (xs : List Nat) (i : Int) (w : World) (h : Row .u64 w v xs) (hd : Digs 18446744073709551616 xs) (hi : i ≤ 9223372036854775807) :
    Calls Tryz.prog 106 #[v, .int .i64 i] w fun r w' => r = .returned (.int .u64 (bitN (val 18446744073709551616 xs) i : Nat)) ∧ w' = w := by
  obtain ⟨ao, n, cap, rfl, hL, h1, h2, h3, h4⟩ := h.open
  by_cases hi0 : i < 0
  · rw [show bitN (val 18446744073709551616 xs) i = 0 from if_pos hi0]
    clear h4 h hd
    go_enter Tryz.func106, Tryz.ntmps106
    go_wp2
    go_ret
    exact ⟨rfl, rfl⟩
  · obtain ⟨j, rfl⟩ := Int.eq_ofNat_of_zero_le (show 0 ≤ i by omega)
    rw [bitN_nat, ← bit_dig64, dig_val (by omega) hd]
    by_cases hlt : j / 64 < n
    · obtain ⟨b, off, rfl, hc⟩ := h4 (j / 64) hlt
      have hx : xs.getD (j / 64) 0 < 18446744073709551616 := hd.getD (by omega) _
      clear h4 h hd
      generalize xs.getD (j / 64) 0 = x at *
      have g1 : (j : Int) / 64 < (n : Int) := by omega
      have g2 : (0 : Int) ≤ (j : Int) / 64 := by omega
      have g3 : ((j : Int) / 64).toNat = j / 64 := by omega
      have hy := Nat.div_le_self x (2 ^ (j % 64))
      have hand : Hid (bits .and .u64 ((x : Int) / 2 ^ (j % 64)) 1 = ((x / 2 ^ (j % 64) % 2 : Nat) : Int)) := by
        unfold Hid
        have e : (x : Int) / 2 ^ (j % 64) = ((x / 2 ^ (j % 64) : Nat) : Int) := by simp
        rw [e]
        generalize x / 2 ^ (j % 64) = Y at *
        rw [and_one_u64 (Y : Int) (by omega) (by omega)]
        omega
      clear hy
      generalize x / 2 ^ (j % 64) % 2 = R at *
      go_enter Tryz.func106, Tryz.ntmps106
      go_wp2
      go_ret
      refine ⟨?_, rfl⟩
      show Ending.returned (Value.int .u64 (bits .and .u64 ((x : Int) / 2 ^ (j % 64)) 1)) = _
      rw [hand.out]
    · have hz : xs.getD (j / 64) 0 = 0 := by have := hL.out; rw [List.getD_eq_getElem?_getD, List.getElem?_eq_none (by omega)]; rfl
      rw [hz, Nat.zero_div]
      have g1 : ¬ (j : Int) / 64 < (n : Int) := by omega
      clear h4 h hd
      go_enter Tryz.func106, Tryz.ntmps106
      go_wp2
      go_ret
      exact ⟨rfl, rfl⟩

set_option maxRecDepth 20000 in
set_option maxHeartbeats 800000 in
/-- Resize. -/
theorem nResize (v : Value) (xs : List Nat) (n : Int) (w : World) (h : Row .u64 w v xs) (hd : Digs 18446744073709551616 xs) :
    Calls Tryz.prog 96 #[v, .int .i64 n] w fun r w' => ∃ v', r = .returned (.tuple #[v', .int .i64 (resCode (val 18446744073709551616 xs) n)]) ∧ Row .u64 w' v' (resList (val 18446744073709551616 xs) n) ∧ Kept Nought w w' := by
  obtain ⟨i0, hi0, hz0, hz1, hz2⟩ := info_parts Tryz.info23
  have hE := nLenErr n w
  have hN := nNeed v xs w h hd
  by_cases h1 : 300 < n
  · obtain ⟨e1, e2⟩ := res_long (V := val 18446744073709551616 xs) h1
    rw [e1, e2]
    rw [if_pos h1] at hE
    go_enter Tryz.func96, Tryz.ntmps96
    go_wp2_with fail
    refine hE.mono ?_
    rintro e w' ⟨rfl, rfl⟩
    go_wp2
    go_ret2
    exact ⟨_, rfl, Row.nil _ _, Kept.refl _ _⟩
  · rw [if_neg h1] at hE
    by_cases h2 : n < 0
    · obtain ⟨e1, e2⟩ := res_range (V := val 18446744073709551616 xs) h1 (.inl h2)
      rw [e1, e2]
      rw [if_pos h2] at hE
      go_enter Tryz.func96, Tryz.ntmps96
      go_wp2_with fail
      refine hE.mono ?_
      rintro e w' ⟨rfl, rfl⟩
      go_wp2
      go_ret2
      exact ⟨_, rfl, Row.nil _ _, Kept.refl _ _⟩
    · rw [if_neg h2] at hE
      obtain ⟨m, rfl⟩ := Int.eq_ofNat_of_zero_le (show 0 ≤ n by omega)
      obtain ⟨RC, hRC⟩ : ∃ RC, RC = resCode (val 18446744073709551616 xs) (m : Int) := ⟨_, rfl⟩
      obtain ⟨RL, hRL⟩ : ∃ RL, RL = resList (val 18446744073709551616 xs) (m : Int) := ⟨_, rfl⟩
      rw [← hRC, ← hRL]
      have HC : Hid (RC = resCode (val 18446744073709551616 xs) (m : Int)) := hRC
      have HL : Hid (RL = resList (val 18446744073709551616 xs) (m : Int)) := hRL
      clear hRC hRL
      go_enter Tryz.func96, Tryz.ntmps96
      go_wp2_with fail
      refine hE.mono ?_
      rintro e w' ⟨rfl, rfl⟩
      go_wp2_with fail
      refine hN.mono ?_
      rintro e w' ⟨v', ys, rfl, hr, hdy, hty, hv, hlen, _, _, rfl⟩
      obtain ⟨ao, q, cap, rfl, hL, g1, g2, g3, g4⟩ := hr.open
      have hq : q = wordsN (val 18446744073709551616 xs) := by rw [← hL.out]; exact hlen.out
      by_cases h3 : q ≤ m
      · obtain ⟨e1, e2⟩ := res_ok (V := val 18446744073709551616 xs) (n := m) (by omega) (by omega)
        have h3' : ¬ (q : Int) > (m : Int) := by omega
        rw [e1] at HC
        rw [e2, fill_digs hdy hv (by rw [hL.out]; exact h3)] at HL
        obtain ⟨CS, hCS⟩ : ∃ CS, CS = ys.map (fun z : Nat => Value.int .u64 (z : Int)) := ⟨_, rfl⟩
        have hcl : CS.length = q := by rw [hCS, List.length_map]; exact hL.out
        have HCS : Hid (CS = ys.map (fun z : Nat => Value.int .u64 (z : Int))) := hCS
        have hone : ∀ u ∈ CS, u.oneCell' = true := by
          intro u hu
          rw [hCS] at hu
          obtain ⟨z, _, rfl⟩ := List.mem_map.1 hu
          rfl
        have hpos : ∀ W, Kept Nought w' W → 0 < CS.length → ∃ ad, ao = some ad ∧ ∀ j u, CS[j]? = some u → W.cell? (ad.add j) = some u := by
          intro W hk hp
          obtain ⟨b, off, rfl, _⟩ := g4 0 (by omega)
          refine ⟨_, rfl, fun j u hu => ?_⟩
          have hj : j < q := by
            have := (List.getElem?_eq_some_iff.1 hu).1
            omega
          obtain ⟨b', off', e, hc⟩ := (g4 j hj).grew hk
          simp only [Option.some.injEq, Addr.mk.injEq] at e
          obtain ⟨rfl, rfl, _⟩ := e
          rw [hCS, List.getElem?_map, List.getElem?_eq_getElem (by rw [hL.out]; exact hj)] at hu
          rw [show (⟨b, off, none⟩ : Addr).add j = ⟨b, off + j, none⟩ by simp [Addr.add], hc, ← hu, List.getD_eq_getElem?_getD, List.getElem?_eq_getElem (by rw [hL.out]; exact hj)]
          rfl
        have HP : Hid (∀ W, Kept Nought w' W → 0 < CS.length → ∃ ad, ao = some ad ∧ ∀ j u, CS[j]? = some u → W.cell? (ad.add j) = some u) := hpos
        have HO : Hid (∀ u ∈ CS, u.oneCell' = true) := hone
        have HLC : Hid (CS.length = q) := hcl
        clear hCS g4 hr hN h hE hpos hone hcl hq hv e1 e2
        go_wp2_with (at_make; refine wpList_make_full _ rfl _ _ 31 rfl w'.heap.size 23 i0 _ 1 Tryz.underlying31 hi0 hz0 hz1 _ _ _ _ m rfl rfl rfl rfl (by rw [hz2]; omega) (by unfold maxLen; omega) (Nat.le_refl _) ?_; intro w1 ho1 hg1; rw [zeros_map] at ho1; have k1 := grown_kept hg1; obtain ⟨w2, hrun, hb2, k2⟩ := run_copy_part (P := Tryz.prog) 31 31 3 23 w'.heap.size 0 m m (some ⟨w'.heap.size, 0, none⟩) ao q cap _ 23 CS Tryz.underlying31 (by rw [hi0]; simp [hz1]) (own_block ho1) (by rw [HLC.out]; exact (Nat.min_eq_left h3).symm) (fun hp => ⟨rfl, HP.out _ k1 hp⟩) (by have := HLC.out; simp; omega) HO.out; have HB2 : Hid _ := hb2; clear hb2 ho1 hg1)
        go_ret2
        have hfin := HB2.out
        rw [HCS.out, splice_fill] at hfin
        rw [HC.out, HL.out]
        exact ⟨_, rfl, Row.of_block hfin (by simp [hL.out]; omega) (by unfold maxLen; omega), kept_new k1 k2 (Nat.le_refl _)⟩
      · obtain ⟨e1, e2⟩ := res_range (V := val 18446744073709551616 xs) (n := (m : Int)) (by omega) (.inr (by simp; omega))
        have h3' : (q : Int) > (m : Int) := by omega
        rw [e1] at HC
        rw [e2] at HL
        clear g4 hr hN h hE hq hv
        go_wp2
        go_ret2
        rw [HC.out, HL.out]
        exact ⟨_, rfl, Row.nil _ _, Kept.refl _ _⟩

end Go.Proofs.YtcjaafmlflonhaaGreatDoor


/- Package nat: the words of a number from the highest down (downward), as a range over a function hands them out. -/
namespace Go.Proofs.YtcjaafmlflonhaaGreatDoor
open Go.RowKit Go.Shelf

attribute [local go_sem] Oper.semAt_some

/-- What has come: the places from the top down, when r are left. -/
def downIdx (L : Nat) (r : Nat) : List Nat := (List.range (L - r)).map fun j => L - 1 - j

theorem downIdx_all (L : Nat) : downIdx L L = [] := by simp [downIdx]

theorem downIdx_step {L j : Nat} (h : j < L) : downIdx L j = downIdx L (j + 1) ++ [j] := by
  unfold downIdx
  rw [show L - j = (L - (j + 1)) + 1 by omega, List.range_succ, List.map_append, List.map_singleton, show L - 1 - (L - (j + 1)) = j by omega]

theorem downIdx_length (L r : Nat) : (downIdx L r).length = L - r := by simp [downIdx]

set_option maxRecDepth 100000 in
set_option maxHeartbeats 2000000 in
/-- downward's closure. -/
theorem down1 (F : Fence) (n : Nat) (hf : F.fn 122) (hro : F.round = none) (hn : 1 ≤ n) (l Bs L : Nat) (g : Nat → Nat) (v : Value) (zs : List Nat) (hL : Hid (zs.length = L)) (hg : Hid (∀ j, zs.getD j 0 = g j)) (S : Nat → Prop) (hS : S Bs) (hSv : ∀ b, v.ownBlock = some b → 0 < L → S b)
    (J Jx : List (Fin L) → World → Prop)
    (hY : ∀ pre (x : Fin L) W, J pre W → pre.length < L → YieldAt F (n - 1) Tryz.prog l #[.int .i64 (x.val : Nat), .int .u64 (g x.val : Nat)] W fun e W' =>
      (e = .returned (.bool true) ∧ J (pre ++ [x]) W' ∧ KeepB S W W') ∨ (e = .returned (.bool false) ∧ Jx (pre ++ [x]) W'))
    (W : World) (hBs : W.cell? ⟨Bs, 0, none⟩ = some v) (hr : Row .u64 W v zs) (h0 : J [] W) :
    CallsIn F n Tryz.prog 122 #[.func (.yield l) #[] #[], .pointer (some ⟨Bs, 0, none⟩)] W fun e W' => (∃ v, e = .returned v) ∧
      ((∃ ys, ys.map Fin.val = downIdx L 0 ∧ J ys W') ∨ (∃ pre, (∃ r, r < L ∧ pre.map Fin.val = downIdx L r) ∧ Jx pre W')) := by
  obtain ⟨ao, m, cap, rfl, hN, c1, c2, c3, hnum⟩ := hr.open
  obtain rfl : m = L := by rw [← hN.out]; exact hL.out
  have HNUM : Hid (∀ i, i < m → NumAt .u64 W ao zs i) := hnum
  clear hnum hr
  refine callsIn_of_wp Tryz.func122 rfl hf ?_ hro
  simp only [Tryz.ntmps122, List.size_toArray, List.length_cons, List.length_nil, Nat.reduceAdd, Nat.reduceSub, Array.replicate_succ, Array.replicate_zero, List.push_toArray, List.append_toArray, List.nil_append, List.cons_append]
  gi_wp2
  gi_loopw [3] (fun i wr => ∃ r : Nat, r ≤ m ∧ i = .int .i64 ((r : Int) - 1) ∧ (∃ pre : List (Fin m), Hid (pre.map Fin.val = downIdx m r) ∧ J pre wr) ∧ KeepB S W wr)
    (fun i _ => (intOf i + 1).toNat)
  case atStart => exact ⟨m, Nat.le_refl _, by simp, ⟨[], by simp [Hid, downIdx_all], h0⟩, KeepB.refl _ _⟩
  case round =>
    obtain ⟨r, hr, rfl, ⟨pre, hpre, hJs⟩, hkp⟩ := hrel
    cases r with
    | zero =>
      gi_wp2
      go_end0
      exact ⟨⟨_, rfl⟩, .inl ⟨pre, hpre.out, hJs⟩⟩
    | succ j =>
      rw [show (((j + 1 : Nat) : Int) - 1) = (j : Int) by omega]
      obtain ⟨b, off, rfl, hc⟩ := HNUM.out j (by omega)
      have hc' : wr.cell? ⟨b, off + j, none⟩ = some (.int .u64 (g j : Nat)) := by
        rw [hkp.cell (p := ⟨b, off + j, none⟩) (hSv b rfl (by omega)), hc, hg.out]
      have hbox := (hkp.cell (p := ⟨Bs, 0, none⟩) hS).trans hBs
      have hlen : pre.length < m := by
        have := congrArg List.length hpre.out
        rw [List.length_map, downIdx_length] at this
        omega
      obtain ⟨fn, tmps, assign, body, hy, hR⟩ := hY pre ⟨j, by omega⟩ wr hJs hlen
      dsimp only at hy
      clear hc HNUM
      gi_wp2
      refine hR.mono ?_
      rintro e W3 (⟨rfl, hJ3, hk3⟩ | ⟨rfl, hJx3⟩)
      · gi_wp2
        go_roundw
        case rel => exact ⟨j, by omega, by simp, ⟨pre ++ [⟨j, by omega⟩], by unfold Hid; rw [List.map_append, hpre.out, downIdx_step (show j < m by omega)]; rfl, hJ3⟩, hkp.trans hk3⟩
        case measure => simp [intOf]
      · gi_wp2
        refine bodyPost_ret (results_none rfl _ _ _) rfl ?_
        exact ⟨⟨_, rfl⟩, .inr ⟨_, ⟨j, by omega, by rw [List.map_append, hpre.out, downIdx_step (show j < m by omega)]; rfl⟩, hJx3⟩⟩

/-- downward: the slice is boxed; the function value holds the box. -/
theorem downBox (F : Fence) (n : Nat) (h5 : F.fn 84) (hro : F.round = none) (ao : Option Addr) (len cap : Nat) (w : World) :
    CallsIn F n Tryz.prog 84 #[.slice ao len cap] w fun e w' => e = .returned (.func (.func 122) #[] #[.pointer (some ⟨w.heap.size, 0, none⟩)]) ∧ w' = w.alloc (.cells #[.slice ao len cap] 31) := by
  refine callsIn_of_wp Tryz.func84 rfl h5 ?_ hro
  simp only [Tryz.ntmps84, List.size_toArray, List.length_cons, List.length_nil, Nat.reduceAdd, Nat.reduceSub, Array.replicate_succ, Array.replicate_zero, List.push_toArray, List.append_toArray, List.nil_append, List.cons_append]
  gi_wp2
  go_ret
  exact ⟨rfl, rfl⟩

/-- downward's value, as a range over it wants it. -/
theorem downStops (F : Fence) (n : Nat) (hf : F.fn 122) (hro : F.round = none) (hn : 1 ≤ n) (Bs L : Nat) (g : Nat → Nat) (v : Value) (zs : List Nat) (hL : zs.length = L) (hg : ∀ j, zs.getD j 0 = g j) (S : Nat → Prop) (hS : S Bs) (hSv : ∀ b, v.ownBlock = some b → 0 < L → S b)
    (w : World) (hSw : ∀ k, S k → k < w.heap.size) (hBs : w.cell? ⟨Bs, 0, none⟩ = some v) (hr : Row .u64 w v zs) :
    SeqStopsK F n Tryz.prog 122 #[.pointer (some ⟨Bs, 0, none⟩)] (fun x : Fin L => #[Value.int .i64 (x.val : Nat), Value.int .u64 (g x.val : Nat)]) (KeepB S) (fun ys => ys.map Fin.val = downIdx L 0) (fun pre => ∃ r, r < L ∧ pre.map Fin.val = downIdx L r) L w := fun l J Jx W hW _ _ hY h0 => by
  have hk : KeepB S w W := fun k hk => hW.block k (hSw k hk)
  exact down1 F n hf hro hn l Bs L g v zs hL hg S hS hSv J Jx hY W ((hk.cell (p := ⟨Bs, 0, none⟩) hS).trans hBs) (hk.row (fun b hb hp => hSv b hb (by omega)) hr) h0

end Go.Proofs.YtcjaafmlflonhaaGreatDoor


/- Package nat: Compare: how any two numbers stand to one another. -/
namespace Go.Proofs.YtcjaafmlflonhaaGreatDoor
open Go.RowKit Go.Shelf

attribute [local go_sem] Oper.semAt_some

/-- needed, told by the slice. -/
theorem nNeedS (ao : Option Addr) (n cap : Nat) (xs : List Nat) (w : World) (h : Row .u64 w (.slice ao n cap) xs) (hd : Digs 18446744073709551616 xs) :
    Calls Tryz.prog 82 #[.slice ao n cap] w fun r w' => r = .returned (.slice ao (wordsN (val 18446744073709551616 xs)) cap) ∧ w' = w := by
  refine (nNeeded _ xs w h).mono ?_
  rintro e w' ⟨m, v', rfl, hm, hr, hz, ht, ho, ⟨ao', n', cap', e1, rfl⟩, rfl⟩
  have e2 := len_words (hd.take m) (trimmed_take hm ht)
  rw [take_trim (B := 18446744073709551616) hm hz, List.length_take, Nat.min_eq_left hm] at e2
  cases e1
  rw [e2]
  exact ⟨rfl, rfl⟩

theorem words_len {xs : List Nat} (hd : Digs 18446744073709551616 xs) : wordsN (val 18446744073709551616 xs) ≤ xs.length := (wordsN_le _ _).2 (val_lt (by omega) hd)

/-- The words that a number needs, and no more. -/
theorem need_list {xs : List Nat} (hd : Digs 18446744073709551616 xs) : ∃ ys, ys = xs.take (wordsN (val 18446744073709551616 xs)) ∧ ys.length = wordsN (val 18446744073709551616 xs) ∧ Digs 18446744073709551616 ys ∧ val 18446744073709551616 ys = val 18446744073709551616 xs ∧ (∀ j, j < wordsN (val 18446744073709551616 xs) → ys.getD j 0 = xs.getD j 0) := by
  have hl := words_len hd
  refine ⟨_, rfl, by rw [List.length_take]; omega, hd.take _, ?_, fun j hj => ?_⟩
  · refine take_trim hl (fun i hi => ?_)
    rw [← dig_val (by omega) hd i]
    unfold dig
    rw [Nat.div_eq_of_lt, Nat.zero_mod]
    exact (wordsN_le _ _).1 hi
  · rw [List.getD_eq_getElem?_getD, List.getD_eq_getElem?_getD, List.getElem?_take, if_pos hj]

theorem nCmp64 (x y : Nat) (w : World) : Calls Tryz.prog 85 #[.int .u64 x, .int .u64 y] w fun r w' => r = .returned (.int .i64 (cmpN x y)) ∧ w' = w := by
  rcases Nat.lt_trichotomy x y with h | h | h
  · rw [cmpN_lt h]
    have h' : (x : Int) < (y : Int) := by omega
    go_enter Tryz.func85, Tryz.ntmps85
    go_wp2
    go_ret
    exact ⟨rfl, rfl⟩
  · rw [cmpN_eq h]
    subst h
    go_enter Tryz.func85, Tryz.ntmps85
    go_wp2
    go_ret
    exact ⟨rfl, rfl⟩
  · rw [cmpN_gt h]
    have h' : ¬ (x : Int) < (y : Int) := by omega
    have h'' : (x : Int) > (y : Int) := by omega
    go_enter Tryz.func85, Tryz.ntmps85
    go_wp2
    go_ret
    exact ⟨rfl, rfl⟩

theorem cmpInt (x y : Nat) : Lib.compareInt (x : Int) (y : Int) = cmpN x y := by
  unfold Lib.compareInt cmpN
  by_cases h : x < y
  · rw [if_pos h, if_pos (by omega)]
  · rw [if_neg h, if_neg (by omega)]
    by_cases h2 : x = y
    · rw [if_pos h2, if_neg (by omega)]
    · rw [if_neg h2, if_pos (by omega)]

theorem cmp_words {A B : Nat} (h : wordsN A ≠ wordsN B) : cmpN (wordsN A) (wordsN B) = cmpN A B := by
  rcases Nat.lt_or_gt_of_ne h with k | k
  · rw [cmpN_lt k, cmpN_lt]
    have h1 := (wordsN_le A _).1 (Nat.le_refl _)
    have h2 : ¬ wordsN B ≤ wordsN A := by omega
    have h3 := mt (wordsN_le B (wordsN A)).2 h2
    omega
  · rw [cmpN_gt k, cmpN_gt]
    have h1 := (wordsN_le B _).1 (Nat.le_refl _)
    have h2 : ¬ wordsN A ≤ wordsN B := by omega
    have h3 := mt (wordsN_le A (wordsN B)).2 h2
    omega

/-- The highest word in which two numbers of one length differ tells how they stand. -/
theorem cmp_at {a b : List Nat} {k : Nat} (ha : Digs 18446744073709551616 a) (hb : Digs 18446744073709551616 b) (hl : a.length = b.length) (hk : k < a.length) (he : ∀ j, k < j → j < a.length → a.getD j 0 = b.getD j 0) :
    a.getD k 0 ≠ b.getD k 0 → cmpN (a.getD k 0) (b.getD k 0) = cmpN (val 18446744073709551616 a) (val 18446744073709551616 b) := by
  intro hne
  have ea := val_take_drop 18446744073709551616 a (k + 1) (by omega)
  have eb := val_take_drop 18446744073709551616 b (k + 1) (by omega)
  have hdrop : a.drop (k + 1) = b.drop (k + 1) := by
    apply List.ext_getElem?
    intro i
    rw [List.getElem?_drop, List.getElem?_drop]
    by_cases hi : k + 1 + i < a.length
    · have := he (k + 1 + i) (by omega) hi
      rw [List.getD_eq_getElem?_getD, List.getD_eq_getElem?_getD, List.getElem?_eq_getElem hi, List.getElem?_eq_getElem (show k + 1 + i < b.length by omega)] at this
      rw [List.getElem?_eq_getElem hi, List.getElem?_eq_getElem (show k + 1 + i < b.length by omega)]
      exact congrArg some this
    · rw [List.getElem?_eq_none (by omega), List.getElem?_eq_none (by omega)]
  have ta : a.take (k + 1) = a.take k ++ [a.getD k 0] := by rw [List.take_add_one, List.getD_eq_getElem?_getD, List.getElem?_eq_getElem hk]; rfl
  have tb : b.take (k + 1) = b.take k ++ [b.getD k 0] := by rw [List.take_add_one, List.getD_eq_getElem?_getD, List.getElem?_eq_getElem (show k < b.length by omega)]; rfl
  rw [ta, val_snoc, List.length_take, Nat.min_eq_left (by omega)] at ea
  rw [tb, val_snoc, List.length_take, Nat.min_eq_left (by omega), ← hdrop] at eb
  have la : val 18446744073709551616 (a.take k) < 18446744073709551616 ^ k := by
    have := val_lt (by omega) (ha.take k)
    rwa [List.length_take, Nat.min_eq_left (by omega)] at this
  have lb : val 18446744073709551616 (b.take k) < 18446744073709551616 ^ k := by
    have := val_lt (by omega) (hb.take k)
    rwa [List.length_take, Nat.min_eq_left (by omega)] at this
  generalize a.getD k 0 = x at *
  generalize b.getD k 0 = y at *
  generalize 18446744073709551616 ^ (k + 1) * val 18446744073709551616 (a.drop (k + 1)) = H at *
  generalize val 18446744073709551616 (a.take k) = p at *
  generalize val 18446744073709551616 (b.take k) = q at *
  generalize 18446744073709551616 ^ k = M at *
  rcases Nat.lt_or_gt_of_ne hne with h | h
  · have : M * (x + 1) ≤ M * y := Nat.mul_le_mul_left _ h
    rw [Nat.mul_add, Nat.mul_one] at this
    rw [cmpN_lt h, cmpN_lt (by omega)]
  · have : M * (y + 1) ≤ M * x := Nat.mul_le_mul_left _ h
    rw [Nat.mul_add, Nat.mul_one] at this
    rw [cmpN_gt h, cmpN_gt (by omega)]

theorem cmpN_ne {x y : Nat} : cmpN x y = 0 ↔ x = y := by
  unfold cmpN
  by_cases h : x < y
  · rw [if_pos h]; constructor <;> intro h2 <;> omega
  · rw [if_neg h]
    by_cases h2 : x = y
    · simp [h2]
    · rw [if_neg h2]; constructor <;> intro h3 <;> omega

end Go.Proofs.YtcjaafmlflonhaaGreatDoor

