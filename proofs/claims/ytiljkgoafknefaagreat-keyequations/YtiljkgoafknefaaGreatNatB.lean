/- Package nat: Word, Bit, Resize: what they answer, for any number. -/
import Derived.Test.YtiljkgoafknefaaGreatBase4
import Derived.Test.YtiljkgoafknefaaGreatBase1
namespace Go.Proofs.YtiljkgoafknefaaGreat
open Go.RowKit

set_option maxHeartbeats 400000 in
/-- Word. -/
theorem nWord (x : Nat) (hx : x < 18446744073709551616) (n : Int) (w : World) :
    Calls Tryz.prog 75 #[.int .u64 x, .int .i64 n] w fun r w' => ∃ v', r = .returned v' ∧ Row .u64 w' v' (digs 18446744073709551616 x (clampN n)) ∧ Kept Nought w w' := by
  obtain ⟨i0, hi0, hz0, hz1, hz2⟩ := info_parts Tryz.info24
  obtain ⟨m, hm⟩ : ∃ m, clampN n = m + 1 := ⟨clampN n - 1, by unfold clampN; omega⟩
  have hb : m + 1 ≤ 300 := by rw [← hm]; unfold clampN; omega
  have hc : min (max n 1) 300 = ((m + 1 : Nat) : Int) := by rw [← hm]; unfold clampN; omega
  rw [hm, word_digs x m hx]
  clear hm
  go_enter Tryz.func75, Tryz.ntmps75
  go_wp2_with (at_make; refine wpList_make_full _ rfl _ _ 23 rfl w.heap.size 24 i0 _ 1 Tryz.underlying23 hi0 hz0 hz1 _ _ _ _ (m + 1) rfl rfl (by first | exact hc | rfl) (by first | exact hc | rfl) (by rw [hz2]; omega) (by unfold maxLen; omega) (Nat.le_refl _) ?_; intro w1 ho1 hg1; rw [zeros_map] at ho1; have k1 := grown_kept hg1; have hc1 : w1.cell? ⟨w.heap.size, 0, none⟩ = some (.int .u64 0) := (by rw [World.ownsRow.cellAt ho1 0 (by omega)]; rfl); have hf := World.ownsRow.frozenAt ho1 0; have hst := (World.ownsRow.stored ho1 0 (.int .u64 (x : Nat))).1)
  go_ret
  refine ⟨_, rfl, Row.of_own (base := w.heap.size) (e := 24) ?_, k1.setCell _ (fun h => by simp at h) _⟩
  simpa [List.replicate_succ] using hst

theorem shr_bit (x j : Nat) : (x / 2 ^ j) % 2 = x / 2 ^ j % 2 := rfl

set_option maxHeartbeats 800000 in
/-- Bit. -/
theorem nBit (v : Value) (xs : List Nat) (i : Int) (w : World) (h : Row .u64 w v xs) (hd : Digs 18446744073709551616 xs) (hi : i ≤ 9223372036854775807) :
    Calls Tryz.prog 66 #[v, .int .i64 i] w fun r w' => r = .returned (.int .u64 (bitN (val 18446744073709551616 xs) i : Nat)) ∧ w' = w := by
  obtain ⟨ao, n, cap, rfl, hL, h1, h2, h3, h4⟩ := h.open
  by_cases hi0 : i < 0
  · rw [show bitN (val 18446744073709551616 xs) i = 0 from if_pos hi0]
    clear h4 h hd
    go_enter Tryz.func66, Tryz.ntmps66
    go_wp2
    go_ret
    exact ⟨rfl, rfl⟩
  · obtain ⟨j, rfl⟩ := Int.eq_ofNat_of_zero_le (show 0 ≤ i by omega)
    rw [bitN_nat, ← bit_dig64, dig_val (by omega) hd]
    by_cases hlt : j / 64 < n
    · obtain ⟨b, off, rfl, hc⟩ := h4 (j / 64) hlt
      have hx : xs.getD (j / 64) 0 < 18446744073709551616 := hd.getD (by omega) _
      clear h4 h hd
      generalize xs.getD (j / 64) 0 = x at *
      have g1 : (j : Int) / 64 < (n : Int) := by omega
      have g2 : (0 : Int) ≤ (j : Int) / 64 := by omega
      have g3 : ((j : Int) / 64).toNat = j / 64 := by omega
      have hy := Nat.div_le_self x (2 ^ (j % 64))
      have hand : Hid (bits .and .u64 ((x : Int) / 2 ^ (j % 64)) 1 = ((x / 2 ^ (j % 64) % 2 : Nat) : Int)) := by
        unfold Hid
        have e : (x : Int) / 2 ^ (j % 64) = ((x / 2 ^ (j % 64) : Nat) : Int) := by simp
        rw [e]
        generalize x / 2 ^ (j % 64) = Y at *
        rw [and_one_u64 (Y : Int) (by omega) (by omega)]
        omega
      clear hy
      generalize x / 2 ^ (j % 64) % 2 = R at *
      go_enter Tryz.func66, Tryz.ntmps66
      go_wp2
      go_ret
      refine ⟨?_, rfl⟩
      show Ending.returned (Value.int .u64 (bits .and .u64 ((x : Int) / 2 ^ (j % 64)) 1)) = _
      rw [hand.out]
    · have hz : xs.getD (j / 64) 0 = 0 := by have := hL.out; rw [List.getD_eq_getElem?_getD, List.getElem?_eq_none (by omega)]; rfl
      rw [hz, Nat.zero_div]
      have g1 : ¬ (j : Int) / 64 < (n : Int) := by omega
      clear h4 h hd
      go_enter Tryz.func66, Tryz.ntmps66
      go_wp2
      go_ret
      exact ⟨rfl, rfl⟩

set_option maxRecDepth 20000 in
set_option maxHeartbeats 800000 in
/-- Resize: what is answered lies in new memory. -/
theorem nResizeF (v : Value) (xs : List Nat) (n : Int) (w : World) (h : Row .u64 w v xs) (hd : Digs 18446744073709551616 xs) :
    Calls Tryz.prog 77 #[v, .int .i64 n] w fun r w' => ∃ v', r = .returned (.tuple #[v', .int .i64 (resCode (val 18446744073709551616 xs) n)]) ∧ Row .u64 w' v' (resList (val 18446744073709551616 xs) n) ∧ (∀ b, v'.ownBlock = some b → w.heap.size ≤ b) ∧ Kept Nought w w' := by
  obtain ⟨i0, hi0, hz0, hz1, hz2⟩ := info_parts Tryz.info24
  have hE := nLenErr n w
  have hN := nNeed v xs w h hd
  by_cases h1 : 300 < n
  · obtain ⟨e1, e2⟩ := res_long (V := val 18446744073709551616 xs) h1
    rw [e1, e2]
    rw [if_pos h1] at hE
    go_enter Tryz.func77, Tryz.ntmps77
    go_wp2_with fail
    refine hE.mono ?_
    rintro e w' ⟨rfl, rfl⟩
    go_wp2
    go_ret2
    exact ⟨_, rfl, Row.nil _ _, (fun b hb => by cases hb), Kept.refl _ _⟩
  · rw [if_neg h1] at hE
    by_cases h2 : n < 0
    · obtain ⟨e1, e2⟩ := res_range (V := val 18446744073709551616 xs) h1 (.inl h2)
      rw [e1, e2]
      rw [if_pos h2] at hE
      go_enter Tryz.func77, Tryz.ntmps77
      go_wp2_with fail
      refine hE.mono ?_
      rintro e w' ⟨rfl, rfl⟩
      go_wp2
      go_ret2
      exact ⟨_, rfl, Row.nil _ _, (fun b hb => by cases hb), Kept.refl _ _⟩
    · rw [if_neg h2] at hE
      obtain ⟨m, rfl⟩ := Int.eq_ofNat_of_zero_le (show 0 ≤ n by omega)
      obtain ⟨RC, hRC⟩ : ∃ RC, RC = resCode (val 18446744073709551616 xs) (m : Int) := ⟨_, rfl⟩
      obtain ⟨RL, hRL⟩ : ∃ RL, RL = resList (val 18446744073709551616 xs) (m : Int) := ⟨_, rfl⟩
      rw [← hRC, ← hRL]
      have HC : Hid (RC = resCode (val 18446744073709551616 xs) (m : Int)) := hRC
      have HL : Hid (RL = resList (val 18446744073709551616 xs) (m : Int)) := hRL
      clear hRC hRL
      go_enter Tryz.func77, Tryz.ntmps77
      go_wp2_with fail
      refine hE.mono ?_
      rintro e w' ⟨rfl, rfl⟩
      go_wp2_with fail
      refine hN.mono ?_
      rintro e w' ⟨v', ys, rfl, hr, hdy, hty, hv, hlen, _, _, rfl⟩
      obtain ⟨ao, q, cap, rfl, hL, g1, g2, g3, g4⟩ := hr.open
      have hq : q = wordsN (val 18446744073709551616 xs) := by rw [← hL.out]; exact hlen.out
      by_cases h3 : q ≤ m
      · obtain ⟨e1, e2⟩ := res_ok (V := val 18446744073709551616 xs) (n := m) (by omega) (by omega)
        have h3' : ¬ (q : Int) > (m : Int) := by omega
        rw [e1] at HC
        rw [e2, fill_digs hdy hv (by rw [hL.out]; exact h3)] at HL
        obtain ⟨CS, hCS⟩ : ∃ CS, CS = ys.map (fun z : Nat => Value.int .u64 (z : Int)) := ⟨_, rfl⟩
        have hcl : CS.length = q := by rw [hCS, List.length_map]; exact hL.out
        have HCS : Hid (CS = ys.map (fun z : Nat => Value.int .u64 (z : Int))) := hCS
        have hone : ∀ u ∈ CS, u.oneCell' = true := by
          intro u hu
          rw [hCS] at hu
          obtain ⟨z, _, rfl⟩ := List.mem_map.1 hu
          rfl
        have hpos : ∀ W, Kept Nought w' W → 0 < CS.length → ∃ ad, ao = some ad ∧ ∀ j u, CS[j]? = some u → W.cell? (ad.add j) = some u := by
          intro W hk hp
          obtain ⟨b, off, rfl, _⟩ := g4 0 (by omega)
          refine ⟨_, rfl, fun j u hu => ?_⟩
          have hj : j < q := by
            have := (List.getElem?_eq_some_iff.1 hu).1
            omega
          obtain ⟨b', off', e, hc⟩ := (g4 j hj).grew hk
          simp only [Option.some.injEq, Addr.mk.injEq] at e
          obtain ⟨rfl, rfl, _⟩ := e
          rw [hCS, List.getElem?_map, List.getElem?_eq_getElem (by rw [hL.out]; exact hj)] at hu
          rw [show (⟨b, off, none⟩ : Addr).add j = ⟨b, off + j, none⟩ by simp [Addr.add], hc, ← hu, List.getD_eq_getElem?_getD, List.getElem?_eq_getElem (by rw [hL.out]; exact hj)]
          rfl
        have HP : Hid (∀ W, Kept Nought w' W → 0 < CS.length → ∃ ad, ao = some ad ∧ ∀ j u, CS[j]? = some u → W.cell? (ad.add j) = some u) := hpos
        have HO : Hid (∀ u ∈ CS, u.oneCell' = true) := hone
        have HLC : Hid (CS.length = q) := hcl
        clear hCS g4 hr hN h hE hpos hone hcl hq hv e1 e2
        go_wp2_with (at_make; refine wpList_make_full _ rfl _ _ 23 rfl w'.heap.size 24 i0 _ 1 Tryz.underlying23 hi0 hz0 hz1 _ _ _ _ m rfl rfl rfl rfl (by rw [hz2]; omega) (by unfold maxLen; omega) (Nat.le_refl _) ?_; intro w1 ho1 hg1; rw [zeros_map] at ho1; have k1 := grown_kept hg1; obtain ⟨w2, hrun, hb2, k2⟩ := run_copy_part (P := Tryz.prog) 23 23 3 24 w'.heap.size 0 m m (some ⟨w'.heap.size, 0, none⟩) ao q cap _ 24 CS Tryz.underlying23 (by rw [hi0]; simp [hz1]) (own_block ho1) (by rw [HLC.out]; exact (Nat.min_eq_left h3).symm) (fun hp => ⟨rfl, HP.out _ k1 hp⟩) (by have := HLC.out; simp; omega) HO.out; have HB2 : Hid _ := hb2; clear hb2 ho1 hg1)
        go_ret2
        have hfin := HB2.out
        rw [HCS.out, splice_fill] at hfin
        rw [HC.out, HL.out]
        exact ⟨_, rfl, Row.of_block hfin (by simp [hL.out]; omega) (by unfold maxLen; omega), (fun b hb => by simp [Value.ownBlock] at hb; omega), kept_new k1 k2 (Nat.le_refl _)⟩
      · obtain ⟨e1, e2⟩ := res_range (V := val 18446744073709551616 xs) (n := (m : Int)) (by omega) (.inr (by simp; omega))
        have h3' : (q : Int) > (m : Int) := by omega
        rw [e1] at HC
        rw [e2] at HL
        clear g4 hr hN h hE hq hv
        go_wp2
        go_ret2
        rw [HC.out, HL.out]
        exact ⟨_, rfl, Row.nil _ _, (fun b hb => by cases hb), Kept.refl _ _⟩

/-- Resize. -/
theorem nResize (v : Value) (xs : List Nat) (n : Int) (w : World) (h : Row .u64 w v xs) (hd : Digs 18446744073709551616 xs) :
    Calls Tryz.prog 77 #[v, .int .i64 n] w fun r w' => ∃ v', r = .returned (.tuple #[v', .int .i64 (resCode (val 18446744073709551616 xs) n)]) ∧ Row .u64 w' v' (resList (val 18446744073709551616 xs) n) ∧ Kept Nought w w' :=
  (nResizeF v xs n w h hd).mono fun _ _ ⟨v', e, hr, _, k⟩ => ⟨v', e, hr, k⟩

end Go.Proofs.YtiljkgoafknefaaGreat
