/- The law NatBack, walked: whatever the number. -/
import Derived.Test.YtcdpmiheeenmmaaDoorNatT
namespace Go.Proofs.YtcdpmiheeenmmaaDoor
open Go.RowKit Go.Shelf

theorem bev_bes (V n : Nat) : ∀ i, i ≤ n → bev (bes V n i) = V / 256 ^ (n - i) % 256 ^ i
  | 0, _ => by simp [bes, bev, Nat.mod_one]
  | i + 1, h => by
    unfold bes
    rw [bev_snoc, bev_bes V n i (by omega)]
    unfold dig
    rw [show n - i = (n - 1 - i) + 1 by omega, show n - (i + 1) = n - 1 - i by omega, Nat.pow_succ 256 (n - 1 - i), ← Nat.div_div_eq_div_mul]
    generalize V / 256 ^ (n - 1 - i) = A
    rw [Nat.pow_succ, Nat.mul_comm (256 ^ i), Nat.mod_mul]
    omega

theorem hex_back (d : Nat) (h : d < 16) : isHex (hexSign d) = true ∧ hexOf (hexSign d) = d := by
  have : d = 0 ∨ d = 1 ∨ d = 2 ∨ d = 3 ∨ d = 4 ∨ d = 5 ∨ d = 6 ∨ d = 7 ∨ d = 8 ∨ d = 9 ∨ d = 10 ∨ d = 11 ∨ d = 12 ∨ d = 13 ∨ d = 14 ∨ d = 15 := by omega
  rcases this with rfl | rfl | rfl | rfl | rfl | rfl | rfl | rfl | rfl | rfl | rfl | rfl | rfl | rfl | rfl | rfl <;> decide

theorem hexTop_all (V n : Nat) : ∀ i, (hexTop V n i).all isHex = true
  | 0 => rfl
  | i + 1 => by
    unfold hexTop
    rw [List.all_append, hexTop_all V n i]
    simpa using (hex_back (dig 16 V (n - 1 - i)) (Nat.mod_lt _ (by omega))).1

theorem hexNum_top (V n : Nat) : ∀ i, i ≤ n → hexNum (hexTop V n i) = V / 16 ^ (n - i) % 16 ^ i
  | 0, _ => by simp [hexTop, hexNum, Nat.mod_one]
  | i + 1, h => by
    unfold hexTop
    rw [hexNum_snoc, hexNum_top V n i (by omega), (hex_back (dig 16 V (n - 1 - i)) (Nat.mod_lt _ (by omega))).2]
    unfold dig
    rw [show n - i = (n - 1 - i) + 1 by omega, show n - (i + 1) = n - 1 - i by omega, Nat.pow_succ 16 (n - 1 - i), ← Nat.div_div_eq_div_mul]
    generalize V / 16 ^ (n - 1 - i) = A
    rw [Nat.pow_succ, Nat.mul_comm (16 ^ i), Nat.mod_mul]
    omega

/-- A number's text is read again. -/
theorem show_parse (V : Nat) (hbl : blen V ≤ 19200) : parseOk ⟨(showL V).toArray⟩ = true ∧ hexNum ((⟨(showL V).toArray⟩ : ByteArray).toList.drop 2) = V := by
  by_cases h0 : V = 0
  · subst h0
    rw [show_zero]
    decide +kernel
  · obtain ⟨N, hN⟩ : ∃ N, N = (blen V + 3) / 4 := ⟨_, rfl⟩
    have hs := show_pos h0 hN
    have hN0 : N ≠ 0 := fun e => h0 ((digits_none hN).1 e)
    have hlt : V < 16 ^ N := by
      have h1 : blen V ≤ 4 * N := by omega
      have := (blen_le V _).1 h1
      rwa [show (2 : Nat) ^ (4 * N) = 16 ^ N by rw [Nat.pow_mul]] at this
    have hge : 16 ^ (N - 1) ≤ V := by
      have h1 : ¬ blen V ≤ 4 * (N - 1) := by omega
      have := mt (blen_le V (4 * (N - 1))).2 h1
      rw [show (2 : Nat) ^ (4 * (N - 1)) = 16 ^ (N - 1) by rw [Nat.pow_mul]] at this
      omega
    have hl : (⟨(showL V).toArray⟩ : ByteArray).data.toList = 48 :: 120 :: hexTop V N N := by rw [hs]; rfl
    obtain ⟨e1, e2⟩ := parse_split hl
    rw [e1, e2]
    have hlen := hexTop_length V N N
    refine ⟨?_, ?_⟩
    · rw [hexTop_all, Bool.and_true]
      have hsz : (⟨(hexTop V N N).toArray⟩ : ByteArray).size = N := by simp [ByteArray.size, hlen]
      refine decide_eq_true ⟨by rw [hsz]; exact hN0, by rw [hsz]; omega, .inr ?_⟩
      have hg := hexTop_get V N N 0 (by omega)
      show (hexTop V N N).getD 0 0 ≠ 48
      rw [List.getD_eq_getElem?_getD, hg, Option.getD_some]
      have hd : dig 16 V (N - 1 - 0) = V / 16 ^ (N - 1) % 16 := rfl
      have hq1 : 1 ≤ V / 16 ^ (N - 1) := (Nat.le_div_iff_mul_le (Nat.pow_pos (by omega))).2 (by omega)
      have hq2 : V / 16 ^ (N - 1) < 16 := (Nat.div_lt_iff_lt_mul (Nat.pow_pos (by omega))).2 (by
        rw [← Nat.pow_succ', show (N - 1).succ = N by omega]; exact hlt)
      rw [hd, Nat.mod_eq_of_lt hq2]
      generalize V / 16 ^ (N - 1) = d at *
      intro e
      have h1 := hexSign_val d hq2
      rw [e] at h1
      have h2 : (48 : UInt8).toNat = 48 := rfl
      split at h1 <;> omega
    · rw [hexNum_top V N N (Nat.le_refl _), Nat.sub_self, Nat.pow_zero, Nat.div_one, Nat.mod_eq_of_lt hlt]

set_option maxRecDepth 20000 in
set_option maxHeartbeats 2000000 in
theorem walkNatBack (v : Value) (xs : List Nat) (w : World) (h : Row .u64 w v xs) (hd : Digs 18446744073709551616 xs) (hT : Tab w) :
    Calls Tryd.prog 8 #[v] w fun e w' => e = .returned (.bool true) ∧ Below w.heap.size w w' := by
  have hA := nAwake w hT
  obtain ⟨ao, L, cap, rfl, hL, _, _, _, _⟩ := h.open
  by_cases h0 : L = 0
  · subst h0
    clear h
    go_enter Tryd.func8, Tryd.ntmps8
    go_wp2_with fail
    refine hA.mono ?_
    rintro e w1 ⟨rfl, k1⟩
    go_wp2_with fail
    go_ret
    exact ⟨rfl, below_kept k1 (Nat.le_refl _)⟩
  · have h0' : ¬ (L : Int) = 0 := by omega
    by_cases h3 : 300 < L
    · have h3' : (L : Int) > 300 := by omega
      clear h
      go_enter Tryd.func8, Tryd.ntmps8
      go_wp2_with fail
      refine hA.mono ?_
      rintro e w1 ⟨rfl, k1⟩
      go_wp2_with fail
      go_ret
      exact ⟨rfl, below_kept k1 (Nat.le_refl _)⟩
    · have h3' : ¬ (L : Int) > 300 := by omega
      have hb0 : ((L : Int) == 0) = false := by simpa using h0'
      have hb3 : decide ((300 : Int) < (L : Int)) = false := decide_eq_false (by omega)
      obtain ⟨V, hV⟩ : ∃ V, V = val 18446744073709551616 xs := ⟨_, rfl⟩
      have hVL : V < 18446744073709551616 ^ L := by rw [hV, ← hL.out]; exact val_lt (by omega) hd
      have hwN : wordsN V ≤ L := (wordsN_le V L).2 hVL
      have hb8 : blen V ≤ 64 * L := (blen_le V _).2 (by rwa [show (18446744073709551616 : Nat) ^ L = 2 ^ (64 * L) by rw [Nat.pow_mul]] at hVL)
      have hB := fun W (k : Kept Nought w W) => nBytes _ xs ((8 * L : Nat) : Int) W (h.grew k) hd (by have := hL.out; omega)
      rw [← hV, hL.out, (byt_ok (V := V) (len := L) (n := 8 * L) (by omega) (by omega) (by omega)).1, (byt_ok (V := V) (len := L) (n := 8 * L) (by omega) (by omega) (by omega)).2] at hB
      have hbev : bev (bes V (8 * L) (8 * L)) = V := by
        rw [bev_bes V (8 * L) (8 * L) (Nat.le_refl _), Nat.sub_self, Nat.pow_zero, Nat.div_one, Nat.mod_eq_of_lt]
        rwa [show (256 : Nat) ^ (8 * L) = 18446744073709551616 ^ L by rw [Nat.pow_mul]]
      have hO := fun v2 W (hr : Row .u8 W v2 (bes V (8 * L) (8 * L))) => nOf v2 _ (L : Int) W hr (bes_digs V _ _)
      rw [hbev, (res_ok (V := V) (n := L) (by omega) hwN).1, (res_ok (V := V) (n := L) (by omega) hwN).2] at hO
      have hxs : digs 18446744073709551616 V L = xs := (digs_val (by omega) hd hL.out (by rw [← hV, Nat.mod_eq_of_lt hVL])).symm
      rw [hxs] at hO
      have hS := fun W (k : Kept Nought w W) => nShow _ xs W (h.grew k) hd (by have := hL.out; omega) (hT.grew k)
      rw [← hV] at hS
      obtain ⟨p1, p2⟩ := show_parse V (by omega)
      obtain ⟨tx, htx⟩ : ∃ tx : ByteArray, tx = ⟨(showL V).toArray⟩ := ⟨_, rfl⟩
      rw [← htx] at hS p1 p2
      have htsz : tx.size ≤ 1000000 := by
        have h1 : tx.size = (showL V).length := by rw [htx]; simp [ByteArray.size]
        have h2 : (showL V).length ≤ 2 + (blen V + 3) / 4 + 1 := by
          unfold showL
          split
          · simp
          · rw [List.length_append, hexTop_length]; simp
        omega
      have hP := fun W => nParse tx true (digs 18446744073709551616 V (max (wordsN V) 1)) W htsz (fun e => by rw [p1] at e; cases e) (fun _ => ⟨rfl, by rw [p2]⟩)
      have hC := fun v2 W (k : Kept Nought w W) (hr : Row .u64 W v2 (digs 18446744073709551616 V (max (wordsN V) 1))) => nCompare _ v2 xs _ W (h.grew k) hr hd (digs_digs (by omega) V _)
      have hvd : val 18446744073709551616 (digs 18446744073709551616 V (max (wordsN V) 1)) = V := by
        rw [val_digs, Nat.mod_eq_of_lt]
        exact (wordsN_le V _).1 (by omega)
      rw [← hV, hvd, cmpN_eq rfl] at hC
      have hrow := fun W (k : Kept Nought w W) => h.grew k
      have h8 : ((8 * L : Nat) : Int) = 8 * (L : Int) := by omega
      rw [h8] at hB
      clear p1 p2 htx htsz hvd hxs hbev hb8 hwN hVL hV h h8
      generalize digs 18446744073709551616 V (max (wordsN V) 1) = ZR at *
      generalize bes V (8 * L) (8 * L) = BR at *
      go_enter Tryd.func8, Tryd.ntmps8
      go_wp2_with fail
      refine hA.mono ?_
      rintro e w1 ⟨rfl, k1⟩
      clear hA
      go_wp2_with fail
      refine (hB w1 k1).mono ?_
      rintro e w2 ⟨v2, rfl, hr2, k2⟩
      have k2' := k1.trans k2
      clear hB k1 k2
      go_wp2_with fail
      refine (hO v2 w2 hr2).mono ?_
      rintro e w3 ⟨v3, rfl, hr3, k3⟩
      have k3' := k2'.trans k3
      clear hO hr2 k2' k3
      go_wp2_with fail
      refine (hS w3 k3').mono ?_
      rintro e w4 ⟨rfl, k4⟩
      have k4' := k3'.trans k4
      have hr3a := hr3.grew k4
      clear hS k3' k4 hr3
      go_wp2_with fail
      refine (hP w4).mono ?_
      rintro e w5 ⟨v5, rfl, hr5, k5⟩
      have k5' := k4'.trans k5
      have hSm := rSame _ v3 xs xs w5 (hrow w5 k5') (hr3a.grew k5)
      rw [decide_eq_true rfl] at hSm
      clear hP k4' k5 hr3a
      go_wp2_with fail
      refine hSm.mono ?_
      rintro e w6 ⟨rfl, m, rfl⟩
      have k6 := k5'.drewN m
      have hr5a := hr5.grew ((Kept.refl Nought w5).drewN m)
      have hCm := hC v5 _ k6 hr5a
      clear hC hSm k5' hr5 hr5a hrow
      go_wp2_with fail
      refine hCm.mono ?_
      rintro e w7 ⟨rfl, k7⟩
      go_wp2_with fail
      go_ret
      exact ⟨rfl, below_kept (k6.trans k7) (Nat.le_refl _)⟩

end Go.Proofs.YtcdpmiheeenmmaaDoor
