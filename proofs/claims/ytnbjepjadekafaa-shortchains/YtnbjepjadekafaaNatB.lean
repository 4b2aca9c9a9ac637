/- Package nat: Word, Bit, Resize: what they answer, for any number. -/
import Derived.Test.YtnbjepjadekafaaBase4
import Derived.Test.YtnbjepjadekafaaBase1
namespace Go.Proofs.Ytnbjepjadekafaa
open Go.RowKit

set_option maxHeartbeats 400000 in
/-- Word. -/
theorem nWord (x : Nat) (hx : x < 18446744073709551616) (n : Int) (w : World) :
    Calls Try.prog 18 #[.int .u64 x, .int .i64 n] w fun r w' => ∃ v', r = .returned v' ∧ Row .u64 w' v' (digs 18446744073709551616 x (clampN n)) ∧ Kept Nought w w' := by
  obtain ⟨i0, hi0, hz0, hz1, hz2⟩ := info_parts Try.info24
  obtain ⟨m, hm⟩ : ∃ m, clampN n = m + 1 := ⟨clampN n - 1, by unfold clampN; omega⟩
  have hb : m + 1 ≤ 300 := by rw [← hm]; unfold clampN; omega
  have hc : min (max n 1) 300 = ((m + 1 : Nat) : Int) := by rw [← hm]; unfold clampN; omega
  rw [hm, word_digs x m hx]
  clear hm
  go_enter Try.func18, Try.ntmps18
  go_wp2_with (at_make; refine wpList_make_full _ rfl _ _ 23 rfl w.heap.size 24 i0 _ 1 Try.underlying23 hi0 hz0 hz1 _ _ _ _ (m + 1) rfl rfl (by first | exact hc | rfl) (by first | exact hc | rfl) (by rw [hz2]; omega) (by unfold maxLen; omega) (Nat.le_refl _) ?_; intro w1 ho1 hg1; rw [zeros_map] at ho1; have k1 := grown_kept hg1; have hc1 : w1.cell? ⟨w.heap.size, 0, none⟩ = some (.int .u64 0) := (by rw [World.ownsRow.cellAt ho1 0 (by omega)]; rfl); have hf := World.ownsRow.frozenAt ho1 0; have hst := (World.ownsRow.stored ho1 0 (.int .u64 (x : Nat))).1)
  go_ret
  refine ⟨_, rfl, Row.of_own (base := w.heap.size) (e := 24) ?_, k1.setCell _ (fun h => by simp at h) _⟩
  simpa [List.replicate_succ] using hst

theorem shr_bit (x j : Nat) : (x / 2 ^ j) % 2 = x / 2 ^ j % 2 := rfl

set_option maxHeartbeats 800000 in
/-- Bit. -/
theorem nBit (v : Value) (xs : List Nat) (i : Int) (w : World) (h : Row .u64 w v xs) (hd : Digs 18446744073709551616 xs) (hi : i ≤ 9223372036854775807) :
    Calls Try.prog 59 #[v, .int .i64 i] w fun r w' => r = .returned (.int .u64 (bitN (val 18446744073709551616 xs) i : Nat)) ∧ w' = w := by
  obtain ⟨ao, n, cap, rfl, hL, h1, h2, h3, h4⟩ := h.open
  by_cases hi0 : i < 0
  · rw [show bitN (val 18446744073709551616 xs) i = 0 from if_pos hi0]
    clear h4 h hd
    go_enter Try.func59, Try.ntmps59
    go_wp2
    go_ret
    exact ⟨rfl, rfl⟩
  · obtain ⟨j, rfl⟩ := Int.eq_ofNat_of_zero_le (show 0 ≤ i by omega)
    rw [bitN_nat, ← bit_dig64, dig_val (by omega) hd]
    by_cases hlt : j / 64 < n
    · obtain ⟨b, off, rfl, hc⟩ := h4 (j / 64) hlt
      have hx : xs.getD (j / 64) 0 < 18446744073709551616 := hd.getD (by omega) _
      clear h4 h hd
      generalize xs.getD (j / 64) 0 = x at *
      have g1 : (j : Int) / 64 < (n : Int) := by omega
      have g2 : (0 : Int) ≤ (j : Int) / 64 := by omega
      have g3 : ((j : Int) / 64).toNat = j / 64 := by omega
      have hy := Nat.div_le_self x (2 ^ (j % 64))
      have hand : Hid (bits .and .u64 ((x : Int) / 2 ^ (j % 64)) 1 = ((x / 2 ^ (j % 64) % 2 : Nat) : Int)) := by
        unfold Hid
        have e : (x : Int) / 2 ^ (j % 64) = ((x / 2 ^ (j % 64) : Nat) : Int) := by simp
        rw [e]
        generalize x / 2 ^ (j % 64) = Y at *
        rw [and_one_u64 (Y : Int) (by omega) (by omega)]
        omega
      clear hy
      generalize x / 2 ^ (j % 64) % 2 = R at *
      go_enter Try.func59, Try.ntmps59
      go_wp2
      go_ret
      refine ⟨?_, rfl⟩
      show Ending.returned (Value.int .u64 (bits .and .u64 ((x : Int) / 2 ^ (j % 64)) 1)) = _
      rw [hand.out]
    · have hz : xs.getD (j / 64) 0 = 0 := by have := hL.out; rw [List.getD_eq_getElem?_getD, List.getElem?_eq_none (by omega)]; rfl
      rw [hz, Nat.zero_div]
      have g1 : ¬ (j : Int) / 64 < (n : Int) := by omega
      clear h4 h hd
      go_enter Try.func59, Try.ntmps59
      go_wp2
      go_ret
      exact ⟨rfl, rfl⟩

end Go.Proofs.Ytnbjepjadekafaa
