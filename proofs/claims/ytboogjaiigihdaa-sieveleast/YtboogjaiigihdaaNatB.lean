/- Package nat: Word, Bit, Resize: what they answer, for any number. -/
import Derived.Test.YtboogjaiigihdaaBase4
import Derived.Test.YtboogjaiigihdaaBase1
namespace Go.Proofs.Ytboogjaiigihdaa
open Go.RowKit

set_option maxHeartbeats 400000 in
/-- Word. -/
theorem nWord (x : Nat) (hx : x < 18446744073709551616) (n : Int) (w : World) :
    Calls Try.prog 24 #[.int .u64 x, .int .i64 n] w fun r w' => ∃ v', r = .returned v' ∧ Row .u64 w' v' (digs 18446744073709551616 x (clampN n)) ∧ Kept Nought w w' := by
  obtain ⟨i0, hi0, hz0, hz1, hz2⟩ := info_parts Try.info31
  obtain ⟨m, hm⟩ : ∃ m, clampN n = m + 1 := ⟨clampN n - 1, by unfold clampN; omega⟩
  have hb : m + 1 ≤ 300 := by rw [← hm]; unfold clampN; omega
  have hc : min (max n 1) 300 = ((m + 1 : Nat) : Int) := by rw [← hm]; unfold clampN; omega
  rw [hm, word_digs x m hx]
  clear hm
  go_enter Try.func24, Try.ntmps24
  go_wp2_with (at_make; refine wpList_make_full _ rfl _ _ 27 rfl w.heap.size 31 i0 _ 1 Try.underlying27 hi0 hz0 hz1 _ _ _ _ (m + 1) rfl rfl (by first | exact hc | rfl) (by first | exact hc | rfl) (by rw [hz2]; omega) (by unfold maxLen; omega) (Nat.le_refl _) ?_; intro w1 ho1 hg1; rw [zeros_map] at ho1; have k1 := grown_kept hg1; have hc1 : w1.cell? ⟨w.heap.size, 0, none⟩ = some (.int .u64 0) := (by rw [World.ownsRow.cellAt ho1 0 (by omega)]; rfl); have hf := World.ownsRow.frozenAt ho1 0; have hst := (World.ownsRow.stored ho1 0 (.int .u64 (x : Nat))).1)
  go_ret
  refine ⟨_, rfl, Row.of_own (base := w.heap.size) (e := 31) ?_, k1.setCell _ (fun h => by simp at h) _⟩
  simpa [List.replicate_succ] using hst

theorem shr_bit (x j : Nat) : (x / 2 ^ j) % 2 = x / 2 ^ j % 2 := rfl

end Go.Proofs.Ytboogjaiigihdaa
