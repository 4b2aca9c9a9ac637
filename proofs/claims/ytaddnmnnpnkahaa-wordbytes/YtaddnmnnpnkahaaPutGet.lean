/- The bytes that are put are those that are read, and their number is the word; any word. -/
import Derived.Test.YtaddnmnnpnkahaaPut
import Derived.Test.YtaddnmnnpnkahaaGet
namespace Go.Proofs.Ytaddnmnnpnkahaa
open Go.RowKit

theorem putBytes_are (a : Int) : AreBytes (putBytes a) := by
  intro i
  match i with
  | 0 => simp [putBytes]; omega
  | 1 => simp [putBytes]; omega
  | 2 => simp [putBytes]; omega
  | 3 => simp [putBytes]; omega
  | 4 => simp [putBytes]; omega
  | 5 => simp [putBytes]; omega
  | 6 => simp [putBytes]; omega
  | 7 => simp [putBytes]; omega
  | n + 8 => simp [putBytes]

theorem getN_put (a : Int) (a0 : 0 ≤ a) (a1 : a < 18446744073709551616) : getN (putBytes a) 8 = a := by
  simp only [getN, putBytes, List.getD_eq_getElem?_getD, List.getElem?_cons_succ, List.getElem?_cons_zero, Option.getD_some]
  omega

theorem put_reads (a : Int) (w : World) (T : TypeId) : ReadsRow (w.alloc (.cells (putCells a 8) T)) (some ⟨w.heap.size, 0, none⟩) 8 (putBytes a) := by
  intro i hi
  refine ⟨w.heap.size, 0, rfl, ?_⟩
  have : i = 0 ∨ i = 1 ∨ i = 2 ∨ i = 3 ∨ i = 4 ∨ i = 5 ∨ i = 6 ∨ i = 7 := by omega
  rw [pc8]
  rcases this with rfl | rfl | rfl | rfl | rfl | rfl | rfl | rfl <;> simp [putBytes, go_sem]
end Go.Proofs.Ytaddnmnnpnkahaa
