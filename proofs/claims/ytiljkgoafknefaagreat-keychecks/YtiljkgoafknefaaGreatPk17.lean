/- Put together of: Pro3 PrF. -/
import Derived.Test.YtiljkgoafknefaaGreatPk1
import Derived.Test.YtiljkgoafknefaaGreatPk10
import Derived.Test.YtiljkgoafknefaaGreatPk13
import Derived.Test.YtiljkgoafknefaaGreatPk14
import Derived.Test.YtiljkgoafknefaaGreatPk15
import Derived.Test.YtiljkgoafknefaaGreatPk16
import Derived.BigRegion
import Derived.Deep.OwnRows
import Derived.StillTailTactics

/- Melted of: PrH BitA PrI PrJ. -/

/- Package product: bringDown, divideByBits. -/
namespace Go.Proofs.YtiljkgoafknefaaGreat
open Go.RowKit

end Go.Proofs.YtiljkgoafknefaaGreat

/- Division bit by bit: plain mathematics. -/
namespace Go.Proofs.YtiljkgoafknefaaGreat
open Go.RowKit

end Go.Proofs.YtiljkgoafknefaaGreat

/- Package product: divideByBits. -/
namespace Go.Proofs.YtiljkgoafknefaaGreat
open Go.RowKit

theorem made_map (n : Nat) : madeCells #[Value.int .u64 0] n = ((List.replicate n 0).map fun z : Nat => Value.int .u64 (z : Int)).toArray := by
  have := zeros_map .u64 n
  rw [Nat.mul_one] at this
  rw [← this]
  rfl

/-- Two rows of noughts, made one behind the other. -/
theorem two_made (w : World) (A B : Nat) (CA CB : Array Value) (hA : CA = madeCells #[.int .u64 0] A) (hB : CB = madeCells #[.int .u64 0] B) (lA : A ≤ 1000000) (lB : B ≤ 1000000) :
    OwnN .u64 24 ((w.alloc (.cells CA 24)).alloc (.cells CB 24)).drew w.heap.size (.slice (some ⟨w.heap.size, 0, none⟩) A A) A (List.replicate A 0) ∧ OwnN .u64 24 ((w.alloc (.cells CA 24)).alloc (.cells CB 24)).drew w.heap.size (.slice (some ⟨w.heap.size + 1, 0, none⟩) B B) B (List.replicate B 0) ∧ Kept Nought w ((w.alloc (.cells CA 24)).alloc (.cells CB 24)).drew := by
  subst hA hB
  rw [made_map, made_map]
  refine ⟨own_of_block (heapAt_drew (heapAt_alloc (heap_alloc_new _ _))) (by simp) (by unfold maxLen; omega) (Nat.le_refl _), own_of_block (heapAt_drew ?_) (by simp) (by unfold maxLen; omega) (by omega), (((Kept.refl Nought w).alloc _).alloc _).drew⟩
  have := heap_alloc_new (w.alloc (.cells ((List.replicate A 0).map fun z : Nat => Value.int .u64 (z : Int)).toArray 24)) (.cells ((List.replicate B 0).map fun z : Nat => Value.int .u64 (z : Int)).toArray 24)
  simpa using this

end Go.Proofs.YtiljkgoafknefaaGreat

/- Package product: what Divide attempts. -/
namespace Go.Proofs.YtiljkgoafknefaaGreat
open Go.RowKit

end Go.Proofs.YtiljkgoafknefaaGreat


/- Package product: Small. -/
namespace Go.Proofs.YtiljkgoafknefaaGreat
open Go.RowKit

theorem drop_consB {B : Nat} {zs : List Nat} {j : Nat} (h : j < zs.length) : val B (zs.drop j) = zs.getD j 0 + B * val B (zs.drop (j + 1)) := by
  rw [List.drop_eq_getElem_cons h, List.getD_eq_getElem?_getD, List.getElem?_eq_getElem h]
  rfl

end Go.Proofs.YtiljkgoafknefaaGreat

