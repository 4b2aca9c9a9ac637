/- An array of numbers in memory. -/
import Derived.Test.YthnkganmccgaeaaDoorBase1
namespace Go.Proofs.YthnkganmccgaeaaDoor
open Go.RowKit

/-- Block b is an array that holds the numbers zs. -/
def Arr (k : IntKind) (t : TypeId) (w : World) (b : Nat) (zs : List Nat) : Prop := w.heap[b]? = some (.cells (zs.map fun z => Value.int k (z : Nat)).toArray t (0, 0))

theorem Arr.cell {k : IntKind} {t : TypeId} {w : World} {b : Nat} {zs : List Nat} (h : Arr k t w b zs) (i : Nat) (hi : i < zs.length) : w.cell? ⟨b, i, none⟩ = some (.int k (zs.getD i 0 : Nat)) := by
  rw [cell_of_row w b i _ _ _ h]
  simp [List.getElem?_eq_getElem hi]

theorem Arr.free {k : IntKind} {t : TypeId} {w : World} {b : Nat} {zs : List Nat} (h : Arr k t w b zs) (i : Nat) : w.frozen? ⟨b, i, none⟩ = false := by
  unfold Arr at h
  simp [World.frozen?, h]

theorem Arr.set {k : IntKind} {t : TypeId} {w : World} {b : Nat} {zs : List Nat} (h : Arr k t w b zs) (i z : Nat) : Arr k t (w.setCell ⟨b, i, none⟩ (.int k (z : Nat))) b (zs.set i z) := by
  have := heap_setCell_same w b i _ t (.int k (z : Nat)) h
  unfold Arr
  rw [this, List.map_set]
  simp

theorem Arr.kept {S : Nat → Prop} {k : IntKind} {t : TypeId} {w w' : World} {b : Nat} {zs : List Nat} (h : Arr k t w b zs) (kk : Kept S w w') (hs : ¬ S b) : Arr k t w' b zs := (kk.block b (lt_of_block h) hs).trans h

theorem Arr.grew {k : IntKind} {t : TypeId} {w w' : World} {b : Nat} {zs : List Nat} (h : Arr k t w b zs) (kk : Kept Nought w w') : Arr k t w' b zs := h.kept kk (fun f => f)

theorem Arr.other {k : IntKind} {t : TypeId} {w : World} {b : Nat} {zs : List Nat} (h : Arr k t w b zs) (a : Addr) (hne : b ≠ a.block) (u : Value) : Arr k t (w.setCell a u) b zs := heapAt_set h hne u

end Go.Proofs.YthnkganmccgaeaaDoor
