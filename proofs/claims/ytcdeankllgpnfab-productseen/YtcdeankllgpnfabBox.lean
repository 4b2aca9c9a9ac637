/- A variable of its own in memory: what it holds, and what of it stays. -/
import Derived.Test.YtcdeankllgpnfabTra1
namespace Go.Proofs.Ytcdeankllgpnfab
open Go.RowKit

/-- Block b is one variable of type t that holds v. -/
def Box (w : World) (b : Nat) (v : Value) (t : TypeId) : Prop := w.heap[b]? = some (.cells #[v] t (0, 0))

theorem Box.cell {w : World} {b : Nat} {v : Value} {t : TypeId} (h : Box w b v t) : w.cell? ⟨b, 0, none⟩ = some v := by
  unfold Box at h
  simp [World.cell?, h]

theorem Box.free {w : World} {b : Nat} {v : Value} {t : TypeId} (h : Box w b v t) : w.frozen? ⟨b, 0, none⟩ = false := by
  unfold Box at h
  simp [World.frozen?, h]

theorem Box.lt {w : World} {b : Nat} {v : Value} {t : TypeId} (h : Box w b v t) : b < w.heap.size := lt_of_block h

theorem Box.new (w : World) (v : Value) (t : TypeId) : Box (w.alloc (.cells #[v] t)) w.heap.size v t := heap_alloc_new w _

theorem Box.kept {S : Nat → Prop} {w w' : World} {b : Nat} {v : Value} {t : TypeId} (h : Box w b v t) (k : Kept S w w') (hs : ¬ S b) : Box w' b v t := (k.block b h.lt hs).trans h

theorem Box.grew {w w' : World} {b : Nat} {v : Value} {t : TypeId} (h : Box w b v t) (k : Kept Nought w w') : Box w' b v t := h.kept k (fun f => f)

theorem Box.alloc {w : World} {b : Nat} {v : Value} {t : TypeId} (h : Box w b v t) (o : Obj) : Box (w.alloc o) b v t := heapAt_alloc h

theorem Box.drew {w : World} {b : Nat} {v : Value} {t : TypeId} (h : Box w b v t) : Box w.drew b v t := h

theorem Box.set {w : World} {b : Nat} {v : Value} {t : TypeId} (h : Box w b v t) (u : Value) : Box (w.setCell ⟨b, 0, none⟩ u) b u t := by
  have := heap_setCell_same w b 0 #[v] t u h
  simpa [Box] using this

theorem Box.other {w : World} {b : Nat} {v : Value} {t : TypeId} (h : Box w b v t) (a : Addr) (hne : b ≠ a.block) (u : Value) : Box (w.setCell a u) b v t := heapAt_set h hne u

theorem Box.did {w w' : World} {o o' : Tr} {m : List Ev} {b : Nat} {v : Value} {t : TypeId} (h : Box w b v t) (d : Did w o m w' o') (ht : TrIn w o) (h1 : t ≠ 50) (h2 : t ≠ 55) : Box w' b v t := h.kept d.kept (cells_apart h ht h1 h2)

theorem Box.apart {w : World} {o : Tr} {b : Nat} {v : Value} {t : TypeId} (h : Box w b v t) (ht : TrIn w o) (h1 : t ≠ 50) (h2 : t ≠ 55) : ¬ trFoot o b := cells_apart h ht h1 h2

theorem kept_box (w : World) (b : Nat) (u : Value) : Kept (fun x => x = b) w (w.setCell ⟨b, 0, none⟩ u) := (Kept.refl (fun x => x = b) w).setCell ⟨b, 0, none⟩ (fun _ => rfl) u

theorem boxes1 (w : World) (v1 : Value) (t1 : TypeId) : Kept Nought w (w.alloc (.cells #[v1] t1)) ∧ Box (w.alloc (.cells #[v1] t1)) w.heap.size v1 t1 ∧ (w.alloc (.cells #[v1] t1)).heap.size = w.heap.size + 1 := by
  exact ⟨(Kept.refl Nought w).alloc _, Box.new w _ _, by simp⟩

theorem boxes2 (w : World) (v1 v2 : Value) (t1 t2 : TypeId) : Kept Nought w ((w.alloc (.cells #[v1] t1)).alloc (.cells #[v2] t2)) ∧ Box ((w.alloc (.cells #[v1] t1)).alloc (.cells #[v2] t2)) w.heap.size v1 t1 ∧ Box ((w.alloc (.cells #[v1] t1)).alloc (.cells #[v2] t2)) (w.heap.size + 1) v2 t2 ∧ ((w.alloc (.cells #[v1] t1)).alloc (.cells #[v2] t2)).heap.size = w.heap.size + 1 + 1 := by
  obtain ⟨k0, b1, hs⟩ := boxes1 w v1 t1
  exact ⟨k0.alloc _, b1.alloc _, by rw [← hs]; exact Box.new _ _ _, by rw [← hs]; simp⟩

theorem boxes3 (w : World) (v1 v2 v3 : Value) (t1 t2 t3 : TypeId) : Kept Nought w (((w.alloc (.cells #[v1] t1)).alloc (.cells #[v2] t2)).alloc (.cells #[v3] t3)) ∧ Box (((w.alloc (.cells #[v1] t1)).alloc (.cells #[v2] t2)).alloc (.cells #[v3] t3)) w.heap.size v1 t1 ∧ Box (((w.alloc (.cells #[v1] t1)).alloc (.cells #[v2] t2)).alloc (.cells #[v3] t3)) (w.heap.size + 1) v2 t2 ∧ Box (((w.alloc (.cells #[v1] t1)).alloc (.cells #[v2] t2)).alloc (.cells #[v3] t3)) (w.heap.size + 1 + 1) v3 t3 ∧ (((w.alloc (.cells #[v1] t1)).alloc (.cells #[v2] t2)).alloc (.cells #[v3] t3)).heap.size = w.heap.size + 1 + 1 + 1 := by
  obtain ⟨k0, b1, b2, hs⟩ := boxes2 w v1 v2 t1 t2
  exact ⟨k0.alloc _, b1.alloc _, b2.alloc _, by rw [← hs]; exact Box.new _ _ _, by rw [← hs]; simp⟩

theorem boxes4 (w : World) (v1 v2 v3 v4 : Value) (t1 t2 t3 t4 : TypeId) : Kept Nought w ((((w.alloc (.cells #[v1] t1)).alloc (.cells #[v2] t2)).alloc (.cells #[v3] t3)).alloc (.cells #[v4] t4)) ∧ Box ((((w.alloc (.cells #[v1] t1)).alloc (.cells #[v2] t2)).alloc (.cells #[v3] t3)).alloc (.cells #[v4] t4)) w.heap.size v1 t1 ∧ Box ((((w.alloc (.cells #[v1] t1)).alloc (.cells #[v2] t2)).alloc (.cells #[v3] t3)).alloc (.cells #[v4] t4)) (w.heap.size + 1) v2 t2 ∧ Box ((((w.alloc (.cells #[v1] t1)).alloc (.cells #[v2] t2)).alloc (.cells #[v3] t3)).alloc (.cells #[v4] t4)) (w.heap.size + 1 + 1) v3 t3 ∧ Box ((((w.alloc (.cells #[v1] t1)).alloc (.cells #[v2] t2)).alloc (.cells #[v3] t3)).alloc (.cells #[v4] t4)) (w.heap.size + 1 + 1 + 1) v4 t4 ∧ ((((w.alloc (.cells #[v1] t1)).alloc (.cells #[v2] t2)).alloc (.cells #[v3] t3)).alloc (.cells #[v4] t4)).heap.size = w.heap.size + 1 + 1 + 1 + 1 := by
  obtain ⟨k0, b1, b2, b3, hs⟩ := boxes3 w v1 v2 v3 t1 t2 t3
  exact ⟨k0.alloc _, b1.alloc _, b2.alloc _, b3.alloc _, by rw [← hs]; exact Box.new _ _ _, by rw [← hs]; simp⟩

theorem boxes5 (w : World) (v1 v2 v3 v4 v5 : Value) (t1 t2 t3 t4 t5 : TypeId) : Kept Nought w (((((w.alloc (.cells #[v1] t1)).alloc (.cells #[v2] t2)).alloc (.cells #[v3] t3)).alloc (.cells #[v4] t4)).alloc (.cells #[v5] t5)) ∧ Box (((((w.alloc (.cells #[v1] t1)).alloc (.cells #[v2] t2)).alloc (.cells #[v3] t3)).alloc (.cells #[v4] t4)).alloc (.cells #[v5] t5)) w.heap.size v1 t1 ∧ Box (((((w.alloc (.cells #[v1] t1)).alloc (.cells #[v2] t2)).alloc (.cells #[v3] t3)).alloc (.cells #[v4] t4)).alloc (.cells #[v5] t5)) (w.heap.size + 1) v2 t2 ∧ Box (((((w.alloc (.cells #[v1] t1)).alloc (.cells #[v2] t2)).alloc (.cells #[v3] t3)).alloc (.cells #[v4] t4)).alloc (.cells #[v5] t5)) (w.heap.size + 1 + 1) v3 t3 ∧ Box (((((w.alloc (.cells #[v1] t1)).alloc (.cells #[v2] t2)).alloc (.cells #[v3] t3)).alloc (.cells #[v4] t4)).alloc (.cells #[v5] t5)) (w.heap.size + 1 + 1 + 1) v4 t4 ∧ Box (((((w.alloc (.cells #[v1] t1)).alloc (.cells #[v2] t2)).alloc (.cells #[v3] t3)).alloc (.cells #[v4] t4)).alloc (.cells #[v5] t5)) (w.heap.size + 1 + 1 + 1 + 1) v5 t5 ∧ (((((w.alloc (.cells #[v1] t1)).alloc (.cells #[v2] t2)).alloc (.cells #[v3] t3)).alloc (.cells #[v4] t4)).alloc (.cells #[v5] t5)).heap.size = w.heap.size + 1 + 1 + 1 + 1 + 1 := by
  obtain ⟨k0, b1, b2, b3, b4, hs⟩ := boxes4 w v1 v2 v3 v4 t1 t2 t3 t4
  exact ⟨k0.alloc _, b1.alloc _, b2.alloc _, b3.alloc _, b4.alloc _, by rw [← hs]; exact Box.new _ _ _, by rw [← hs]; simp⟩

theorem boxes6 (w : World) (v1 v2 v3 v4 v5 v6 : Value) (t1 t2 t3 t4 t5 t6 : TypeId) : Kept Nought w ((((((w.alloc (.cells #[v1] t1)).alloc (.cells #[v2] t2)).alloc (.cells #[v3] t3)).alloc (.cells #[v4] t4)).alloc (.cells #[v5] t5)).alloc (.cells #[v6] t6)) ∧ Box ((((((w.alloc (.cells #[v1] t1)).alloc (.cells #[v2] t2)).alloc (.cells #[v3] t3)).alloc (.cells #[v4] t4)).alloc (.cells #[v5] t5)).alloc (.cells #[v6] t6)) w.heap.size v1 t1 ∧ Box ((((((w.alloc (.cells #[v1] t1)).alloc (.cells #[v2] t2)).alloc (.cells #[v3] t3)).alloc (.cells #[v4] t4)).alloc (.cells #[v5] t5)).alloc (.cells #[v6] t6)) (w.heap.size + 1) v2 t2 ∧ Box ((((((w.alloc (.cells #[v1] t1)).alloc (.cells #[v2] t2)).alloc (.cells #[v3] t3)).alloc (.cells #[v4] t4)).alloc (.cells #[v5] t5)).alloc (.cells #[v6] t6)) (w.heap.size + 1 + 1) v3 t3 ∧ Box ((((((w.alloc (.cells #[v1] t1)).alloc (.cells #[v2] t2)).alloc (.cells #[v3] t3)).alloc (.cells #[v4] t4)).alloc (.cells #[v5] t5)).alloc (.cells #[v6] t6)) (w.heap.size + 1 + 1 + 1) v4 t4 ∧ Box ((((((w.alloc (.cells #[v1] t1)).alloc (.cells #[v2] t2)).alloc (.cells #[v3] t3)).alloc (.cells #[v4] t4)).alloc (.cells #[v5] t5)).alloc (.cells #[v6] t6)) (w.heap.size + 1 + 1 + 1 + 1) v5 t5 ∧ Box ((((((w.alloc (.cells #[v1] t1)).alloc (.cells #[v2] t2)).alloc (.cells #[v3] t3)).alloc (.cells #[v4] t4)).alloc (.cells #[v5] t5)).alloc (.cells #[v6] t6)) (w.heap.size + 1 + 1 + 1 + 1 + 1) v6 t6 ∧ ((((((w.alloc (.cells #[v1] t1)).alloc (.cells #[v2] t2)).alloc (.cells #[v3] t3)).alloc (.cells #[v4] t4)).alloc (.cells #[v5] t5)).alloc (.cells #[v6] t6)).heap.size = w.heap.size + 1 + 1 + 1 + 1 + 1 + 1 := by
  obtain ⟨k0, b1, b2, b3, b4, b5, hs⟩ := boxes5 w v1 v2 v3 v4 v5 t1 t2 t3 t4 t5
  exact ⟨k0.alloc _, b1.alloc _, b2.alloc _, b3.alloc _, b4.alloc _, b5.alloc _, by rw [← hs]; exact Box.new _ _ _, by rw [← hs]; simp⟩

end Go.Proofs.Ytcdeankllgpnfab
