/- Melted of: Att Box PrC PrD PrE. -/
import Derived.Test.YtamkkmifbajdfaaBase1
import Derived.Test.YtamkkmifbajdfaaTra1
import Derived.Test.YtamkkmifbajdfaaPro1
import Derived.Defers
import Derived.Recover

/- Package product: attempt, which answers the error with which what it does was refused; refuse, refuseLong. -/
namespace Go.Proofs.Ytamkkmifbajdfaa
open Go.RowKit

/-- The panic that refuse raises. -/
abbrev refusal (n : Int) : PanicEntry := { v := .iface 31 (.int .i64 n), recovered := false }

end Go.Proofs.Ytamkkmifbajdfaa

/- A variable of its own in memory: what it holds, and what of it stays. -/
namespace Go.Proofs.Ytamkkmifbajdfaa
open Go.RowKit

/-- Block b is one variable of type t that holds v. -/
def Box (w : World) (b : Nat) (v : Value) (t : TypeId) : Prop := w.heap[b]? = some (.cells #[v] t (0, 0))

theorem Box.cell {w : World} {b : Nat} {v : Value} {t : TypeId} (h : Box w b v t) : w.cell? ⟨b, 0, none⟩ = some v := by
  unfold Box at h
  simp [World.cell?, h]

theorem Box.free {w : World} {b : Nat} {v : Value} {t : TypeId} (h : Box w b v t) : w.frozen? ⟨b, 0, none⟩ = false := by
  unfold Box at h
  simp [World.frozen?, h]

theorem Box.lt {w : World} {b : Nat} {v : Value} {t : TypeId} (h : Box w b v t) : b < w.heap.size := lt_of_block h

theorem Box.new (w : World) (v : Value) (t : TypeId) : Box (w.alloc (.cells #[v] t)) w.heap.size v t := heap_alloc_new w _

theorem Box.kept {S : Nat → Prop} {w w' : World} {b : Nat} {v : Value} {t : TypeId} (h : Box w b v t) (k : Kept S w w') (hs : ¬ S b) : Box w' b v t := (k.block b h.lt hs).trans h

theorem Box.grew {w w' : World} {b : Nat} {v : Value} {t : TypeId} (h : Box w b v t) (k : Kept Nought w w') : Box w' b v t := h.kept k (fun f => f)

theorem Box.alloc {w : World} {b : Nat} {v : Value} {t : TypeId} (h : Box w b v t) (o : Obj) : Box (w.alloc o) b v t := heapAt_alloc h

theorem Box.drew {w : World} {b : Nat} {v : Value} {t : TypeId} (h : Box w b v t) : Box w.drew b v t := h

theorem Box.set {w : World} {b : Nat} {v : Value} {t : TypeId} (h : Box w b v t) (u : Value) : Box (w.setCell ⟨b, 0, none⟩ u) b u t := by
  have := heap_setCell_same w b 0 #[v] t u h
  simpa [Box] using this

theorem Box.other {w : World} {b : Nat} {v : Value} {t : TypeId} (h : Box w b v t) (a : Addr) (hne : b ≠ a.block) (u : Value) : Box (w.setCell a u) b v t := heapAt_set h hne u

theorem Box.did {w w' : World} {o o' : Tr} {m : List Ev} {b : Nat} {v : Value} {t : TypeId} (h : Box w b v t) (d : Did w o m w' o') (ht : TrIn w o) (h1 : t ≠ 60) (h2 : t ≠ 101) : Box w' b v t := h.kept d.kept (cells_apart h ht h1 h2)

theorem Box.apart {w : World} {o : Tr} {b : Nat} {v : Value} {t : TypeId} (h : Box w b v t) (ht : TrIn w o) (h1 : t ≠ 60) (h2 : t ≠ 101) : ¬ trFoot o b := cells_apart h ht h1 h2

theorem kept_box (w : World) (b : Nat) (u : Value) : Kept (fun x => x = b) w (w.setCell ⟨b, 0, none⟩ u) := (Kept.refl (fun x => x = b) w).setCell ⟨b, 0, none⟩ (fun _ => rfl) u

theorem boxes1 (w : World) (v1 : Value) (t1 : TypeId) : Kept Nought w (w.alloc (.cells #[v1] t1)) ∧ Box (w.alloc (.cells #[v1] t1)) w.heap.size v1 t1 ∧ (w.alloc (.cells #[v1] t1)).heap.size = w.heap.size + 1 := by
  exact ⟨(Kept.refl Nought w).alloc _, Box.new w _ _, by simp⟩

theorem boxes2 (w : World) (v1 v2 : Value) (t1 t2 : TypeId) : Kept Nought w ((w.alloc (.cells #[v1] t1)).alloc (.cells #[v2] t2)) ∧ Box ((w.alloc (.cells #[v1] t1)).alloc (.cells #[v2] t2)) w.heap.size v1 t1 ∧ Box ((w.alloc (.cells #[v1] t1)).alloc (.cells #[v2] t2)) (w.heap.size + 1) v2 t2 ∧ ((w.alloc (.cells #[v1] t1)).alloc (.cells #[v2] t2)).heap.size = w.heap.size + 1 + 1 := by
  obtain ⟨k0, b1, hs⟩ := boxes1 w v1 t1
  exact ⟨k0.alloc _, b1.alloc _, by rw [← hs]; exact Box.new _ _ _, by rw [← hs]; simp⟩

theorem boxes3 (w : World) (v1 v2 v3 : Value) (t1 t2 t3 : TypeId) : Kept Nought w (((w.alloc (.cells #[v1] t1)).alloc (.cells #[v2] t2)).alloc (.cells #[v3] t3)) ∧ Box (((w.alloc (.cells #[v1] t1)).alloc (.cells #[v2] t2)).alloc (.cells #[v3] t3)) w.heap.size v1 t1 ∧ Box (((w.alloc (.cells #[v1] t1)).alloc (.cells #[v2] t2)).alloc (.cells #[v3] t3)) (w.heap.size + 1) v2 t2 ∧ Box (((w.alloc (.cells #[v1] t1)).alloc (.cells #[v2] t2)).alloc (.cells #[v3] t3)) (w.heap.size + 1 + 1) v3 t3 ∧ (((w.alloc (.cells #[v1] t1)).alloc (.cells #[v2] t2)).alloc (.cells #[v3] t3)).heap.size = w.heap.size + 1 + 1 + 1 := by
  obtain ⟨k0, b1, b2, hs⟩ := boxes2 w v1 v2 t1 t2
  exact ⟨k0.alloc _, b1.alloc _, b2.alloc _, by rw [← hs]; exact Box.new _ _ _, by rw [← hs]; simp⟩

theorem boxes4 (w : World) (v1 v2 v3 v4 : Value) (t1 t2 t3 t4 : TypeId) : Kept Nought w ((((w.alloc (.cells #[v1] t1)).alloc (.cells #[v2] t2)).alloc (.cells #[v3] t3)).alloc (.cells #[v4] t4)) ∧ Box ((((w.alloc (.cells #[v1] t1)).alloc (.cells #[v2] t2)).alloc (.cells #[v3] t3)).alloc (.cells #[v4] t4)) w.heap.size v1 t1 ∧ Box ((((w.alloc (.cells #[v1] t1)).alloc (.cells #[v2] t2)).alloc (.cells #[v3] t3)).alloc (.cells #[v4] t4)) (w.heap.size + 1) v2 t2 ∧ Box ((((w.alloc (.cells #[v1] t1)).alloc (.cells #[v2] t2)).alloc (.cells #[v3] t3)).alloc (.cells #[v4] t4)) (w.heap.size + 1 + 1) v3 t3 ∧ Box ((((w.alloc (.cells #[v1] t1)).alloc (.cells #[v2] t2)).alloc (.cells #[v3] t3)).alloc (.cells #[v4] t4)) (w.heap.size + 1 + 1 + 1) v4 t4 ∧ ((((w.alloc (.cells #[v1] t1)).alloc (.cells #[v2] t2)).alloc (.cells #[v3] t3)).alloc (.cells #[v4] t4)).heap.size = w.heap.size + 1 + 1 + 1 + 1 := by
  obtain ⟨k0, b1, b2, b3, hs⟩ := boxes3 w v1 v2 v3 t1 t2 t3
  exact ⟨k0.alloc _, b1.alloc _, b2.alloc _, b3.alloc _, by rw [← hs]; exact Box.new _ _ _, by rw [← hs]; simp⟩

theorem boxes5 (w : World) (v1 v2 v3 v4 v5 : Value) (t1 t2 t3 t4 t5 : TypeId) : Kept Nought w (((((w.alloc (.cells #[v1] t1)).alloc (.cells #[v2] t2)).alloc (.cells #[v3] t3)).alloc (.cells #[v4] t4)).alloc (.cells #[v5] t5)) ∧ Box (((((w.alloc (.cells #[v1] t1)).alloc (.cells #[v2] t2)).alloc (.cells #[v3] t3)).alloc (.cells #[v4] t4)).alloc (.cells #[v5] t5)) w.heap.size v1 t1 ∧ Box (((((w.alloc (.cells #[v1] t1)).alloc (.cells #[v2] t2)).alloc (.cells #[v3] t3)).alloc (.cells #[v4] t4)).alloc (.cells #[v5] t5)) (w.heap.size + 1) v2 t2 ∧ Box (((((w.alloc (.cells #[v1] t1)).alloc (.cells #[v2] t2)).alloc (.cells #[v3] t3)).alloc (.cells #[v4] t4)).alloc (.cells #[v5] t5)) (w.heap.size + 1 + 1) v3 t3 ∧ Box (((((w.alloc (.cells #[v1] t1)).alloc (.cells #[v2] t2)).alloc (.cells #[v3] t3)).alloc (.cells #[v4] t4)).alloc (.cells #[v5] t5)) (w.heap.size + 1 + 1 + 1) v4 t4 ∧ Box (((((w.alloc (.cells #[v1] t1)).alloc (.cells #[v2] t2)).alloc (.cells #[v3] t3)).alloc (.cells #[v4] t4)).alloc (.cells #[v5] t5)) (w.heap.size + 1 + 1 + 1 + 1) v5 t5 ∧ (((((w.alloc (.cells #[v1] t1)).alloc (.cells #[v2] t2)).alloc (.cells #[v3] t3)).alloc (.cells #[v4] t4)).alloc (.cells #[v5] t5)).heap.size = w.heap.size + 1 + 1 + 1 + 1 + 1 := by
  obtain ⟨k0, b1, b2, b3, b4, hs⟩ := boxes4 w v1 v2 v3 v4 t1 t2 t3 t4
  exact ⟨k0.alloc _, b1.alloc _, b2.alloc _, b3.alloc _, b4.alloc _, by rw [← hs]; exact Box.new _ _ _, by rw [← hs]; simp⟩

theorem boxes6 (w : World) (v1 v2 v3 v4 v5 v6 : Value) (t1 t2 t3 t4 t5 t6 : TypeId) : Kept Nought w ((((((w.alloc (.cells #[v1] t1)).alloc (.cells #[v2] t2)).alloc (.cells #[v3] t3)).alloc (.cells #[v4] t4)).alloc (.cells #[v5] t5)).alloc (.cells #[v6] t6)) ∧ Box ((((((w.alloc (.cells #[v1] t1)).alloc (.cells #[v2] t2)).alloc (.cells #[v3] t3)).alloc (.cells #[v4] t4)).alloc (.cells #[v5] t5)).alloc (.cells #[v6] t6)) w.heap.size v1 t1 ∧ Box ((((((w.alloc (.cells #[v1] t1)).alloc (.cells #[v2] t2)).alloc (.cells #[v3] t3)).alloc (.cells #[v4] t4)).alloc (.cells #[v5] t5)).alloc (.cells #[v6] t6)) (w.heap.size + 1) v2 t2 ∧ Box ((((((w.alloc (.cells #[v1] t1)).alloc (.cells #[v2] t2)).alloc (.cells #[v3] t3)).alloc (.cells #[v4] t4)).alloc (.cells #[v5] t5)).alloc (.cells #[v6] t6)) (w.heap.size + 1 + 1) v3 t3 ∧ Box ((((((w.alloc (.cells #[v1] t1)).alloc (.cells #[v2] t2)).alloc (.cells #[v3] t3)).alloc (.cells #[v4] t4)).alloc (.cells #[v5] t5)).alloc (.cells #[v6] t6)) (w.heap.size + 1 + 1 + 1) v4 t4 ∧ Box ((((((w.alloc (.cells #[v1] t1)).alloc (.cells #[v2] t2)).alloc (.cells #[v3] t3)).alloc (.cells #[v4] t4)).alloc (.cells #[v5] t5)).alloc (.cells #[v6] t6)) (w.heap.size + 1 + 1 + 1 + 1) v5 t5 ∧ Box ((((((w.alloc (.cells #[v1] t1)).alloc (.cells #[v2] t2)).alloc (.cells #[v3] t3)).alloc (.cells #[v4] t4)).alloc (.cells #[v5] t5)).alloc (.cells #[v6] t6)) (w.heap.size + 1 + 1 + 1 + 1 + 1) v6 t6 ∧ ((((((w.alloc (.cells #[v1] t1)).alloc (.cells #[v2] t2)).alloc (.cells #[v3] t3)).alloc (.cells #[v4] t4)).alloc (.cells #[v5] t5)).alloc (.cells #[v6] t6)).heap.size = w.heap.size + 1 + 1 + 1 + 1 + 1 + 1 := by
  obtain ⟨k0, b1, b2, b3, b4, b5, hs⟩ := boxes5 w v1 v2 v3 v4 v5 t1 t2 t3 t4 t5
  exact ⟨k0.alloc _, b1.alloc _, b2.alloc _, b3.alloc _, b4.alloc _, b5.alloc _, by rw [← hs]; exact Box.new _ _ _, by rw [← hs]; simp⟩

end Go.Proofs.Ytamkkmifbajdfaa

/- Package product: Mul. -/
namespace Go.Proofs.Ytamkkmifbajdfaa
open Go.RowKit

theorem trPtr_shape (o : Tr) : ∃ po, trPtr o = .pointer po := by
  cases o with
  | none => exact ⟨_, rfl⟩
  | some x => exact ⟨_, rfl⟩

/-- What Mul answers. -/
def mulAns (X Y L M : Nat) : List Nat := if L ≤ 300 ∧ M ≤ 300 then digs 18446744073709551616 (X * Y) (L + M) else []

def mulEvs (L M : Nat) : List Ev := if L ≤ 300 ∧ M ≤ 300 then List.replicate L (1, ((M : Nat) : Int), 0) else []

end Go.Proofs.Ytamkkmifbajdfaa

/- Package product: extended, MulWord. -/
namespace Go.Proofs.Ytamkkmifbajdfaa
open Go.RowKit

/-- What MulWord answers. -/
def mwAns (X W Y L M : Nat) : List Nat := if L ≤ 300 ∧ M ≤ 300 then digs 18446744073709551616 (Y + X * W) (max L M) else []

def mwTop (X W Y L M : Nat) : Nat := if L ≤ 300 ∧ M ≤ 300 then (Y + X * W) / 18446744073709551616 ^ max L M else 0

def mwEvs (L M : Nat) : List Ev := if L ≤ 300 ∧ M ≤ 300 then [(1, ((max L M : Nat) : Int), 0)] else []

theorem val_fill {ys : List Nat} (n : Nat) : val 18446744073709551616 (ys ++ List.replicate n 0) = val 18446744073709551616 ys := by
  rw [val_append, val_zeros _ (fun d hd => (List.mem_replicate.1 hd).2), Nat.mul_zero, Nat.add_zero]

theorem own_row' {w : World} {base n : Nat} {v : Value} {zs : List Nat} (h : OwnN .u64 27 w base v n zs) (hl : zs.length = n) : Row .u64 w v zs :=
  Row.of_own (base := base) (e := 27) (by rw [hl]; exact h)

theorem digs_fill {ys : List Nat} (h : Digs 18446744073709551616 ys) (n : Nat) : Digs 18446744073709551616 (ys ++ List.replicate n 0) := h.append (fun d hd => by rw [(List.mem_replicate.1 hd).2]; omega)

end Go.Proofs.Ytamkkmifbajdfaa

/- Package product: MulWord. -/
namespace Go.Proofs.Ytamkkmifbajdfaa
open Go.RowKit

/-- What was written into new blocks that are no part of the trace. -/
theorem Did.wroteSome {S : Nat → Prop} {w w' w2 : World} {o o' : Tr} {m : List Ev} (d : Did w o m w' o') (k : Kept S w' w2) (hS : ∀ b, S b → w.heap.size ≤ b ∧ ¬ trFoot o' b) : Did w o m w2 o' := by
  refine ⟨d.1.next k (fun x hx e => by have := (hS x e).1; omega), ?_⟩
  rcases d.2 with h1 | ⟨p, g, l, g', e1, e2, ht, hg⟩
  · exact .inl h1
  · subst e2
    exact .inr ⟨p, g, l, g', e1, rfl, ht.kept k (fun e => (hS p e).2 (.inl rfl)) (fun x hx e => (hS x e).2 (.inr hx)), hg⟩

theorem foot_lt {w : World} {o : Tr} (ht : TrIn w o) {b : Nat} (hf : trFoot o b) : b < w.heap.size := ht.foot b hf

end Go.Proofs.Ytamkkmifbajdfaa
