/- What a range over a function asks of memory (Rnd1: a drawn region in a round). -/
import Derived.Test.YtegjdjfnpphipaaRnd1
import Derived.RangeFuncNested
import Derived.RangeFuncBound
import Derived.RangeFuncCalls
import Derived.RangeFuncLeaves
import Derived.RangeFuncBox
import Derived.Shelf.Abstract
import Derived.Shelf.RegionOpen
import Derived.OwnWalkIn
import Derived.TacticsInMore
import Derived.LoopNIn
import Derived.LoopIn
import Derived.Deep.RegionHeld3

/- What a range over a function asks of memory: blocks that lie as they lay; numbers and variables while the loop's own books are turned. -/
namespace Go.Proofs.Ytegjdjfnpphipaa
open Go.RowKit Go.Shelf

/-- The blocks of S lie as they lay. -/
def KeepB (S : Nat → Prop) (W W' : World) : Prop := ∀ k, S k → W'.heap[k]? = W.heap[k]?

theorem KeepB.refl (S : Nat → Prop) (W : World) : KeepB S W W := fun _ _ => rfl

theorem KeepB.trans {S : Nat → Prop} {A B C : World} (h : KeepB S A B) (k : KeepB S B C) : KeepB S A C := fun i hi => (k i hi).trans (h i hi)

theorem KeepB.put {S : Nat → Prop} {w : World} (hS : ∀ k, S k → k < w.heap.size) (W : World) (l : Nat) (o o' : Obj) (hl : w.heap.size ≤ l) (_ : W.heap[l]? = some o) (_ : o.isCells = false) (_ : o.isWalk = false) : KeepB S W (W.putObj l o') := fun k hk =>
  World.putObj_heap_other (fun e => by have := hS k hk; omega)

theorem KeepB.cell {S : Nat → Prop} {W W' : World} (h : KeepB S W W') {p : Addr} (hp : S p.block) : W'.cell? p = W.cell? p := World.cell?_of_block (h p.block hp)

theorem KeepB.row {S : Nat → Prop} {k : IntKind} {W W' : World} {v : Value} {zs : List Nat} (h : KeepB S W W') (hs : ∀ b, v.ownBlock = some b → 0 < zs.length → S b) (hr : Row k W v zs) : Row k W' v zs := by
  obtain ⟨ao, cap, rfl, h1, h2, h3, h4⟩ := hr
  refine ⟨ao, cap, rfl, h1, h2, h3, fun i hi => ?_⟩
  obtain ⟨b, off, rfl, hc⟩ := h4 i hi
  exact ⟨b, off, rfl, (h.cell (p := ⟨b, off + i, none⟩) (hs b rfl (by omega))).trans hc⟩

theorem cellA {W : World} {a : Addr} {v : Value} (o : Obj) (h : W.cell? a = some v) : (W.alloc o).cell? a = some v := cell_kept h (World.grownBy_alloc W o none) (fun r e => by cases e)

theorem frozenA {W : World} {a : Addr} {v : Value} (o : Obj) (h : W.cell? a = some v) (hf : W.frozen? a = false) : (W.alloc o).frozen? a = false := (frozen_kept h (World.grownBy_alloc W o none) (fun r e => by cases e)).trans hf

/-- What the loop's own books are when they are turned: a new block, or one that is no variable's. -/
def Turn (B : Nat) (W W' : World) : Prop := ∃ row, W.grownBy W' row ∧ ∀ r, row = some r → B ≤ r ∧ ∃ o : Obj, W.heap[r]? = some o ∧ o.isCells = false

/-- A row of the call's own stands while blocks turn that are no rows. -/
theorem own_turn {W W' : World} {row : Option Nat} {base size n : Nat} {e : TypeId} {v : Value} {xs : List Value} (h : W.ownsRow base e size v n xs) (hg : W.grownBy W' row) (hr : ∀ r, row = some r → ∃ o : Obj, W.heap[r]? = some o ∧ o.isCells = false) : W'.ownsRow base e size v n xs := by
  refine ⟨h.1, ?_⟩
  rcases h.2 with h1 | ⟨g, cap, cur, e1, hb, hblk, h4⟩
  · exact .inl h1
  · refine .inr ⟨g, cap, cur, e1, hb, ?_, h4⟩
    rw [hg.block g (Array.getElem?_eq_some_iff.1 hblk).1 ?_]
    · exact hblk
    · intro e
      obtain ⟨o, ho, hc⟩ := hr g e.symm
      rw [hblk] at ho
      cases ho
      cases hc

theorem boxed_turn {W W' : World} {row : Option Nat} {B : Nat} {t : TypeId} {v : Value} (h : Boxed W B t v) (hg : W.grownBy W' row) (hr : ∀ r, row = some r → ∃ o : Obj, W.heap[r]? = some o ∧ o.isCells = false) : Boxed W' B t v := h.kept hg (fun e => by
  obtain ⟨o, ho, hc⟩ := hr B e.symm
  have hb : W.heap[B]? = some _ := h
  rw [hb] at ho
  cases ho
  cases hc)

theorem Turn.cells {B : Nat} {W W' : World} (t : Turn B W W') {b : Nat} {c : Array Value} {ty : TypeId} {f : Nat × Nat} (h : W.heap[b]? = some (.cells c ty f)) : W'.heap[b]? = some (.cells c ty f) := by
  obtain ⟨row, hg, hr⟩ := t
  rw [hg.block b (Array.getElem?_eq_some_iff.1 h).1 ?_]
  · exact h
  · intro e
    obtain ⟨_, o, ho, hc⟩ := hr b e.symm
    rw [h] at ho
    cases ho
    cases hc

theorem Turn.kept {B : Nat} {S : Nat → Prop} {w W W' : World} (t : Turn B W W') (k : Kept S w W) (hB : w.heap.size ≤ B) : Kept S w W' := by
  obtain ⟨row, hg, hr⟩ := t
  exact k.grown hg (fun b e hb => by have := (hr b e).1; omega)

theorem Turn.own {B : Nat} {W W' : World} (t : Turn B W W') {base size n : Nat} {e : TypeId} {v : Value} {xs : List Value} (h : W.ownsRow base e size v n xs) : W'.ownsRow base e size v n xs := by
  obtain ⟨row, hg, hr⟩ := t
  exact own_turn h hg (fun r e => (hr r e).2)

theorem Turn.cell {B : Nat} {W W' : World} (t : Turn B W W') {a : Addr} {v : Value} (h : W.cell? a = some v) : W'.cell? a = some v := by
  obtain ⟨row, hg, hr⟩ := t
  exact cell_kept h hg (fun r e => (hr r e).2)

theorem Turn.row {B : Nat} {W W' : World} (t : Turn B W W') {k : IntKind} {v : Value} {zs : List Nat} (h : Row k W v zs) : Row k W' v zs := by
  obtain ⟨ao, cap, rfl, h1, h2, h3, h4⟩ := h
  refine ⟨ao, cap, rfl, h1, h2, h3, fun i hi => ?_⟩
  obtain ⟨b, off, rfl, hc⟩ := h4 i hi
  exact ⟨b, off, rfl, t.cell hc⟩

/-- The end of a loop turns the book of its deferred calls. -/
theorem turn_put {B D : Nat} {W : World} {o : Obj} (hD : B ≤ D) (hK : W.heap[D]? = some o) (ho : o.isCells = false) (o' : Obj) : Turn B W (W.putObj D o') :=
  ⟨some D, grownBy_putObj' W D o', fun r e => by cases e; exact ⟨hD, o, hK, ho⟩⟩

/-- What holds through every turn is what a range over a function asks of what stands between its rounds. -/
theorem ownFrom_turn {β : Type} {B : Nat} {I : β → World → Prop} (h : ∀ s W W', I s W → Turn B W W' → I s W') : OwnFrom B I := fun s W W' row hs hg hr => h s W W' hs ⟨row, hg, hr⟩

/-- What is seen of a call keeps whatever is no variable's. -/
theorem keepsFrom_kept {B : Nat} {S : Nat → Prop} {W W' : World} (k : Kept S W W') (hS : ∀ b, S b → B ≤ b → ∃ c ty f, W.heap[b]? = some (.cells c ty f)) : KeepsFrom B W W' :=
  ⟨k.size, fun b o hb hk ho => by
    rw [← hk]
    refine k.block b (Array.getElem?_eq_some_iff.1 hk).1 (fun hs => ?_)
    obtain ⟨c, ty, f, h⟩ := hS b hs hb
    rw [h] at hk
    cases hk
    cases ho⟩

end Go.Proofs.Ytegjdjfnpphipaa
