/- A trace and a row of events that grow side by side; a slice of events that came in. -/
import Derived.Test.YticofdgmgmckbaaTAwake
namespace Go.Proofs.Yticofdgmgmckbaa
open Go.RowKit

/-- Since w0: the trace at p has the events l (in block g), the row 'all' the events m; nothing else of what there was has turned. -/
structure Acc (w0 wr : World) (p : Nat) (g : Option Nat) (l : List Ev) (all : Value) (m : List Ev) : Prop where
  tr : TrIn wr (some (p, g, l))
  row : EvRow wr all m
  gnew : ∀ x, g = some x → w0.heap.size ≤ x
  anew : ∀ x, all.ownBlock = some x → w0.heap.size ≤ x
  apart : ∀ x, g = some x → all.ownBlock ≠ some x
  kept : Kept (fun k => k = p ∨ w0.heap.size ≤ k) w0 wr

theorem Acc.start {w0 : World} {p : Nat} (h : TrIn w0 (some (p, none, []))) : Acc w0 w0 p none [] (.slice none 0 0) [] :=
  ⟨h, EvRow.nil _, fun _ e => (by cases e), fun _ e => (by cases e), fun _ e => (by cases e), Kept.refl _ _⟩

theorem Acc.grew {w0 wr w2 : World} {p : Nat} {g : Option Nat} {l m : List Ev} {all : Value} (h : Acc w0 wr p g l all m) (k : Kept Nought wr w2) : Acc w0 w2 p g l all m :=
  ⟨h.tr.grew k, h.row.grew k, h.gnew, h.anew, h.apart, h.kept.trans k.any⟩

theorem Acc.wrote {w0 wr w2 : World} {p : Nat} {g : Option Nat} {l m e : List Ev} {all : Value} (h : Acc w0 wr p g l all m) (hw : Wrote wr e w2 (some (p, g, l))) (hb : (l ++ e).length < 1000000000000) :
    ∃ g', Acc w0 w2 p g' (l ++ e) all m := by
  obtain ⟨k, g', t', hg⟩ := hw.tr hb
  have hne : all.ownBlock ≠ some p := h.tr.1.apart h.row
  have hrow : EvRow w2 all m := h.row.kept k fun x hx hs => by
    rcases hs with rfl | hs
    · exact hne hx
    · exact h.apart x hs hx
  have hsz := h.kept.size
  refine ⟨g', t', hrow, fun x hx => ?_, h.anew, fun x hx => ?_, h.kept.next k (fun x hx hs => ?_)⟩
  · rcases hg with rfl | ⟨y, rfl, hy⟩
    · exact h.gnew x hx
    · cases hx; omega
  · rcases hg with rfl | ⟨y, rfl, hy⟩
    · exact h.apart x hx
    · cases hx
      intro e
      have := h.row.lt _ e
      omega
  · rcases hs with hs | hs
    · exact .inl hs
    · exact .inr (h.gnew x hs)

theorem Acc.app {w0 wr w2 : World} {p gg n c : Nat} {g : Option Nat} {l m m' : List Ev} {all : Value} (h : Acc w0 wr p g l all m) (hgrow : wr.grownBy w2 all.ownBlock) (hr : EvRow w2 (.slice (some ⟨gg, 0, none⟩) n c) m') (hat : all.ownBlock = some gg ∨ gg = wr.heap.size) :
    Acc w0 w2 p g l (.slice (some ⟨gg, 0, none⟩) n c) m' := by
  have hne : all.ownBlock ≠ some p := h.tr.1.apart h.row
  have hk : Kept (fun k => all.ownBlock = some k) wr w2 := (Kept.refl _ wr).grown hgrow (fun k hk _ => hk)
  have hsz := h.kept.size
  have hgg : w0.heap.size ≤ gg := by
    rcases hat with hat | hat
    · exact h.anew _ hat
    · omega
  refine ⟨⟨h.tr.1.kept hk hne fun x hx => h.apart x hx, h.tr.2⟩, hr, h.gnew, fun x hx => ?_, fun x hx e => ?_, h.kept.next hk (fun x _ hs => .inr (h.anew x hs))⟩
  · simp only [Value.ownBlock, Option.some.injEq] at hx
    omega
  · simp only [Value.ownBlock, Option.some.injEq] at e
    subst e
    rcases hat with hat | hat
    · exact h.apart _ hx hat
    · have := (h.tr.1.lt.2 _ hx).1
      omega

/-- A slice of events that came in. -/
def ArgEvs (w : World) (v : Value) (l : List Ev) : Prop :=
  ∃ ao cap, v = .slice ao l.length cap ∧ ∀ k, k < l.length → ∃ b off x y z, ao = some ⟨b, off, none⟩ ∧ w.cell? ⟨b, off + k * 3, none⟩ = some (.int .i64 x) ∧ w.cell? ⟨b, off + k * 3 + 1, none⟩ = some (.int .i64 y) ∧ w.cell? ⟨b, off + k * 3 + 2, none⟩ = some (.int .i64 z) ∧ Hid (l[k]? = some (x, y, z))

theorem ArgEvs.kept {S : Nat → Prop} {w w' : World} {v : Value} {l : List Ev} (h : ArgEvs w v l) (hk : Kept S w w') (hs : ∀ k, k < w.heap.size → ¬ S k) : ArgEvs w' v l := by
  obtain ⟨ao, cap, rfl, hA⟩ := h
  refine ⟨ao, cap, rfl, fun k hk' => ?_⟩
  obtain ⟨b, off, x, y, z, rfl, c0, c1, c2, h3⟩ := hA k hk'
  have hb : b < w.heap.size := World.block_lt_of_cell? w _ c0
  have hc : ∀ j, w'.cell? ⟨b, j, none⟩ = w.cell? ⟨b, j, none⟩ := fun j => World.cell?_of_block (a := ⟨b, j, none⟩) (hk.block b hb (hs b hb))
  exact ⟨b, off, x, y, z, rfl, (hc _).trans c0, (hc _).trans c1, (hc _).trans c2, h3⟩

/-- Event number k of a slice that came in, in a later world. -/
def ArgAt (w : World) (ao : Option Addr) (l : List Ev) (k : Nat) : Prop :=
  ∃ b off x y z, ao = some ⟨b, off, none⟩ ∧ w.cell? ⟨b, off + k * 3, none⟩ = some (.int .i64 x) ∧ w.cell? ⟨b, off + k * 3 + 1, none⟩ = some (.int .i64 y) ∧ w.cell? ⟨b, off + k * 3 + 2, none⟩ = some (.int .i64 z) ∧ Hid (l[k]? = some (x, y, z))

theorem ArgEvs.open {w : World} {v : Value} {l : List Ev} (h : ArgEvs w v l) :
    ∃ ao n cap, v = .slice ao n cap ∧ Hid (l.length = n) ∧ ∀ (S : Nat → Prop) (w' : World), Kept S w w' → (∀ k, k < w.heap.size → ¬ S k) → ∀ k, k < n → ArgAt w' ao l k := by
  obtain ⟨ao, cap, rfl, hA⟩ := h
  refine ⟨ao, l.length, cap, rfl, rfl, fun S w' hk hs k hk' => ?_⟩
  obtain ⟨b, off, x, y, z, rfl, c0, c1, c2, h3⟩ := hA k hk'
  have hb : b < w.heap.size := World.block_lt_of_cell? w _ c0
  have hc : ∀ j, w'.cell? ⟨b, j, none⟩ = w.cell? ⟨b, j, none⟩ := fun j => World.cell?_of_block (a := ⟨b, j, none⟩) (hk.block b hb (hs b hb))
  exact ⟨b, off, x, y, z, rfl, (hc _).trans c0, (hc _).trans c1, (hc _).trans c2, h3⟩

theorem take_map_succ {l : List Ev} {k : Nat} {e : Ev} (f : Ev → Ev) (h : l[k]? = some e) : (l.take (k + 1)).map f = (l.take k).map f ++ [f e] := by
  rw [List.take_add_one, h]; simp

end Go.Proofs.Yticofdgmgmckbaa
