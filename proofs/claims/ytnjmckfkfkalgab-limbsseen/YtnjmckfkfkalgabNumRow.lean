/- A slice of numbers, read: what its cells hold; the plain numbers' trim, digit, Words. -/
import Derived.Test.YtnjmckfkfkalgabKept
import Derived.Test.YtnjmckfkfkalgabNums
import Derived.Lib.MinMax
import Derived.Deep.QuietTactic
import Derived.BigQuiet
namespace Go.Proofs.Ytnjmckfkfkalgab
open Go.RowKit

/-- The slice v holds the numbers zs, of kind k. -/
def Row (k : IntKind) (w : World) (v : Value) (zs : List Nat) : Prop :=
  ∃ ao cap, v = .slice ao zs.length cap ∧ zs.length ≤ cap ∧ cap ≤ maxLen ∧ (ao = none → cap = 0) ∧ ∀ i, i < zs.length → ∃ b off, ao = some ⟨b, off, none⟩ ∧ w.cell? ⟨b, off + i, none⟩ = some (.int k (zs.getD i 0 : Nat))

/-- Number i of a slice that lies at ao. -/
def NumAt (k : IntKind) (w : World) (ao : Option Addr) (zs : List Nat) (i : Nat) : Prop :=
  ∃ b off, ao = some ⟨b, off, none⟩ ∧ w.cell? ⟨b, off + i, none⟩ = some (.int k (zs.getD i 0 : Nat))

theorem Row.open {k : IntKind} {w : World} {v : Value} {zs : List Nat} (h : Row k w v zs) :
    ∃ ao n cap, v = .slice ao n cap ∧ Hid (zs.length = n) ∧ n ≤ cap ∧ cap ≤ 9223372036854775807 ∧ (ao = none → cap = 0) ∧ ∀ i, i < n → NumAt k w ao zs i := by
  obtain ⟨ao, cap, rfl, h1, h2, h3, h4⟩ := h
  exact ⟨ao, _, cap, rfl, rfl, h1, by unfold maxLen at h2; omega, h3, h4⟩

theorem Row.nil (k : IntKind) (w : World) : Row k w (.slice none 0 0) [] := ⟨none, 0, rfl, Nat.le_refl _, by unfold maxLen; omega, fun _ => rfl, fun i hi => absurd hi (by simp)⟩

theorem NumAt.kept {S : Nat → Prop} {k : IntKind} {w w' : World} {ao : Option Addr} {zs : List Nat} {i : Nat} (h : NumAt k w ao zs i) (hk : Kept S w w') (hs : ∀ a, ao = some a → ¬ S a.block) : NumAt k w' ao zs i := by
  obtain ⟨b, off, rfl, hc⟩ := h
  have hb : b < w.heap.size := World.block_lt_of_cell? w _ hc
  exact ⟨b, off, rfl, (World.cell?_of_block (a := ⟨b, off + i, none⟩) (hk.block b hb (hs _ rfl))).trans hc⟩

theorem NumAt.grew {k : IntKind} {w w' : World} {ao : Option Addr} {zs : List Nat} {i : Nat} (h : NumAt k w ao zs i) (hk : Kept Nought w w') : NumAt k w' ao zs i := h.kept hk (fun _ _ f => f)

theorem Row.kept {S : Nat → Prop} {k : IntKind} {w w' : World} {v : Value} {zs : List Nat} (h : Row k w v zs) (hk : Kept S w w') (hs : ∀ b, v.ownBlock = some b → ¬ S b) : Row k w' v zs := by
  obtain ⟨ao, cap, rfl, h1, h2, h3, h4⟩ := h
  exact ⟨ao, cap, rfl, h1, h2, h3, fun i hi => NumAt.kept (h4 i hi) hk (fun a ha => hs _ (by subst ha; rfl))⟩

theorem Row.grew {k : IntKind} {w w' : World} {v : Value} {zs : List Nat} (h : Row k w v zs) (hk : Kept Nought w w') : Row k w' v zs := h.kept hk (fun _ _ f => f)

/-- What the call itself has made is read so. -/
theorem Row.of_own {k : IntKind} {w : World} {base : Nat} {e : TypeId} {v : Value} {zs : List Nat} (h : w.ownsRow base e 1 v zs.length (zs.map fun z => .int k (z : Nat))) : Row k w v zs := by
  rcases h.2 with ⟨rfl, h0⟩ | ⟨g, cap, cur, rfl, _, hg, hnc, hm, _, _⟩
  · obtain rfl : zs = [] := List.eq_nil_of_length_eq_zero h0
    exact Row.nil k w
  · refine ⟨_, _, rfl, hnc, hm, (fun e => by cases e), fun i hi => ⟨g, 0, rfl, ?_⟩⟩
    rw [Nat.zero_add, World.ownsRow.cellAt h i (by omega), List.getElem?_map, List.getElem?_eq_getElem hi, List.getD_eq_getElem?_getD, List.getElem?_eq_getElem hi]
    rfl

/-- The first m of them. -/
theorem Row.cut {k : IntKind} {w : World} {ao : Option Addr} {n cap m : Nat} {zs : List Nat} (h : Row k w (.slice ao n cap) zs) (hm : m ≤ zs.length) : Row k w (.slice ao m cap) (zs.take m) := by
  obtain ⟨ao', cap', e, h1, h2, h3, h4⟩ := h
  simp only [Value.slice.injEq] at e
  obtain ⟨rfl, _, rfl⟩ := e
  have hl : (zs.take m).length = m := by rw [List.length_take]; omega
  refine ⟨ao, cap, by rw [hl], by omega, h2, h3, fun i hi => ?_⟩
  rw [hl] at hi
  obtain ⟨b, off, e, hc⟩ := h4 i (by omega)
  refine ⟨b, off, e, ?_⟩
  rw [hc, List.getD_eq_getElem?_getD, List.getD_eq_getElem?_getD, List.getElem?_take, if_pos hi]

theorem own_len (ao : Option Addr) (n m cap : Nat) : (Value.slice ao n cap).ownBlock = (Value.slice ao m cap).ownBlock := by cases ao <;> rfl

/-- How long a slice is. -/
def lenV : Value → Nat
  | .slice _ n _ => n
  | _ => 0

end Go.Proofs.Ytnjmckfkfkalgab
