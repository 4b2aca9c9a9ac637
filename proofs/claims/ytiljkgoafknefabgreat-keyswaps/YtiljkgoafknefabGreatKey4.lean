/- The plain side of layer 19 (package sconceref18): Same. -/
import Derived.Test.YtiljkgoafknefabGreatKey3
namespace Go.Proofs.YtiljkgoafknefabGreat
open Go.RowKit

theorem cells8 {W : World} {p : Nat} {a b c d e f g h : Value} {t : TypeId} (hh : W.heap[p]? = some (.cells #[a, b, c, d, e, f, g, h] t (0, 0))) :
    W.cell? ⟨p, 0, none⟩ = some a ∧ W.cell? ⟨p, 1, none⟩ = some b ∧ W.cell? ⟨p, 2, none⟩ = some c ∧ W.cell? ⟨p, 3, none⟩ = some d ∧ W.cell? ⟨p, 4, none⟩ = some e ∧ W.cell? ⟨p, 5, none⟩ = some f ∧ W.cell? ⟨p, 6, none⟩ = some g ∧ W.cell? ⟨p, 7, none⟩ = some h := by
  simp [World.cell?, hh]

end Go.Proofs.YtiljkgoafknefabGreat
