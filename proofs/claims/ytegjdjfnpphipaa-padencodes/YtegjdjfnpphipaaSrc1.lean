/- What a copy of a row reads. -/
import Derived.Test.YtegjdjfnpphipaaByt1
namespace Go.Proofs.Ytegjdjfnpphipaa
open Go.RowKit

/-- What a copy reads. -/
theorem row_src {k : IntKind} {w W : World} {ao : Option Addr} {n cap : Nat} {zs : List Nat} (h : Row k w (.slice ao n cap) zs) (kk : Kept Nought w W) (hp : 0 < (zs.map fun z : Nat => Value.int k (z : Int)).length) : ∃ ad, ao = some ad ∧ ∀ j u, (zs.map fun z : Nat => Value.int k (z : Int))[j]? = some u → W.cell? (ad.add j) = some u := by
  rw [List.length_map] at hp
  obtain ⟨ao', n', cap', e, hL, _, _, _, hn⟩ := h.open
  cases e
  obtain ⟨b, off, rfl, _⟩ := hn 0 (by have := hL.out; omega)
  exact ⟨_, rfl, news_row h kk⟩

end Go.Proofs.Ytegjdjfnpphipaa
