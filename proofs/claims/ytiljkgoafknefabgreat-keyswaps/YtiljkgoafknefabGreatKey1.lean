/- The plain side of layers 18 and 19 (package sconceref18): one, Size, Good, Common. -/
import Derived.Test.YtiljkgoafknefabGreatPrm2
import Derived.Test.YtiljkgoafknefabGreatBase3
namespace Go.Proofs.YtiljkgoafknefabGreat
open Go.RowKit

theorem blen_b {w : World} {v : Value} {V : Nat} (h : IsBig w v V) : blen V ≤ 100000000000 := by
  obtain ⟨ds, _, hd, _, rfl, hl⟩ := h
  have h1 := val_lt (B := 4294967296) (by omega) hd
  have h2 : blen (val 4294967296 ds) ≤ 32 * ds.length := (blen_le _ _).2 (by rw [Nat.pow_mul]; exact h1)
  omega

/-- How many bytes a number needs. -/
def sizeN (X : Nat) : Nat := (blen X + 7) / 8

/-- What Common answers. -/
def comE (P Q L M : Nat) : Nat := if 130 < L ∨ 130 < M then 2 else if P < 2 ∨ Q < 2 then 1 else 0

/-- The least number that both less 1 divide. -/
def comN (P Q : Nat) : Nat := (P - 1) / Nat.gcd (P - 1) (Q - 1) * (Q - 1)

end Go.Proofs.YtiljkgoafknefabGreat
