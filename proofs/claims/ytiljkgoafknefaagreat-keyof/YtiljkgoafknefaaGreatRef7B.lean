/- The plain side of layer 7: sums, differences, products. -/
import Derived.Test.YtiljkgoafknefaaGreatRef7A
namespace Go.Proofs.YtiljkgoafknefaaGreat
open Go.RowKit

/-- A difference modulo V, of numbers below V. -/
def subM (x y V : Nat) : Nat := if y ≤ x then x - y else x + V - y

theorem dlen_add (A B n : Nat) (hA : dlen A ≤ n) (hB : dlen B ≤ n) : dlen (A + B) ≤ n + 1 := by
  have h1 := (dlen_le A n).1 hA
  have h2 := (dlen_le B n).1 hB
  rw [dlen_le, Nat.pow_succ]
  omega

end Go.Proofs.YtiljkgoafknefaaGreat
