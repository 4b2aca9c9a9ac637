/- The plain side of layers 18 and 19 (package sconceref18): Public, Good. -/
import Derived.Test.YtiljkgoafknefabGreatKey1
namespace Go.Proofs.YtiljkgoafknefabGreat
open Go.RowKit

/-- What Public answers. -/
def pubE (xs : List Nat) (e : Nat) : Nat :=
  if xs.length = 0 ∨ 1000 < xs.length ∨ xs.getD (xs.length - 1) 0 = 0 ∨ val 18446744073709551616 xs % 2 = 0 ∨ blen (val 18446744073709551616 xs) < 32 ∨ 8192 < blen (val 18446744073709551616 xs) ∨ e < 3 ∨ e % 2 = 0 ∨ 4294967296 ≤ e then 190 else 0

end Go.Proofs.YtiljkgoafknefabGreat
