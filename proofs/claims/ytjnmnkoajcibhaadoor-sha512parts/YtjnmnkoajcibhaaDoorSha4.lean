/- The plain side of layer 11: Pad. -/
import Derived.Test.YtjnmnkoajcibhaaDoorSha2
import Derived.Test.YtjnmnkoajcibhaaDoorByt1
namespace Go.Proofs.YtjnmnkoajcibhaaDoor
open Go.RowKit

/-- How many noughts a padding has. -/
def padZ (n : Nat) : Nat := (119 - n % 64) % 64

/-- The length's bytes, the first j. -/
def padL (n j : Nat) : List Nat := (List.range j).map fun i => 8 * n % 18446744073709551616 / 2 ^ (56 - 8 * i) % 256

/-- What stands behind n bytes. -/
def padN (n : Nat) : List Nat := ([128] ++ List.replicate (padZ n) 0) ++ padL n 8

theorem padL_succ (n j : Nat) : padL n (j + 1) = padL n j ++ [8 * n % 18446744073709551616 / 2 ^ (56 - 8 * j) % 256] := by
  unfold padL
  rw [List.range_succ, List.map_append]
  rfl

end Go.Proofs.YtjnmnkoajcibhaaDoor
