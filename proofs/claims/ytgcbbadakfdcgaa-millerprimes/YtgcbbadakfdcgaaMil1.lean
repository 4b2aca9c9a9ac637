/- Layer 17, of small numbers: how many bases the strong test says yes to. -/
import Derived.Test.YtgcbbadakfdcgaaStr1
namespace Go.Proofs.Ytgcbbadakfdcgaa
open Go.RowKit

/-- How many of the bases from 2 on, m of them, say yes. -/
def yesN (n : Nat) : Nat → Nat
  | 0 => 0
  | m + 1 => yesN n m + (if strongB n (m + 2) then 1 else 0)

/-- What MillerPrimes asks of n. -/
def milOk (n : Nat) : Bool := if PrimeN n then decide (yesN n (n - 3) = n - 3) else decide (4 * yesN n (n - 3) ≤ n - 1)

set_option maxRecDepth 100000 in
theorem mil0 : (List.range 50).all (fun i => milOk (2 * (i + 0) + 5)) = true := by decide +kernel

set_option maxRecDepth 100000 in
theorem mil1 : (List.range 50).all (fun i => milOk (2 * (i + 50) + 5)) = true := by decide +kernel

set_option maxRecDepth 100000 in
theorem mil2 : (List.range 50).all (fun i => milOk (2 * (i + 100) + 5)) = true := by decide +kernel

set_option maxRecDepth 100000 in
theorem mil3 : (List.range 50).all (fun i => milOk (2 * (i + 150) + 5)) = true := by decide +kernel

end Go.Proofs.Ytgcbbadakfdcgaa
