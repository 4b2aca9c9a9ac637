/- The plain side of layer 18 (package sconceref18): Good, Candidate. -/
import Derived.Test.YtiljkgoafknefaaGreatKey2
import Derived.Test.YtiljkgoafknefaaGreatBev1
namespace Go.Proofs.YtiljkgoafknefaaGreat
open Go.RowKit

/-- Whether X may be a prime for the exponent e. -/
def goodN (X e : Nat) : Prop := X ≠ 0 ∧ e ≠ 0 ∧ passN X ∧ Nat.gcd (X - 1) e = 1

/-- What Candidate answers of bytes that are as many as should be. -/
def candN (bs : List Nat) (n : Nat) : Nat := (bev bs % 2 ^ (n - 2) + (if bev bs % 2 ^ (n - 2) % 2 = 0 then 1 else 0)) + 3 * 2 ^ (n - 2)

def candE (bs : List Nat) (k : Int) : Nat := if k < 16 ∨ 4096 < k ∨ (bs.length : Int) ≠ (k + 7) / 8 then 1 else 0

end Go.Proofs.YtiljkgoafknefaaGreat
