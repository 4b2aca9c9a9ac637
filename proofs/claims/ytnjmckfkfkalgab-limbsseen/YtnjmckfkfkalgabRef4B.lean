/- The plain side of layer 4: differences, tests, choices. -/
import Derived.Test.YtnjmckfkfkalgabRef4A
namespace Go.Proofs.Ytnjmckfkfkalgab
open Go.RowKit

/-- What is left, modulo 2^(64 n). -/
def subN (A B n : Nat) : Nat := if A < B then A + 2 ^ (64 * n) - B else A - B

end Go.Proofs.Ytnjmckfkfkalgab
