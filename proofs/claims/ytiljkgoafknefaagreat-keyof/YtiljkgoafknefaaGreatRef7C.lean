/- The plain side of layer 7: rests, halves, what comes to 0 with a number. -/
import Derived.Test.YtiljkgoafknefaaGreatRef7B
namespace Go.Proofs.YtiljkgoafknefaaGreat
open Go.RowKit

/-- A half modulo V. -/
def halfM (x V : Nat) : Nat := (if x % 2 = 1 then x + V else x) / 2

end Go.Proofs.YtiljkgoafknefaaGreat
