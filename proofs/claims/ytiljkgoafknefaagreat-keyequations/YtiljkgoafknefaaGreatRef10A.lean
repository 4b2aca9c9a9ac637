/- The plain side of layer 10 (package sconceref10): how many steps; greatest divisors. -/
import Derived.Test.YtiljkgoafknefaaGreatRef5A
import Derived.Test.YtiljkgoafknefaaGreatBigM
namespace Go.Proofs.YtiljkgoafknefaaGreat
open Go.RowKit

/-- So many bits, within the bound. -/
def stepBits (b : Int) : Int := min (max b 1) 8320

def stepsN (b : Int) : Int := if stepBits b < 46 then (49 * stepBits b + 80) / 17 else (49 * stepBits b + 57) / 17

end Go.Proofs.YtiljkgoafknefaaGreat
