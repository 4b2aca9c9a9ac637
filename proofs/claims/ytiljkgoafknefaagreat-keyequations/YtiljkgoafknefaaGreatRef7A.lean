/- The plain side of layer 7 (package sconceref07): Members. -/
import Derived.Test.YtiljkgoafknefaaGreatRef6o
namespace Go.Proofs.YtiljkgoafknefaaGreat
open Go.RowKit

end Go.Proofs.YtiljkgoafknefaaGreat
