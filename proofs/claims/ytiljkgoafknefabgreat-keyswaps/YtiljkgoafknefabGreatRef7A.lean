/- The plain side of layer 7 (package sconceref07): Members. -/
import Derived.Test.YtiljkgoafknefabGreatRef6o
namespace Go.Proofs.YtiljkgoafknefabGreat
open Go.RowKit

end Go.Proofs.YtiljkgoafknefabGreat
