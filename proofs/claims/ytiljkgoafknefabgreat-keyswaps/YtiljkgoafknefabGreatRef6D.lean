/- The plain side of layer 6: Member. -/
import Derived.Test.YtiljkgoafknefabGreatRef6m
import Derived.Deep.RegionWith
namespace Go.Proofs.YtiljkgoafknefabGreat
open Go.RowKit

end Go.Proofs.YtiljkgoafknefabGreat
