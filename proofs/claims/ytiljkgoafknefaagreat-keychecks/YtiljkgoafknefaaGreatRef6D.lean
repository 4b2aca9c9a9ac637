/- The plain side of layer 6: Member. -/
import Derived.Test.YtiljkgoafknefaaGreatRef6m
import Derived.Deep.RegionWith
namespace Go.Proofs.YtiljkgoafknefaaGreat
open Go.RowKit

end Go.Proofs.YtiljkgoafknefaaGreat
