/- The plain side of layer 11: Sum. -/
import Derived.Test.YtjnmnkoajcibhaaDoorSha5
namespace Go.Proofs.YtjnmnkoajcibhaaDoor
open Go.RowKit

end Go.Proofs.YtjnmnkoajcibhaaDoor
