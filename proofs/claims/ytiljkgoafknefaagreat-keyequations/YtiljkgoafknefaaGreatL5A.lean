/- The laws' small functions of layer 5: Few, huge; the chapter's examples. -/
import Derived.Test.YtiljkgoafknefaaGreatLim1
namespace Go.Proofs.YtiljkgoafknefaaGreat
open Go.RowKit

end Go.Proofs.YtiljkgoafknefaaGreat
