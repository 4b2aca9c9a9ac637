/- The laws' small functions of layer 5: Few, huge; the chapter's examples. -/
import Derived.Test.YtiljkgoafknefabGreatLim1
namespace Go.Proofs.YtiljkgoafknefabGreat
open Go.RowKit

end Go.Proofs.YtiljkgoafknefabGreat
