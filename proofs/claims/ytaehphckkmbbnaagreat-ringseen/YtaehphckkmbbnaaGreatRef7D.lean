/- The plain side of layer 7: what comes to 0 with a number. -/
import Derived.Test.YtaehphckkmbbnaaGreatRef7C
namespace Go.Proofs.YtaehphckkmbbnaaGreat
open Go.RowKit

end Go.Proofs.YtaehphckkmbbnaaGreat
