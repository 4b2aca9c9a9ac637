/- No table is asked. -/
import Derived.Test.YtcjaafmlflonhaaDoorBase1
namespace Go.Proofs.YtcjaafmlflonhaaDoor
open Go.RowKit

/-- No table is asked. -/
def NoTab (_ : World) : Prop := True

end Go.Proofs.YtcjaafmlflonhaaDoor
