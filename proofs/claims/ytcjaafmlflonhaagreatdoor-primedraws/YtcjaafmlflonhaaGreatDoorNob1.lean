/- No table is asked. -/
import Derived.Test.YtcjaafmlflonhaaGreatDoorBase1
namespace Go.Proofs.YtcjaafmlflonhaaGreatDoor
open Go.RowKit

/-- No table is asked. -/
def NoTab (_ : World) : Prop := True

end Go.Proofs.YtcjaafmlflonhaaGreatDoor
