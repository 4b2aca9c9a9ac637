/- No table is asked. -/
import Derived.Test.YtegjdjfnpphipaaBase1
namespace Go.Proofs.Ytegjdjfnpphipaa
open Go.RowKit

/-- No table is asked. -/
def NoTab (_ : World) : Prop := True

end Go.Proofs.Ytegjdjfnpphipaa
