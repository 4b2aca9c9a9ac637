/- Package nat: Of, walked. -/
import Derived.Test.YtegjdjfnpphipaaNatH
namespace Go.Proofs.Ytegjdjfnpphipaa
open Go.RowKit Go.Shelf

attribute [local go_sem] Oper.semAt_some

end Go.Proofs.Ytegjdjfnpphipaa
