/- The law PadDecodes, walked. -/
import Derived.Test.YtegjdjfnpphipaaPad5
import Derived.Test.YtegjdjfnpphipaaWPadDecodes
import Derived.Test.YtegjdjfnpphipaaOpenRow
namespace Go.Proofs.Ytegjdjfnpphipaa
open Go.RowKit

theorem walkPadDecodes (u : Value) (ms : List Nat) (w : World) (hu : Row .u8 w u ms) (dm : Digs 256 ms) :
    Calls Try.prog 4 #[u] w fun e w' => e = .returned (.bool true) ∧ Below w.heap.size w w' :=
  wPadDecodes kDecD u ms w hu dm

end Go.Proofs.Ytegjdjfnpphipaa
