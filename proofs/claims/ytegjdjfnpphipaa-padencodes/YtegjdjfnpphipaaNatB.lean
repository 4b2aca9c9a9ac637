/- Package nat: Word, Bit, Resize: what they answer, for any number. -/
import Derived.Test.YtegjdjfnpphipaaBase4
import Derived.Test.YtegjdjfnpphipaaBase1
namespace Go.Proofs.Ytegjdjfnpphipaa
open Go.RowKit

theorem shr_bit (x j : Nat) : (x / 2 ^ j) % 2 = x / 2 ^ j % 2 := rfl

end Go.Proofs.Ytegjdjfnpphipaa
