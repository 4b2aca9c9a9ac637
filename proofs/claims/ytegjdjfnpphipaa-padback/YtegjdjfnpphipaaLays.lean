/- Where the library functions that package nat calls lie in this translation: the tables of numbers, each row checked. -/
import Derived.Test.YtegjdjfnpphipaaBase4
import Derived.Shelf.Strings.BuilderK
import Derived.Shelf.Strings.Repeat
import Derived.Shelf.Small.Wraps
import Derived.Shelf.Strconv.Itoa0
namespace Go.Proofs.Ytegjdjfnpphipaa
open Go.Shelf

end Go.Proofs.Ytegjdjfnpphipaa
