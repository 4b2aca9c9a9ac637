/- Where the library functions that package nat calls lie in this translation: the tables of numbers, each row checked. -/
import Derived.Test.YtgcbbadakfdcgaaBase4
import Derived.Shelf.Strings.BuilderK
import Derived.Shelf.Strings.Repeat
import Derived.Shelf.Small.Wraps
import Derived.Shelf.Strconv.Itoa0
namespace Go.Proofs.Ytgcbbadakfdcgaa
open Go.Shelf

def l122_ren : Go.Shelf.Ren := ⟨fun | 122 => 40 | 215 => 62 | n => n, fun | 3 => 3 | 4 => 4 | n => n, fun n => n⟩

theorem l122 : Lays.n122 Try.prog l122_ren := {
  mixed := by kernel_rfl,
  f122 := Try.func40.trans (congrArg some (by kernel_rfl)),
  f215 := Try.func62.trans (congrArg some (by kernel_rfl)),
  t3 := Try.underlying3,
  a3 := Try.isAgg3,
  z3 := Try.sizeOf3,
  v3 := Try.zeroValue3,
  t4 := Try.underlying4,
  a4 := Try.isAgg4,
  z4 := Try.sizeOf4,
  v4 := Try.zeroValue4 }

end Go.Proofs.Ytgcbbadakfdcgaa
