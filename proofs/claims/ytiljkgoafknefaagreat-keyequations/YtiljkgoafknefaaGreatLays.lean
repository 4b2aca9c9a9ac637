/- Where the library functions that package nat calls lie in this translation: the tables of numbers, each row checked. -/
import Derived.Test.YtiljkgoafknefaaGreatBase4
import Derived.Shelf.Strings.BuilderK
import Derived.Shelf.Strings.Repeat
import Derived.Shelf.Small.Wraps
import Derived.Shelf.Strconv.Itoa0
namespace Go.Proofs.YtiljkgoafknefaaGreat
open Go.Shelf

def l122_ren : Go.Shelf.Ren := ⟨fun | 122 => 112 | 215 => 137 | n => n, fun | 3 => 3 | 4 => 4 | n => n, fun n => n⟩

theorem l122 : Lays.n122 Tryz.prog l122_ren := {
  mixed := by kernel_rfl,
  f122 := Tryz.func112.trans (congrArg some (by kernel_rfl)),
  f215 := Tryz.func137.trans (congrArg some (by kernel_rfl)),
  t3 := Tryz.underlying3,
  a3 := Tryz.isAgg3,
  z3 := Tryz.sizeOf3,
  v3 := Tryz.zeroValue3,
  t4 := Tryz.underlying4,
  a4 := Tryz.isAgg4,
  z4 := Tryz.sizeOf4,
  v4 := Tryz.zeroValue4 }

end Go.Proofs.YtiljkgoafknefaaGreat
