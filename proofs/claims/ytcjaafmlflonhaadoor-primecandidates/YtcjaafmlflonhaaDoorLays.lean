/- Where the library functions that package nat calls lie in this translation: the tables of numbers, each row checked. -/
import Derived.Test.YtcjaafmlflonhaaDoorBase4
import Derived.Shelf.Strings.BuilderK
import Derived.Shelf.Strings.Repeat
import Derived.Shelf.Small.Wraps
import Derived.Shelf.Strconv.Itoa0
namespace Go.Proofs.YtcjaafmlflonhaaDoor
open Go.Shelf

def l122_ren : Go.Shelf.Ren := ⟨fun | 122 => 58 | 215 => 79 | n => n, fun | 3 => 3 | 4 => 4 | n => n, fun n => n⟩

theorem l122 : Lays.n122 Tryd.prog l122_ren := {
  mixed := by kernel_rfl,
  f122 := Tryd.func58.trans (congrArg some (by kernel_rfl)),
  f215 := Tryd.func79.trans (congrArg some (by kernel_rfl)),
  t3 := Tryd.underlying3,
  a3 := Tryd.isAgg3,
  z3 := Tryd.sizeOf3,
  v3 := Tryd.zeroValue3,
  t4 := Tryd.underlying4,
  a4 := Tryd.isAgg4,
  z4 := Tryd.sizeOf4,
  v4 := Tryd.zeroValue4 }

end Go.Proofs.YtcjaafmlflonhaaDoor
