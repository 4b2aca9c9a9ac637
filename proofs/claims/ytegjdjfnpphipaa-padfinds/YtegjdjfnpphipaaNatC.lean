/- Package nat: the words of a number from the highest down (downward), as a range over a function hands them out. -/
import Derived.Test.YtegjdjfnpphipaaNatB
import Derived.Test.YtegjdjfnpphipaaSeq0
import Derived.RangeFuncNested
import Derived.RangeFuncBound
import Derived.RangeFuncCalls
import Derived.RangeFuncLeaves
import Derived.RangeFuncBox
import Derived.Shelf.Abstract
import Derived.Shelf.RegionOpen
import Derived.OwnWalkIn
import Derived.TacticsInMore
import Derived.LoopNIn
import Derived.LoopIn
namespace Go.Proofs.Ytegjdjfnpphipaa
open Go.RowKit Go.Shelf

attribute [local go_sem] Oper.semAt_some

/-- What has come: the places from the top down, when r are left. -/
def downIdx (L : Nat) (r : Nat) : List Nat := (List.range (L - r)).map fun j => L - 1 - j

theorem downIdx_all (L : Nat) : downIdx L L = [] := by simp [downIdx]

theorem downIdx_step {L j : Nat} (h : j < L) : downIdx L j = downIdx L (j + 1) ++ [j] := by
  unfold downIdx
  rw [show L - j = (L - (j + 1)) + 1 by omega, List.range_succ, List.map_append, List.map_singleton, show L - 1 - (L - (j + 1)) = j by omega]

theorem downIdx_length (L r : Nat) : (downIdx L r).length = L - r := by simp [downIdx]

end Go.Proofs.Ytegjdjfnpphipaa
