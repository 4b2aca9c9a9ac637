/- Package product: Small. -/
import Derived.Test.YtiljkgoafknefaaGreatPro0
import Derived.Test.YtiljkgoafknefaaGreatDiv1
import Derived.StillTailTactics
namespace Go.Proofs.YtiljkgoafknefaaGreat
open Go.RowKit

theorem drop_consB {B : Nat} {zs : List Nat} {j : Nat} (h : j < zs.length) : val B (zs.drop j) = zs.getD j 0 + B * val B (zs.drop (j + 1)) := by
  rw [List.drop_eq_getElem_cons h, List.getD_eq_getElem?_getD, List.getElem?_eq_getElem h]
  rfl

theorem small_step {B D : Nat} {zs : List Nat} {j : Nat} (h : j < zs.length) : val B (zs.drop j) % D = (val B (zs.drop (j + 1)) % D * B + zs.getD j 0) % D := by
  rw [drop_consB h, Nat.add_comm, Nat.mul_comm B, Nat.add_mod (val B (zs.drop (j + 1)) % D * B), Nat.mod_mul_mod, ← Nat.add_mod]

end Go.Proofs.YtiljkgoafknefaaGreat
