/- The plain side of layer 11: Block. -/
import Derived.Test.YtjnmnkoajcibhaaDoorSha2
import Derived.BigRegion
import Derived.Deep.RegionHeld3
namespace Go.Proofs.YtjnmnkoajcibhaaDoor
open Go.RowKit

/-- One word of the schedule more. -/
theorem wl_set {bs : List Nat} {t z : Nat} (ht : t < 64) (hz : (if t < 16 then w4N (bs.getD (4 * t) 0) (bs.getD (4 * t + 1) 0) (bs.getD (4 * t + 2) 0) (bs.getD (4 * t + 3) 0) else
      ((wlN bs t).getD (t - 16) 0 + s0N ((wlN bs t).getD (t - 15) 0) + (wlN bs t).getD (t - 7) 0 + s1N ((wlN bs t).getD (t - 2) 0)) % 4294967296) = z) :
    (wlN bs t ++ List.replicate (64 - t) 0).set t z = wlN bs (t + 1) ++ List.replicate (64 - (t + 1)) 0 := by
  have e : List.replicate (64 - t) 0 = 0 :: List.replicate (64 - (t + 1)) 0 := by rw [show 64 - t = (64 - (t + 1)) + 1 by omega, List.replicate_succ]
  rw [List.set_append_right _ _ (by rw [wlN_length]; omega), wlN_length, Nat.sub_self, e, List.set_cons_zero]
  show _ = (wlN bs t ++ [_]) ++ _
  rw [hz, List.append_assoc]
  rfl

end Go.Proofs.YtjnmnkoajcibhaaDoor
