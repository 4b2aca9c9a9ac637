/- The plain side of layer 15: Filled. -/
import Derived.Test.YthnkganmccgaeaaDoorScr1
import Derived.BigRegion
namespace Go.Proofs.YthnkganmccgaeaaDoor
open Go.RowKit

/-- How many bytes the script at b has left. -/
def scrLen (b : Nat) (w : World) : Nat := match w.cell? ⟨b, 0, none⟩ with
  | some v => sliceLen v
  | none => 0

end Go.Proofs.YthnkganmccgaeaaDoor
