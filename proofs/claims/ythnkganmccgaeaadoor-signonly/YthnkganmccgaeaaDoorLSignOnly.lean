/- The law SignOnly, walked. -/
import Derived.Test.YthnkganmccgaeaaDoorSgn4
import Derived.Test.YthnkganmccgaeaaDoorWSgnOnly
namespace Go.Proofs.YthnkganmccgaeaaDoor
open Go.RowKit

theorem walkSignOnly (h : Int) (u : Value) (ms : List Nat) (k at_ bit : Int) (w : World) (hu : Row .u8 w u ms) (dm : Digs 256 ms) (hh : (Lit.int .i64 h).wf = true) (hk : (Lit.int .i64 k).wf = true) (ht : TabH w) :
    Calls Tryd.prog 5 #[.int .i64 h, u, .int .i64 k, .int .i64 at_, .int .i64 bit] w fun e w' => e = .returned (.bool true) ∧ Below w.heap.size w w' :=
  wSignOnly sgStands sgEnc sgVer h u ms k at_ bit w hu dm hh hk ht

end Go.Proofs.YthnkganmccgaeaaDoor
