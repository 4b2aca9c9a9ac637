/- The law SignVerifies, walked. -/
import Derived.Test.YthnkganmccgaeaaDoorSgn4
import Derived.Test.YthnkganmccgaeaaDoorWSgnVerifies
namespace Go.Proofs.YthnkganmccgaeaaDoor
open Go.RowKit

theorem walkSignVerifies (h : Int) (u : Value) (ms : List Nat) (x : Value) (em : List Nat) (w : World) (hu : Row .u8 w u ms) (hx : Row .u8 w x em) (dm : Digs 256 ms) (de : Digs 256 em) (hh : (Lit.int .i64 h).wf = true) (ht : TabH w) :
    Calls Tryd.prog 4 #[.int .i64 h, u, x] w fun e w' => e = .returned (.bool true) ∧ Below w.heap.size w w' :=
  wSignVerifies sgStands sgEnc sgVer h u ms x em w hu hx dm de hh ht

end Go.Proofs.YthnkganmccgaeaaDoor
