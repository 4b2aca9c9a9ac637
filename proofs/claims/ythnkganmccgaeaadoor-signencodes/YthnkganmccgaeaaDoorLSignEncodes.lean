/- The law SignEncodes, walked. -/
import Derived.Test.YthnkganmccgaeaaDoorSgn4
import Derived.Test.YthnkganmccgaeaaDoorWSgnEncodes
namespace Go.Proofs.YthnkganmccgaeaaDoor
open Go.RowKit

theorem walkSignEncodes (h : Int) (u : Value) (ms : List Nat) (k : Int) (w : World) (hu : Row .u8 w u ms) (dm : Digs 256 ms) (hh : (Lit.int .i64 h).wf = true) (hk : (Lit.int .i64 k).wf = true) (ht : TabH w) :
    Calls Tryd.prog 3 #[.int .i64 h, u, .int .i64 k] w fun e w' => e = .returned (.bool true) ∧ Below w.heap.size w w' :=
  wSignEncodes sgStands sgEnc h u ms k w hu dm hh hk ht

end Go.Proofs.YthnkganmccgaeaaDoor
