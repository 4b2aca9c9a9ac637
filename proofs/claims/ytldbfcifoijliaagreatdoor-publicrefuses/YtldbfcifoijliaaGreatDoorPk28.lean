/- Put together of: LPublicRefuses. -/
import Derived.Test.YtldbfcifoijliaaGreatDoorPk26
import Derived.Test.YtldbfcifoijliaaGreatDoorPk27

/- The walk of PublicRefuses, the landed contract paid. -/
namespace Go.Proofs.YtldbfcifoijliaaGreatDoor
open Go.RowKit

theorem walkPublicRefuses (u : Value) (ns : List Nat) (e : Int) (v : Value) (ms : List Nat) (w : World) (hu : Row .u64 w u ns) (hv : Row .u8 w v ms) (dn : Digs 18446744073709551616 ns) (dm : Digs 256 ms) (he : (Lit.int .u64 e).wf = true) (_ : NoTab w) :
    Calls Tryz.prog 5 #[u, .int .u64 e, v] w fun e w' => e = .returned (.bool true) ∧ Below w.heap.size w w' :=
  wPublicRefuses uApply u ns e v ms w hu hv dn dm he

end Go.Proofs.YtldbfcifoijliaaGreatDoor

