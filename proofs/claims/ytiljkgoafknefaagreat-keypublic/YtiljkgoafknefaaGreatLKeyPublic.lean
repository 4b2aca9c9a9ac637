/- The walk of KeyPublic, the landed contracts paid. -/
import Derived.Test.YtiljkgoafknefaaGreatKex9
import Derived.Test.YtiljkgoafknefaaGreatWKeyPublic
namespace Go.Proofs.YtiljkgoafknefaaGreat
open Go.RowKit

theorem walkKeyPublic (u : Value) (xs : List Nat) (e : Int) (w : World) (hu : Row .u64 w u xs) (hdx : Digs 18446744073709551616 xs) (he : (Lit.int .u64 e).wf = true) :
    Calls Tryz.prog 3 #[u, .int .u64 e] w fun e w' => e = .returned (.bool true) ∧ Below w.heap.size w w' :=
  wKeyPublic kcCom kcSiz kcChk kcPub u xs e w hu hdx he

end Go.Proofs.YtiljkgoafknefaaGreat
