/- The walk of KeySwaps, the landed contracts paid. -/
import Derived.Test.YtiljkgoafknefabGreatKex9
import Derived.Test.YtiljkgoafknefabGreatWKeySwaps
namespace Go.Proofs.YtiljkgoafknefabGreat
open Go.RowKit

theorem walkKeySwaps (u : Value) (xs : List Nat) (v : Value) (ys : List Nat) (e : Int) (w : World) (hu : Row .u64 w u xs) (hv : Row .u64 w v ys) (hdx : Digs 18446744073709551616 xs) (hdy : Digs 18446744073709551616 ys) (he : (Lit.int .u64 e).wf = true) :
    Calls Tryz.prog 3 #[u, v, .int .u64 e] w fun e w' => e = .returned (.bool true) ∧ Below w.heap.size w w' :=
  wKeySwaps kcCom kcSiz kcChk kcOf u xs v ys e w hu hv hdx hdy he

end Go.Proofs.YtiljkgoafknefabGreat
