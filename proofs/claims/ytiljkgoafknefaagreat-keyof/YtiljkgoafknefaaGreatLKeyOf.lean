/- The walk of KeyOf, the landed contracts paid. -/
import Derived.Test.YtiljkgoafknefaaGreatKex9
import Derived.Test.YtiljkgoafknefaaGreatWKeyOf
namespace Go.Proofs.YtiljkgoafknefaaGreat
open Go.RowKit

theorem walkKeyOf (u : Value) (xs : List Nat) (v : Value) (ys : List Nat) (e : Int) (w : World) (hu : Row .u64 w u xs) (hv : Row .u64 w v ys) (hdx : Digs 18446744073709551616 xs) (hdy : Digs 18446744073709551616 ys) (he : (Lit.int .u64 e).wf = true) :
    Calls Tryz.prog 4 #[u, v, .int .u64 e] w fun e w' => e = .returned (.bool true) ∧ Below w.heap.size w w' :=
  wKeyOf kcCom kcSiz kcChk kcOf u xs v ys e w hu hv hdx hdy he

end Go.Proofs.YtiljkgoafknefaaGreat
