/- The walk of KeyChecks, the landed contracts paid. -/
import Derived.Test.YtiljkgoafknefaaGreatKex9
import Derived.Test.YtiljkgoafknefaaGreatWKeyChecks
namespace Go.Proofs.YtiljkgoafknefaaGreat
open Go.RowKit

theorem walkKeyChecks (t : KS) (l : KL) (w : World) (hr : t.Rows w l) (hd : l.Digs) (he : t.en < 18446744073709551616) :
    Calls Tryz.prog 5 #[.agg t.v] w fun e w' => e = .returned (.bool true) ∧ Below w.heap.size w w' :=
  wKeyChecks kcCom kcSiz kcChk t l he w hr hd

end Go.Proofs.YtiljkgoafknefaaGreat
