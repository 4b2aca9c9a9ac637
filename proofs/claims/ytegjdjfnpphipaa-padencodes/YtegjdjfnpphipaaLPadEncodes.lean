/- The law PadEncodes, walked. -/
import Derived.Test.YtegjdjfnpphipaaPad2
import Derived.Test.YtegjdjfnpphipaaPad5
import Derived.Test.YtegjdjfnpphipaaWPadEncodes
import Derived.Test.YtegjdjfnpphipaaOpenRow
namespace Go.Proofs.Ytegjdjfnpphipaa
open Go.RowKit

theorem walkPadEncodes (x : Value) (ms : List Nat) (k : Int) (u : Value) (bs : List Nat) (w : World) (hx : Row .u8 w x ms) (hu : Row .u8 w u bs) (dm : Digs 256 ms) (db : Digs 256 bs) (hk : (Lit.int .i64 k).wf = true) :
    Calls Try.prog 3 #[x, .int .i64 k, u] w fun e w' => e = .returned (.bool true) ∧ Below w.heap.size w w' :=
  wPadEncodes kEnc kDecD x ms k u bs w hx hu dm db hk

end Go.Proofs.Ytegjdjfnpphipaa
