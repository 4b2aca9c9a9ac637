/- Package mont: addRows: so many rows of a modulus are added. -/
import Derived.Test.YtcjaafmlflonhaaDoorMonA
import Derived.Test.YtcjaafmlflonhaaDoorPro2
import Derived.Deep.RegionHeld3
namespace Go.Proofs.YtcjaafmlflonhaaDoor
open Go.RowKit

/-- What addRows leaves. -/
def Rowed (a : World) (o0 : Tr) (m0 : List Ev) (g base N cap n many K X V c : Nat) (w' : World) : Prop :=
  c ≤ 1 ∧ ∃ (zs' : List Nat) (Q : Nat) (o' : Tr), OwnN .u64 33 w' base (.slice (some ⟨g, 0, none⟩) N cap) N zs' ∧ zs'.length = N ∧ Digs 18446744073709551616 zs' ∧
    val 18446744073709551616 zs' + 18446744073709551616 ^ N * c = X + V * Q ∧ Q < 18446744073709551616 ^ many ∧ ((V * K + 1) % 18446744073709551616 = 0 → 0 < n → val 18446744073709551616 zs' % 18446744073709551616 ^ many = 0) ∧ Did a o0 (m0 ++ List.replicate many (1, (n : Int), 0)) w' o'

end Go.Proofs.YtcjaafmlflonhaaDoor
