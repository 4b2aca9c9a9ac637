/-
  DERIVED. GIVEN WITH THE SEED: THE CARDS: each row of YtcjaafmlflonhaaDoorRows.lean that lists a variable, with what it lists TIED to the program's text (the seventh form; the later family's looks); each row that meets fmt, with fmt's text TOLD by the authors' own Lean function (tested against real Go, not proved from fmt's source: count such statements apart). THE CARD IS WHAT COUNTS. Prove the row's statement (the work); the ties are given (YtcjaafmlflonhaaDoorTie.lean); close each card by the builder's one call (the guide's Derived/Test/ToyasCard.lean, 'card_holds'). Laid BY PROGRAM, IN A SANDBOX (cutbox-door.mjs). By AI agents, Wed Nov 11 2026. No macro, syntax, notation, axiom, sorry.
-/
import Derived.Test.YtcjaafmlflonhaaDoorRows
import GoSem.ClaimSeven
namespace Go.Proofs.YtcjaafmlflonhaaDoor
namespace Rows

/-- THE TIED CARD OF 'sconcelaw18.PrimeCandidates'. -/
def primeCandidatesCard : Claim7 := { stood := { row := primeCandidatesRow, standIns := [], harness := (true, "dd58993589adbaf6b3c688d70dca2a896e85c389c7f4df679906b3059cfdc61a"), looks := true }, kinds := [], alts := [], laidByText := true, laidKinds := [.data, .pinned], laidTests := true, laidLooks := .later }
def PrimeCandidatesCardSaid : Prop := Claim7.holds Tryd.pinned (.plain (OpenSpec.ofChange primeCandidatesSpec)) primeCandidatesCard

/-- THE TIED CARD OF 'sconcelaw18.PrimeGood'. -/
def primeGoodCard : Claim7 := { stood := { row := primeGoodRow, standIns := [], harness := (true, "dd58993589adbaf6b3c688d70dca2a896e85c389c7f4df679906b3059cfdc61a"), looks := true }, kinds := [], alts := [], laidByText := true, laidKinds := [.data, .pinned], laidTests := true, laidLooks := .later }
def PrimeGoodCardSaid : Prop := Claim7.holds Tryd.pinned (.plain (OpenSpec.ofChange primeGoodSpec)) primeGoodCard

/-- THE SECOND FORM's CARD OF 'sconcelaw18.PrimeCandidates'. -/
def primeCandidatesUptoCard : Claim7 := { stood := { row := primeCandidatesUptoRow, standIns := [], harness := (true, "dd58993589adbaf6b3c688d70dca2a896e85c389c7f4df679906b3059cfdc61a"), looks := true }, kinds := [], alts := [], laidByText := true, laidKinds := [.data, .pinned], laidTests := true, laidLooks := .later }
def PrimeCandidatesUptoCardSaid : Prop := Claim7.holds Tryd.pinned (.plain (OpenSpec.upto primeCandidatesSpec)) primeCandidatesUptoCard

/-- THE SECOND FORM's CARD OF 'sconcelaw18.PrimeGood'. -/
def primeGoodUptoCard : Claim7 := { stood := { row := primeGoodUptoRow, standIns := [], harness := (true, "dd58993589adbaf6b3c688d70dca2a896e85c389c7f4df679906b3059cfdc61a"), looks := true }, kinds := [], alts := [], laidByText := true, laidKinds := [.data, .pinned], laidTests := true, laidLooks := .later }
def PrimeGoodUptoCardSaid : Prop := Claim7.holds Tryd.pinned (.plain (OpenSpec.upto primeGoodSpec)) primeGoodUptoCard
end Rows
end Go.Proofs.YtcjaafmlflonhaaDoor
