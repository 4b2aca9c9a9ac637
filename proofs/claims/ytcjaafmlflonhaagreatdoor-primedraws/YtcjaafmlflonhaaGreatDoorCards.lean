/-
  DERIVED. GIVEN WITH THE SEED: THE CARDS: each row of YtcjaafmlflonhaaGreatDoorRows.lean that lists a variable, with what it lists TIED to the program's text (the seventh form; the later family's looks); each row that meets fmt, with fmt's text TOLD by the authors' own Lean function (tested against real Go, not proved from fmt's source: count such statements apart). THE CARD IS WHAT COUNTS. Prove the row's statement (the work); the ties are given (YtcjaafmlflonhaaGreatDoorTie.lean); close each card by the builder's one call (the guide's Derived/Test/ToyasCard.lean, 'card_holds'). Laid BY PROGRAM, IN A SANDBOX (cutbox-door.mjs). By AI agents, Wed Nov 11 2026. No macro, syntax, notation, axiom, sorry.
-/
import Derived.Test.YtcjaafmlflonhaaGreatDoorRows
import GoSem.ClaimSeven
namespace Go.Proofs.YtcjaafmlflonhaaGreatDoor
namespace Rows

/-- THE TIED CARD OF 'sconcelaw18.PrimeDraws'. -/
def primeDrawsCard : Claim7 := { stood := { row := primeDrawsRow, standIns := [], harness := (true, "c1a1b3627d3af73a596c1d630702ab673dadec71d285a880ce23e88c52a853f0"), looks := true }, kinds := [], alts := [], laidByText := true, laidKinds := [.data, .pinned], laidTests := true, laidLooks := .later }
def PrimeDrawsCardSaid : Prop := Claim7.holds Tryz.pinned (.plain (OpenSpec.ofChange primeDrawsSpec)) primeDrawsCard

/-- THE TIED CARD OF 'sconcelaw18.PrimeSized'. -/
def primeSizedCard : Claim7 := { stood := { row := primeSizedRow, standIns := [], harness := (true, "c1a1b3627d3af73a596c1d630702ab673dadec71d285a880ce23e88c52a853f0"), looks := true }, kinds := [], alts := [], laidByText := true, laidKinds := [.data, .pinned], laidTests := true, laidLooks := .later }
def PrimeSizedCardSaid : Prop := Claim7.holds Tryz.pinned (.plain (OpenSpec.ofChange primeSizedSpec)) primeSizedCard

/-- THE SECOND FORM's CARD OF 'sconcelaw18.PrimeDraws'. -/
def primeDrawsUptoCard : Claim7 := { stood := { row := primeDrawsUptoRow, standIns := [], harness := (true, "c1a1b3627d3af73a596c1d630702ab673dadec71d285a880ce23e88c52a853f0"), looks := true }, kinds := [], alts := [], laidByText := true, laidKinds := [.data, .pinned], laidTests := true, laidLooks := .later }
def PrimeDrawsUptoCardSaid : Prop := Claim7.holds Tryz.pinned (.plain (OpenSpec.upto primeDrawsSpec)) primeDrawsUptoCard

/-- THE SECOND FORM's CARD OF 'sconcelaw18.PrimeSized'. -/
def primeSizedUptoCard : Claim7 := { stood := { row := primeSizedUptoRow, standIns := [], harness := (true, "c1a1b3627d3af73a596c1d630702ab673dadec71d285a880ce23e88c52a853f0"), looks := true }, kinds := [], alts := [], laidByText := true, laidKinds := [.data, .pinned], laidTests := true, laidLooks := .later }
def PrimeSizedUptoCardSaid : Prop := Claim7.holds Tryz.pinned (.plain (OpenSpec.upto primeSizedSpec)) primeSizedUptoCard
end Rows
end Go.Proofs.YtcjaafmlflonhaaGreatDoor
