/-
  DERIVED. GIVEN WITH THE SEED: THE CARDS: each row of YtgcbbadakfdcgaaGreatDoorRows.lean that lists a variable, with what it lists TIED to the program's text (the seventh form; the later family's looks); each row that meets fmt, with fmt's text TOLD by the authors' own Lean function (tested against real Go, not proved from fmt's source: count such statements apart). THE CARD IS WHAT COUNTS. Prove the row's statement (the work); the ties are given (YtgcbbadakfdcgaaGreatDoorTie.lean); close each card by the builder's one call (the guide's Derived/Test/ToyasCard.lean, 'card_holds'). Laid BY PROGRAM, IN A SANDBOX (cutbox-door.mjs). By AI agents, Wed Nov 11 2026. No macro, syntax, notation, axiom, sorry.
-/
import Derived.Test.YtgcbbadakfdcgaaGreatDoorRows
import GoSem.ClaimSeven
namespace Go.Proofs.YtgcbbadakfdcgaaGreatDoor
namespace Rows

/-- THE TIED CARD OF 'sconcelaw17.MillerRounds'. -/
def millerRoundsCard : Claim7 := { stood := { row := millerRoundsRow, standIns := [], harness := (true, "4de7271628e3cf04833ff8fcc3bd408c41c26e557856b8eaaafb1a5d753f20b3"), looks := true }, kinds := [], alts := [], laidByText := true, laidKinds := [.data, .pinned], laidTests := true, laidLooks := .later }
def MillerRoundsCardSaid : Prop := Claim7.holds Tryz.pinned (.plain (OpenSpec.ofChange millerRoundsSpec)) millerRoundsCard

/-- THE SECOND FORM's CARD OF 'sconcelaw17.MillerRounds'. -/
def millerRoundsUptoCard : Claim7 := { stood := { row := millerRoundsUptoRow, standIns := [], harness := (true, "4de7271628e3cf04833ff8fcc3bd408c41c26e557856b8eaaafb1a5d753f20b3"), looks := true }, kinds := [], alts := [], laidByText := true, laidKinds := [.data, .pinned], laidTests := true, laidLooks := .later }
def MillerRoundsUptoCardSaid : Prop := Claim7.holds Tryz.pinned (.plain (OpenSpec.upto millerRoundsSpec)) millerRoundsUptoCard
end Rows
end Go.Proofs.YtgcbbadakfdcgaaGreatDoor
