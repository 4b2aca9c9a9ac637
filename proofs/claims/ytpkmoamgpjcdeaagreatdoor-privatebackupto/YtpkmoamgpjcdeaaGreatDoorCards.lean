/-
  DERIVED. GIVEN WITH THE SEED: THE CARDS: each row of YtpkmoamgpjcdeaaGreatDoorRows.lean that lists a variable, with what it lists TIED to the program's text (the seventh form; the later family's looks); each row that meets fmt, with fmt's text TOLD by the authors' own Lean function (tested against real Go, not proved from fmt's source: count such statements apart). THE CARD IS WHAT COUNTS. Prove the row's statement (the work); the ties are given (YtpkmoamgpjcdeaaGreatDoorTie.lean); close each card by the builder's one call (the guide's Derived/Test/ToyasCard.lean, 'card_holds'). Laid BY PROGRAM, IN A SANDBOX (cutbox-door.mjs). By AI agents, Wed Nov 11 2026. No macro, syntax, notation, axiom, sorry.
-/
import Derived.Test.YtpkmoamgpjcdeaaGreatDoorRows
import GoSem.ClaimSeven
namespace Go.Proofs.YtpkmoamgpjcdeaaGreatDoor
namespace Rows

/-- THE TIED CARD OF 'sconcelaw22.PrivateBack'. -/
def privateBackCard : Claim7 := { stood := { row := privateBackRow, standIns := [], harness := (true, "67490585c3169243f786345dc18d7bf1231471a561636edc01464009b8f2de77"), looks := true }, kinds := [], alts := [], laidByText := true, laidKinds := [.data, .pinned], laidTests := true, laidLooks := .later }
def PrivateBackCardSaid : Prop := Claim7.holds Tryz.pinned (.plain (OpenSpec.ofChange privateBackSpec)) privateBackCard

/-- THE TIED CARD OF 'sconcelaw22.PrivateRight'. -/
def privateRightCard : Claim7 := { stood := { row := privateRightRow, standIns := [], harness := (true, "67490585c3169243f786345dc18d7bf1231471a561636edc01464009b8f2de77"), looks := true }, kinds := [], alts := [], laidByText := true, laidKinds := [.data, .pinned], laidTests := true, laidLooks := .later }
def PrivateRightCardSaid : Prop := Claim7.holds Tryz.pinned (.plain (OpenSpec.ofChange privateRightSpec)) privateRightCard

/-- THE SECOND FORM's CARD OF 'sconcelaw22.PrivateBack'. -/
def privateBackUptoCard : Claim7 := { stood := { row := privateBackUptoRow, standIns := [], harness := (true, "67490585c3169243f786345dc18d7bf1231471a561636edc01464009b8f2de77"), looks := true }, kinds := [], alts := [], laidByText := true, laidKinds := [.data, .pinned], laidTests := true, laidLooks := .later }
def PrivateBackUptoCardSaid : Prop := Claim7.holds Tryz.pinned (.plain (OpenSpec.upto privateBackSpec)) privateBackUptoCard

/-- THE SECOND FORM's CARD OF 'sconcelaw22.PrivateRight'. -/
def privateRightUptoCard : Claim7 := { stood := { row := privateRightUptoRow, standIns := [], harness := (true, "67490585c3169243f786345dc18d7bf1231471a561636edc01464009b8f2de77"), looks := true }, kinds := [], alts := [], laidByText := true, laidKinds := [.data, .pinned], laidTests := true, laidLooks := .later }
def PrivateRightUptoCardSaid : Prop := Claim7.holds Tryz.pinned (.plain (OpenSpec.upto privateRightSpec)) privateRightUptoCard
end Rows
end Go.Proofs.YtpkmoamgpjcdeaaGreatDoor
