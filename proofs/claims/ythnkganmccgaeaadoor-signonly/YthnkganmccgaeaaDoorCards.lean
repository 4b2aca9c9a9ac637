/-
  DERIVED. GIVEN WITH THE SEED: THE CARDS: each row of YthnkganmccgaeaaDoorRows.lean that lists a variable, with what it lists TIED to the program's text (the seventh form; the later family's looks); each row that meets fmt, with fmt's text TOLD by the authors' own Lean function (tested against real Go, not proved from fmt's source: count such statements apart). THE CARD IS WHAT COUNTS. Prove the row's statement (the work); the ties are given (YthnkganmccgaeaaDoorTie.lean); close each card by the builder's one call (the guide's Derived/Test/ToyasCard.lean, 'card_holds'). Laid BY PROGRAM, IN A SANDBOX (cutbox-door.mjs). By AI agents, Wed Nov 11 2026. No macro, syntax, notation, axiom, sorry.
-/
import Derived.Test.YthnkganmccgaeaaDoorRows
import GoSem.ClaimSeven
namespace Go.Proofs.YthnkganmccgaeaaDoor
namespace Rows

/-- THE TIED CARD OF 'sconcelaw25.SignEncodes'. -/
def signEncodesCard : Claim7 := { stood := { row := signEncodesRow, standIns := [], harness := (true, "6166b0a06705d157070580bbbae02f9879314f984807f77ba5c130efbd0cb9e3"), looks := false }, kinds := [], alts := [], laidByText := true, laidKinds := [.data, .data, .data, .data, .data], laidTests := true, laidLooks := .later }
def SignEncodesCardSaid : Prop := Claim7.holds Tryd.pinned (.plain (OpenSpec.ofChange signEncodesSpec)) signEncodesCard

/-- THE TIED CARD OF 'sconcelaw25.SignVerifies'. -/
def signVerifiesCard : Claim7 := { stood := { row := signVerifiesRow, standIns := [], harness := (true, "6166b0a06705d157070580bbbae02f9879314f984807f77ba5c130efbd0cb9e3"), looks := false }, kinds := [], alts := [], laidByText := true, laidKinds := [.data, .data, .data, .data, .data], laidTests := true, laidLooks := .later }
def SignVerifiesCardSaid : Prop := Claim7.holds Tryd.pinned (.plain (OpenSpec.ofChange signVerifiesSpec)) signVerifiesCard

/-- THE TIED CARD OF 'sconcelaw25.SignOnly'. -/
def signOnlyCard : Claim7 := { stood := { row := signOnlyRow, standIns := [], harness := (true, "6166b0a06705d157070580bbbae02f9879314f984807f77ba5c130efbd0cb9e3"), looks := false }, kinds := [], alts := [], laidByText := true, laidKinds := [.data, .data, .data, .data, .data], laidTests := true, laidLooks := .later }
def SignOnlyCardSaid : Prop := Claim7.holds Tryd.pinned (.plain (OpenSpec.ofChange signOnlySpec)) signOnlyCard

/-- THE SECOND FORM's CARD OF 'sconcelaw25.SignEncodes'. -/
def signEncodesUptoCard : Claim7 := { stood := { row := signEncodesUptoRow, standIns := [], harness := (true, "6166b0a06705d157070580bbbae02f9879314f984807f77ba5c130efbd0cb9e3"), looks := false }, kinds := [], alts := [], laidByText := true, laidKinds := [.data, .data, .data, .data, .data], laidTests := true, laidLooks := .later }
def SignEncodesUptoCardSaid : Prop := Claim7.holds Tryd.pinned (.plain (OpenSpec.upto signEncodesSpec)) signEncodesUptoCard

/-- THE SECOND FORM's CARD OF 'sconcelaw25.SignVerifies'. -/
def signVerifiesUptoCard : Claim7 := { stood := { row := signVerifiesUptoRow, standIns := [], harness := (true, "6166b0a06705d157070580bbbae02f9879314f984807f77ba5c130efbd0cb9e3"), looks := false }, kinds := [], alts := [], laidByText := true, laidKinds := [.data, .data, .data, .data, .data], laidTests := true, laidLooks := .later }
def SignVerifiesUptoCardSaid : Prop := Claim7.holds Tryd.pinned (.plain (OpenSpec.upto signVerifiesSpec)) signVerifiesUptoCard

/-- THE SECOND FORM's CARD OF 'sconcelaw25.SignOnly'. -/
def signOnlyUptoCard : Claim7 := { stood := { row := signOnlyUptoRow, standIns := [], harness := (true, "6166b0a06705d157070580bbbae02f9879314f984807f77ba5c130efbd0cb9e3"), looks := false }, kinds := [], alts := [], laidByText := true, laidKinds := [.data, .data, .data, .data, .data], laidTests := true, laidLooks := .later }
def SignOnlyUptoCardSaid : Prop := Claim7.holds Tryd.pinned (.plain (OpenSpec.upto signOnlySpec)) signOnlyUptoCard
end Rows
end Go.Proofs.YthnkganmccgaeaaDoor
