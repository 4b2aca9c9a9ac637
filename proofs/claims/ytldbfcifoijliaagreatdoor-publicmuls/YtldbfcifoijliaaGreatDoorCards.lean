/-
  DERIVED. GIVEN WITH THE SEED: THE CARDS: each row of YtldbfcifoijliaaGreatDoorRows.lean that lists a variable, with what it lists TIED to the program's text (the seventh form; the later family's looks); each row that meets fmt, with fmt's text TOLD by the authors' own Lean function (tested against real Go, not proved from fmt's source: count such statements apart). THE CARD IS WHAT COUNTS. Prove the row's statement (the work); the ties are given (YtldbfcifoijliaaGreatDoorTie.lean); close each card by the builder's one call (the guide's Derived/Test/ToyasCard.lean, 'card_holds'). Laid BY PROGRAM, IN A SANDBOX (cutbox-door.mjs). By AI agents, Wed Nov 11 2026. No macro, syntax, notation, axiom, sorry.
-/
import Derived.Test.YtldbfcifoijliaaGreatDoorRows
import GoSem.ClaimSeven
namespace Go.Proofs.YtldbfcifoijliaaGreatDoor
namespace Rows

/-- THE TIED CARD OF 'sconcelaw21.PublicApplies'. -/
def publicAppliesCard : Claim7 := { stood := { row := publicAppliesRow, standIns := [], harness := (true, "fc00ac5b5540af637142ba8ce84e809a1f5d75fcefb294d9dd46900e516b477c"), looks := true }, kinds := [], alts := [], laidByText := true, laidKinds := [.data, .pinned], laidTests := true, laidLooks := .later }
def PublicAppliesCardSaid : Prop := Claim7.holds Tryz.pinned (.plain (OpenSpec.ofChange publicAppliesSpec)) publicAppliesCard

/-- THE TIED CARD OF 'sconcelaw21.PublicMuls'. -/
def publicMulsCard : Claim7 := { stood := { row := publicMulsRow, standIns := [], harness := (true, "fc00ac5b5540af637142ba8ce84e809a1f5d75fcefb294d9dd46900e516b477c"), looks := true }, kinds := [], alts := [], laidByText := true, laidKinds := [.data, .pinned], laidTests := true, laidLooks := .later }
def PublicMulsCardSaid : Prop := Claim7.holds Tryz.pinned (.plain (OpenSpec.ofChange publicMulsSpec)) publicMulsCard

/-- THE TIED CARD OF 'sconcelaw21.PublicRefuses'. -/
def publicRefusesCard : Claim7 := { stood := { row := publicRefusesRow, standIns := [], harness := (true, "fc00ac5b5540af637142ba8ce84e809a1f5d75fcefb294d9dd46900e516b477c"), looks := true }, kinds := [], alts := [], laidByText := true, laidKinds := [.data, .pinned], laidTests := true, laidLooks := .later }
def PublicRefusesCardSaid : Prop := Claim7.holds Tryz.pinned (.plain (OpenSpec.ofChange publicRefusesSpec)) publicRefusesCard

/-- THE SECOND FORM's CARD OF 'sconcelaw21.PublicApplies'. -/
def publicAppliesUptoCard : Claim7 := { stood := { row := publicAppliesUptoRow, standIns := [], harness := (true, "fc00ac5b5540af637142ba8ce84e809a1f5d75fcefb294d9dd46900e516b477c"), looks := true }, kinds := [], alts := [], laidByText := true, laidKinds := [.data, .pinned], laidTests := true, laidLooks := .later }
def PublicAppliesUptoCardSaid : Prop := Claim7.holds Tryz.pinned (.plain (OpenSpec.upto publicAppliesSpec)) publicAppliesUptoCard

/-- THE SECOND FORM's CARD OF 'sconcelaw21.PublicMuls'. -/
def publicMulsUptoCard : Claim7 := { stood := { row := publicMulsUptoRow, standIns := [], harness := (true, "fc00ac5b5540af637142ba8ce84e809a1f5d75fcefb294d9dd46900e516b477c"), looks := true }, kinds := [], alts := [], laidByText := true, laidKinds := [.data, .pinned], laidTests := true, laidLooks := .later }
def PublicMulsUptoCardSaid : Prop := Claim7.holds Tryz.pinned (.plain (OpenSpec.upto publicMulsSpec)) publicMulsUptoCard

/-- THE SECOND FORM's CARD OF 'sconcelaw21.PublicRefuses'. -/
def publicRefusesUptoCard : Claim7 := { stood := { row := publicRefusesUptoRow, standIns := [], harness := (true, "fc00ac5b5540af637142ba8ce84e809a1f5d75fcefb294d9dd46900e516b477c"), looks := true }, kinds := [], alts := [], laidByText := true, laidKinds := [.data, .pinned], laidTests := true, laidLooks := .later }
def PublicRefusesUptoCardSaid : Prop := Claim7.holds Tryz.pinned (.plain (OpenSpec.upto publicRefusesSpec)) publicRefusesUptoCard
end Rows
end Go.Proofs.YtldbfcifoijliaaGreatDoor
