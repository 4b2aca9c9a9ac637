/-
  DERIVED. GIVEN WITH THE SEED: THE CARDS: each row of YtcemlfokmjjiaaaGreatDoorRows.lean that lists a variable, with what it lists TIED to the program's text (the seventh form; the later family's looks); each row that meets fmt, with fmt's text TOLD by the authors' own Lean function (tested against real Go, not proved from fmt's source: count such statements apart). THE CARD IS WHAT COUNTS. Prove the row's statement (the work); the ties are given (YtcemlfokmjjiaaaGreatDoorTie.lean); close each card by the builder's one call (the guide's Derived/Test/ToyasCard.lean, 'card_holds'). Laid BY PROGRAM, IN A SANDBOX (cutbox-door.mjs). By AI agents, Wed Nov 11 2026. No macro, syntax, notation, axiom, sorry.
-/
import Derived.Test.YtcemlfokmjjiaaaGreatDoorRows
import GoSem.ClaimSeven
namespace Go.Proofs.YtcemlfokmjjiaaaGreatDoor
namespace Rows

/-- THE TIED CARD OF 'sconcelaw20.KeygenPairs'. -/
def keygenPairsCard : Claim7 := { stood := { row := keygenPairsRow, standIns := [], harness := (true, "5b27fc1886af14041753cbec6465b5ea4dbd015afa257742ed3846bd4b8edc09"), looks := true }, kinds := [], alts := [], laidByText := true, laidKinds := [.data, .pinned], laidTests := true, laidLooks := .later }
def KeygenPairsCardSaid : Prop := Claim7.holds Tryz.pinned (.plain (OpenSpec.ofChange keygenPairsSpec)) keygenPairsCard

/-- THE TIED CARD OF 'sconcelaw20.KeygenMakes'. -/
def keygenMakesCard : Claim7 := { stood := { row := keygenMakesRow, standIns := [], harness := (true, "5b27fc1886af14041753cbec6465b5ea4dbd015afa257742ed3846bd4b8edc09"), looks := true }, kinds := [], alts := [], laidByText := true, laidKinds := [.data, .pinned], laidTests := true, laidLooks := .later }
def KeygenMakesCardSaid : Prop := Claim7.holds Tryz.pinned (.plain (OpenSpec.ofChange keygenMakesSpec)) keygenMakesCard

/-- THE TIED CARD OF 'sconcelaw20.KeygenFormed'. -/
def keygenFormedCard : Claim7 := { stood := { row := keygenFormedRow, standIns := [], harness := (true, "5b27fc1886af14041753cbec6465b5ea4dbd015afa257742ed3846bd4b8edc09"), looks := true }, kinds := [], alts := [], laidByText := true, laidKinds := [.data, .pinned], laidTests := true, laidLooks := .later }
def KeygenFormedCardSaid : Prop := Claim7.holds Tryz.pinned (.plain (OpenSpec.ofChange keygenFormedSpec)) keygenFormedCard

/-- THE SECOND FORM's CARD OF 'sconcelaw20.KeygenPairs'. -/
def keygenPairsUptoCard : Claim7 := { stood := { row := keygenPairsUptoRow, standIns := [], harness := (true, "5b27fc1886af14041753cbec6465b5ea4dbd015afa257742ed3846bd4b8edc09"), looks := true }, kinds := [], alts := [], laidByText := true, laidKinds := [.data, .pinned], laidTests := true, laidLooks := .later }
def KeygenPairsUptoCardSaid : Prop := Claim7.holds Tryz.pinned (.plain (OpenSpec.upto keygenPairsSpec)) keygenPairsUptoCard

/-- THE SECOND FORM's CARD OF 'sconcelaw20.KeygenMakes'. -/
def keygenMakesUptoCard : Claim7 := { stood := { row := keygenMakesUptoRow, standIns := [], harness := (true, "5b27fc1886af14041753cbec6465b5ea4dbd015afa257742ed3846bd4b8edc09"), looks := true }, kinds := [], alts := [], laidByText := true, laidKinds := [.data, .pinned], laidTests := true, laidLooks := .later }
def KeygenMakesUptoCardSaid : Prop := Claim7.holds Tryz.pinned (.plain (OpenSpec.upto keygenMakesSpec)) keygenMakesUptoCard

/-- THE SECOND FORM's CARD OF 'sconcelaw20.KeygenFormed'. -/
def keygenFormedUptoCard : Claim7 := { stood := { row := keygenFormedUptoRow, standIns := [], harness := (true, "5b27fc1886af14041753cbec6465b5ea4dbd015afa257742ed3846bd4b8edc09"), looks := true }, kinds := [], alts := [], laidByText := true, laidKinds := [.data, .pinned], laidTests := true, laidLooks := .later }
def KeygenFormedUptoCardSaid : Prop := Claim7.holds Tryz.pinned (.plain (OpenSpec.upto keygenFormedSpec)) keygenFormedUptoCard
end Rows
end Go.Proofs.YtcemlfokmjjiaaaGreatDoor
