/-
  DERIVED. GIVEN WITH THE SEED: THE CARDS: each row of YtlbipidofehddaaDoorRows.lean that lists a variable, with what it lists TIED to the program's text (the seventh form; the later family's looks); each row that meets fmt, with fmt's text TOLD by the authors' own Lean function (tested against real Go, not proved from fmt's source: count such statements apart). THE CARD IS WHAT COUNTS. Prove the row's statement (the work); the ties are given (YtlbipidofehddaaDoorTie.lean); close each card by the builder's one call (the guide's Derived/Test/ToyasCard.lean, 'card_holds'). Laid BY PROGRAM, IN A SANDBOX (cutbox-door.mjs). By AI agents, Wed Nov 11 2026. No macro, syntax, notation, axiom, sorry.
-/
import Derived.Test.YtlbipidofehddaaDoorRows
import GoSem.ClaimSeven
namespace Go.Proofs.YtlbipidofehddaaDoor
namespace Rows

/-- THE TIED CARD OF 'sconcelaw13.HashSums'. -/
def hashSumsCard : Claim7 := { stood := { row := hashSumsRow, standIns := [], harness := (true, "e4328b54ffccfbb7c7baa371f069363adaedb153ed0995dca894d8b27f74aae7"), looks := false }, kinds := [], alts := [], laidByText := true, laidKinds := [.data, .data, .data, .data, .data, .data], laidTests := true, laidLooks := .later }
def HashSumsCardSaid : Prop := Claim7.holds Tryd.pinned (.plain (OpenSpec.ofChange hashSumsSpec)) hashSumsCard

/-- THE TIED CARD OF 'sconcelaw13.HashNames'. -/
def hashNamesCard : Claim7 := { stood := { row := hashNamesRow, standIns := [], harness := (true, "e4328b54ffccfbb7c7baa371f069363adaedb153ed0995dca894d8b27f74aae7"), looks := false }, kinds := [], alts := [], laidByText := true, laidKinds := [.data], laidTests := true, laidLooks := .later }
def HashNamesCardSaid : Prop := Claim7.holds Tryd.pinned (.plain (OpenSpec.ofChange hashNamesSpec)) hashNamesCard

/-- THE TIED CARD OF 'sconcelaw13.HashPrefixes'. -/
def hashPrefixesCard : Claim7 := { stood := { row := hashPrefixesRow, standIns := [], harness := (true, "e4328b54ffccfbb7c7baa371f069363adaedb153ed0995dca894d8b27f74aae7"), looks := false }, kinds := [], alts := [], laidByText := true, laidKinds := [.data], laidTests := true, laidLooks := .later }
def HashPrefixesCardSaid : Prop := Claim7.holds Tryd.pinned (.plain (OpenSpec.ofChange hashPrefixesSpec)) hashPrefixesCard

/-- THE SECOND FORM's CARD OF 'sconcelaw13.HashSums'. -/
def hashSumsUptoCard : Claim7 := { stood := { row := hashSumsUptoRow, standIns := [], harness := (true, "e4328b54ffccfbb7c7baa371f069363adaedb153ed0995dca894d8b27f74aae7"), looks := false }, kinds := [], alts := [], laidByText := true, laidKinds := [.data, .data, .data, .data, .data, .data], laidTests := true, laidLooks := .later }
def HashSumsUptoCardSaid : Prop := Claim7.holds Tryd.pinned (.plain (OpenSpec.upto hashSumsSpec)) hashSumsUptoCard

/-- THE SECOND FORM's CARD OF 'sconcelaw13.HashNames'. -/
def hashNamesUptoCard : Claim7 := { stood := { row := hashNamesUptoRow, standIns := [], harness := (true, "e4328b54ffccfbb7c7baa371f069363adaedb153ed0995dca894d8b27f74aae7"), looks := false }, kinds := [], alts := [], laidByText := true, laidKinds := [.data], laidTests := true, laidLooks := .later }
def HashNamesUptoCardSaid : Prop := Claim7.holds Tryd.pinned (.plain (OpenSpec.upto hashNamesSpec)) hashNamesUptoCard

/-- THE SECOND FORM's CARD OF 'sconcelaw13.HashPrefixes'. -/
def hashPrefixesUptoCard : Claim7 := { stood := { row := hashPrefixesUptoRow, standIns := [], harness := (true, "e4328b54ffccfbb7c7baa371f069363adaedb153ed0995dca894d8b27f74aae7"), looks := false }, kinds := [], alts := [], laidByText := true, laidKinds := [.data], laidTests := true, laidLooks := .later }
def HashPrefixesUptoCardSaid : Prop := Claim7.holds Tryd.pinned (.plain (OpenSpec.upto hashPrefixesSpec)) hashPrefixesUptoCard
end Rows
end Go.Proofs.YtlbipidofehddaaDoor
