/-
  DERIVED. GIVEN WITH THE SEED: THE CARDS: each row of YtglioppchhepmaaDoorRows.lean that lists a variable, with what it lists TIED to the program's text (the seventh form; the later family's looks); each row that meets fmt, with fmt's text TOLD by the authors' own Lean function (tested against real Go, not proved from fmt's source: count such statements apart). THE CARD IS WHAT COUNTS. Prove the row's statement (the work); the ties are given (YtglioppchhepmaaDoorTie.lean); close each card by the builder's one call (the guide's Derived/Test/ToyasCard.lean, 'card_holds'). Laid BY PROGRAM, IN A SANDBOX (cutbox-door.mjs). By AI agents, Wed Nov 11 2026. No macro, syntax, notation, axiom, sorry.
-/
import Derived.Test.YtglioppchhepmaaDoorRows
import GoSem.ClaimSeven
namespace Go.Proofs.YtglioppchhepmaaDoor
namespace Rows

/-- THE TIED CARD OF 'sconcelaw14.MgfMasks'. -/
def mgfMasksCard : Claim7 := { stood := { row := mgfMasksRow, standIns := [], harness := (true, "d9073254862d225aced45cfc3299962dfdd94b22faaad6919facaef868dcdc35"), looks := false }, kinds := [], alts := [], laidByText := true, laidKinds := [.data, .data, .data, .data, .data], laidTests := true, laidLooks := .later }
def MgfMasksCardSaid : Prop := Claim7.holds Tryd.pinned (.plain (OpenSpec.ofChange mgfMasksSpec)) mgfMasksCard

/-- THE TIED CARD OF 'sconcelaw14.MgfXors'. -/
def mgfXorsCard : Claim7 := { stood := { row := mgfXorsRow, standIns := [], harness := (true, "d9073254862d225aced45cfc3299962dfdd94b22faaad6919facaef868dcdc35"), looks := false }, kinds := [], alts := [], laidByText := true, laidKinds := [.data, .data, .data, .data, .data], laidTests := true, laidLooks := .later }
def MgfXorsCardSaid : Prop := Claim7.holds Tryd.pinned (.plain (OpenSpec.ofChange mgfXorsSpec)) mgfXorsCard

/-- THE TIED CARD OF 'sconcelaw14.MgfBegins'. -/
def mgfBeginsCard : Claim7 := { stood := { row := mgfBeginsRow, standIns := [], harness := (true, "d9073254862d225aced45cfc3299962dfdd94b22faaad6919facaef868dcdc35"), looks := false }, kinds := [], alts := [], laidByText := true, laidKinds := [.data, .data, .data, .data, .data], laidTests := true, laidLooks := .later }
def MgfBeginsCardSaid : Prop := Claim7.holds Tryd.pinned (.plain (OpenSpec.ofChange mgfBeginsSpec)) mgfBeginsCard

/-- THE SECOND FORM's CARD OF 'sconcelaw14.MgfMasks'. -/
def mgfMasksUptoCard : Claim7 := { stood := { row := mgfMasksUptoRow, standIns := [], harness := (true, "d9073254862d225aced45cfc3299962dfdd94b22faaad6919facaef868dcdc35"), looks := false }, kinds := [], alts := [], laidByText := true, laidKinds := [.data, .data, .data, .data, .data], laidTests := true, laidLooks := .later }
def MgfMasksUptoCardSaid : Prop := Claim7.holds Tryd.pinned (.plain (OpenSpec.upto mgfMasksSpec)) mgfMasksUptoCard

/-- THE SECOND FORM's CARD OF 'sconcelaw14.MgfXors'. -/
def mgfXorsUptoCard : Claim7 := { stood := { row := mgfXorsUptoRow, standIns := [], harness := (true, "d9073254862d225aced45cfc3299962dfdd94b22faaad6919facaef868dcdc35"), looks := false }, kinds := [], alts := [], laidByText := true, laidKinds := [.data, .data, .data, .data, .data], laidTests := true, laidLooks := .later }
def MgfXorsUptoCardSaid : Prop := Claim7.holds Tryd.pinned (.plain (OpenSpec.upto mgfXorsSpec)) mgfXorsUptoCard

/-- THE SECOND FORM's CARD OF 'sconcelaw14.MgfBegins'. -/
def mgfBeginsUptoCard : Claim7 := { stood := { row := mgfBeginsUptoRow, standIns := [], harness := (true, "d9073254862d225aced45cfc3299962dfdd94b22faaad6919facaef868dcdc35"), looks := false }, kinds := [], alts := [], laidByText := true, laidKinds := [.data, .data, .data, .data, .data], laidTests := true, laidLooks := .later }
def MgfBeginsUptoCardSaid : Prop := Claim7.holds Tryd.pinned (.plain (OpenSpec.upto mgfBeginsSpec)) mgfBeginsUptoCard
end Rows
end Go.Proofs.YtglioppchhepmaaDoor
