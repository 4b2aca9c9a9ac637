/-
  DERIVED. GIVEN WITH THE SEED: THE CARDS: each row of YtnhkfdbeacmepaaDoorRows.lean that lists a variable, with what it lists TIED to the program's text (the seventh form; the later family's looks); each row that meets fmt, with fmt's text TOLD by the authors' own Lean function (tested against real Go, not proved from fmt's source: count such statements apart). THE CARD IS WHAT COUNTS. Prove the row's statement (the work); the ties are given (YtnhkfdbeacmepaaDoorTie.lean); close each card by the builder's one call (the guide's Derived/Test/ToyasCard.lean, 'card_holds'). Laid BY PROGRAM, IN A SANDBOX (cutbox-door.mjs). By AI agents, Wed Nov 11 2026. No macro, syntax, notation, axiom, sorry.
-/
import Derived.Test.YtnhkfdbeacmepaaDoorRows
import GoSem.ClaimSeven
namespace Go.Proofs.YtnhkfdbeacmepaaDoor
namespace Rows

/-- THE TIED CARD OF 'sconcelaw24.OaepEncodes'. -/
def oaepEncodesCard : Claim7 := { stood := { row := oaepEncodesRow, standIns := [], harness := (true, "60638c70d79b0f1005dc585b40c4608b3266064450ae5e6d51e0d99c3bdd5954"), looks := false }, kinds := [], alts := [], laidByText := true, laidKinds := [.data, .data, .data, .data, .data], laidTests := true, laidLooks := .later }
def OaepEncodesCardSaid : Prop := Claim7.holds Tryd.pinned (.plain (OpenSpec.ofChange oaepEncodesSpec)) oaepEncodesCard

/-- THE TIED CARD OF 'sconcelaw24.OaepDecodes'. -/
def oaepDecodesCard : Claim7 := { stood := { row := oaepDecodesRow, standIns := [], harness := (true, "60638c70d79b0f1005dc585b40c4608b3266064450ae5e6d51e0d99c3bdd5954"), looks := false }, kinds := [], alts := [], laidByText := true, laidKinds := [.data, .data, .data, .data, .data], laidTests := true, laidLooks := .later }
def OaepDecodesCardSaid : Prop := Claim7.holds Tryd.pinned (.plain (OpenSpec.ofChange oaepDecodesSpec)) oaepDecodesCard

/-- THE TIED CARD OF 'sconcelaw24.OaepRooms'. -/
def oaepRoomsCard : Claim7 := { stood := { row := oaepRoomsRow, standIns := [], harness := (true, "60638c70d79b0f1005dc585b40c4608b3266064450ae5e6d51e0d99c3bdd5954"), looks := false }, kinds := [], alts := [], laidByText := true, laidKinds := [.data, .data, .data, .data, .data], laidTests := true, laidLooks := .later }
def OaepRoomsCardSaid : Prop := Claim7.holds Tryd.pinned (.plain (OpenSpec.ofChange oaepRoomsSpec)) oaepRoomsCard

/-- THE TIED CARD OF 'sconcelaw24.OaepBack'. -/
def oaepBackCard : Claim7 := { stood := { row := oaepBackRow, standIns := [], harness := (true, "60638c70d79b0f1005dc585b40c4608b3266064450ae5e6d51e0d99c3bdd5954"), looks := false }, kinds := [], alts := [], laidByText := true, laidKinds := [.data, .data, .data, .data, .data], laidTests := true, laidLooks := .later }
def OaepBackCardSaid : Prop := Claim7.holds Tryd.pinned (.plain (OpenSpec.ofChange oaepBackSpec)) oaepBackCard

/-- THE TIED CARD OF 'sconcelaw24.OaepSeen'. -/
def oaepSeenCard : Claim7 := { stood := { row := oaepSeenRow, standIns := [], harness := (true, "60638c70d79b0f1005dc585b40c4608b3266064450ae5e6d51e0d99c3bdd5954"), looks := false }, kinds := [], alts := [], laidByText := true, laidKinds := [.data, .data, .data, .data, .data], laidTests := true, laidLooks := .later }
def OaepSeenCardSaid : Prop := Claim7.holds Tryd.pinned (.plain (OpenSpec.ofChange oaepSeenSpec)) oaepSeenCard

/-- THE SECOND FORM's CARD OF 'sconcelaw24.OaepEncodes'. -/
def oaepEncodesUptoCard : Claim7 := { stood := { row := oaepEncodesUptoRow, standIns := [], harness := (true, "60638c70d79b0f1005dc585b40c4608b3266064450ae5e6d51e0d99c3bdd5954"), looks := false }, kinds := [], alts := [], laidByText := true, laidKinds := [.data, .data, .data, .data, .data], laidTests := true, laidLooks := .later }
def OaepEncodesUptoCardSaid : Prop := Claim7.holds Tryd.pinned (.plain (OpenSpec.upto oaepEncodesSpec)) oaepEncodesUptoCard

/-- THE SECOND FORM's CARD OF 'sconcelaw24.OaepDecodes'. -/
def oaepDecodesUptoCard : Claim7 := { stood := { row := oaepDecodesUptoRow, standIns := [], harness := (true, "60638c70d79b0f1005dc585b40c4608b3266064450ae5e6d51e0d99c3bdd5954"), looks := false }, kinds := [], alts := [], laidByText := true, laidKinds := [.data, .data, .data, .data, .data], laidTests := true, laidLooks := .later }
def OaepDecodesUptoCardSaid : Prop := Claim7.holds Tryd.pinned (.plain (OpenSpec.upto oaepDecodesSpec)) oaepDecodesUptoCard

/-- THE SECOND FORM's CARD OF 'sconcelaw24.OaepRooms'. -/
def oaepRoomsUptoCard : Claim7 := { stood := { row := oaepRoomsUptoRow, standIns := [], harness := (true, "60638c70d79b0f1005dc585b40c4608b3266064450ae5e6d51e0d99c3bdd5954"), looks := false }, kinds := [], alts := [], laidByText := true, laidKinds := [.data, .data, .data, .data, .data], laidTests := true, laidLooks := .later }
def OaepRoomsUptoCardSaid : Prop := Claim7.holds Tryd.pinned (.plain (OpenSpec.upto oaepRoomsSpec)) oaepRoomsUptoCard

/-- THE SECOND FORM's CARD OF 'sconcelaw24.OaepBack'. -/
def oaepBackUptoCard : Claim7 := { stood := { row := oaepBackUptoRow, standIns := [], harness := (true, "60638c70d79b0f1005dc585b40c4608b3266064450ae5e6d51e0d99c3bdd5954"), looks := false }, kinds := [], alts := [], laidByText := true, laidKinds := [.data, .data, .data, .data, .data], laidTests := true, laidLooks := .later }
def OaepBackUptoCardSaid : Prop := Claim7.holds Tryd.pinned (.plain (OpenSpec.upto oaepBackSpec)) oaepBackUptoCard

/-- THE SECOND FORM's CARD OF 'sconcelaw24.OaepSeen'. -/
def oaepSeenUptoCard : Claim7 := { stood := { row := oaepSeenUptoRow, standIns := [], harness := (true, "60638c70d79b0f1005dc585b40c4608b3266064450ae5e6d51e0d99c3bdd5954"), looks := false }, kinds := [], alts := [], laidByText := true, laidKinds := [.data, .data, .data, .data, .data], laidTests := true, laidLooks := .later }
def OaepSeenUptoCardSaid : Prop := Claim7.holds Tryd.pinned (.plain (OpenSpec.upto oaepSeenSpec)) oaepSeenUptoCard
end Rows
end Go.Proofs.YtnhkfdbeacmepaaDoor
