/-
  DERIVED. GIVEN WITH THE SEED: THE CARDS: each row of YtkaojflnghfmcaaGreatDoorRows.lean that lists a variable, with what it lists TIED to the program's text (the seventh form; the later family's looks); each row that meets fmt, with fmt's text TOLD by the authors' own Lean function (tested against real Go, not proved from fmt's source: count such statements apart). THE CARD IS WHAT COUNTS. Prove the row's statement (the work); the ties are given (YtkaojflnghfmcaaGreatDoorTie.lean); close each card by the builder's one call (the guide's Derived/Test/ToyasCard.lean, 'card_holds'). Laid BY PROGRAM, IN A SANDBOX (cutbox-door.mjs). By AI agents, Wed Nov 11 2026. No macro, syntax, notation, axiom, sorry.
-/
import Derived.Test.YtkaojflnghfmcaaGreatDoorRows
import GoSem.ClaimSeven
namespace Go.Proofs.YtkaojflnghfmcaaGreatDoor
namespace Rows

/-- THE TIED CARD OF 'sconcelaw22.PrivatePlain'. -/
def privatePlainCard : Claim7 := { stood := { row := privatePlainRow, standIns := [], harness := (true, "c007911150e1ea5678751471adc02aef2935a10bffbc8199a68be3e33063eeb4"), looks := true }, kinds := [], alts := [], laidByText := true, laidKinds := [.data, .pinned], laidTests := true, laidLooks := .later }
def PrivatePlainCardSaid : Prop := Claim7.holds Tryz.pinned (.plain (OpenSpec.ofChange privatePlainSpec)) privatePlainCard

/-- THE TIED CARD OF 'sconcelaw22.PrivateBlinds'. -/
def privateBlindsCard : Claim7 := { stood := { row := privateBlindsRow, standIns := [], harness := (true, "c007911150e1ea5678751471adc02aef2935a10bffbc8199a68be3e33063eeb4"), looks := true }, kinds := [], alts := [], laidByText := true, laidKinds := [.data, .pinned], laidTests := true, laidLooks := .later }
def PrivateBlindsCardSaid : Prop := Claim7.holds Tryz.pinned (.plain (OpenSpec.ofChange privateBlindsSpec)) privateBlindsCard

/-- THE TIED CARD OF 'sconcelaw22.PrivateFaults'. -/
def privateFaultsCard : Claim7 := { stood := { row := privateFaultsRow, standIns := [], harness := (true, "c007911150e1ea5678751471adc02aef2935a10bffbc8199a68be3e33063eeb4"), looks := true }, kinds := [], alts := [], laidByText := true, laidKinds := [.data, .pinned], laidTests := true, laidLooks := .later }
def PrivateFaultsCardSaid : Prop := Claim7.holds Tryz.pinned (.plain (OpenSpec.ofChange privateFaultsSpec)) privateFaultsCard

/-- THE TIED CARD OF 'sconcelaw22.PrivateSeen'. -/
def privateSeenCard : Claim7 := { stood := { row := privateSeenRow, standIns := [], harness := (true, "c007911150e1ea5678751471adc02aef2935a10bffbc8199a68be3e33063eeb4"), looks := true }, kinds := [], alts := [], laidByText := true, laidKinds := [.data, .pinned], laidTests := true, laidLooks := .later }
def PrivateSeenCardSaid : Prop := Claim7.holds Tryz.pinned (.plain (OpenSpec.ofChange privateSeenSpec)) privateSeenCard

/-- THE TIED CARD OF 'sconcelaw22.PrivateBack'. -/
def privateBackCard : Claim7 := { stood := { row := privateBackRow, standIns := [], harness := (true, "c007911150e1ea5678751471adc02aef2935a10bffbc8199a68be3e33063eeb4"), looks := true }, kinds := [], alts := [], laidByText := true, laidKinds := [.data, .pinned], laidTests := true, laidLooks := .later }
def PrivateBackCardSaid : Prop := Claim7.holds Tryz.pinned (.plain (OpenSpec.ofChange privateBackSpec)) privateBackCard

/-- THE TIED CARD OF 'sconcelaw22.PrivateRight'. -/
def privateRightCard : Claim7 := { stood := { row := privateRightRow, standIns := [], harness := (true, "c007911150e1ea5678751471adc02aef2935a10bffbc8199a68be3e33063eeb4"), looks := true }, kinds := [], alts := [], laidByText := true, laidKinds := [.data, .pinned], laidTests := true, laidLooks := .later }
def PrivateRightCardSaid : Prop := Claim7.holds Tryz.pinned (.plain (OpenSpec.ofChange privateRightSpec)) privateRightCard

/-- THE SECOND FORM's CARD OF 'sconcelaw22.PrivatePlain'. -/
def privatePlainUptoCard : Claim7 := { stood := { row := privatePlainUptoRow, standIns := [], harness := (true, "c007911150e1ea5678751471adc02aef2935a10bffbc8199a68be3e33063eeb4"), looks := true }, kinds := [], alts := [], laidByText := true, laidKinds := [.data, .pinned], laidTests := true, laidLooks := .later }
def PrivatePlainUptoCardSaid : Prop := Claim7.holds Tryz.pinned (.plain (OpenSpec.upto privatePlainSpec)) privatePlainUptoCard

/-- THE SECOND FORM's CARD OF 'sconcelaw22.PrivateBlinds'. -/
def privateBlindsUptoCard : Claim7 := { stood := { row := privateBlindsUptoRow, standIns := [], harness := (true, "c007911150e1ea5678751471adc02aef2935a10bffbc8199a68be3e33063eeb4"), looks := true }, kinds := [], alts := [], laidByText := true, laidKinds := [.data, .pinned], laidTests := true, laidLooks := .later }
def PrivateBlindsUptoCardSaid : Prop := Claim7.holds Tryz.pinned (.plain (OpenSpec.upto privateBlindsSpec)) privateBlindsUptoCard

/-- THE SECOND FORM's CARD OF 'sconcelaw22.PrivateFaults'. -/
def privateFaultsUptoCard : Claim7 := { stood := { row := privateFaultsUptoRow, standIns := [], harness := (true, "c007911150e1ea5678751471adc02aef2935a10bffbc8199a68be3e33063eeb4"), looks := true }, kinds := [], alts := [], laidByText := true, laidKinds := [.data, .pinned], laidTests := true, laidLooks := .later }
def PrivateFaultsUptoCardSaid : Prop := Claim7.holds Tryz.pinned (.plain (OpenSpec.upto privateFaultsSpec)) privateFaultsUptoCard

/-- THE SECOND FORM's CARD OF 'sconcelaw22.PrivateSeen'. -/
def privateSeenUptoCard : Claim7 := { stood := { row := privateSeenUptoRow, standIns := [], harness := (true, "c007911150e1ea5678751471adc02aef2935a10bffbc8199a68be3e33063eeb4"), looks := true }, kinds := [], alts := [], laidByText := true, laidKinds := [.data, .pinned], laidTests := true, laidLooks := .later }
def PrivateSeenUptoCardSaid : Prop := Claim7.holds Tryz.pinned (.plain (OpenSpec.upto privateSeenSpec)) privateSeenUptoCard

/-- THE SECOND FORM's CARD OF 'sconcelaw22.PrivateBack'. -/
def privateBackUptoCard : Claim7 := { stood := { row := privateBackUptoRow, standIns := [], harness := (true, "c007911150e1ea5678751471adc02aef2935a10bffbc8199a68be3e33063eeb4"), looks := true }, kinds := [], alts := [], laidByText := true, laidKinds := [.data, .pinned], laidTests := true, laidLooks := .later }
def PrivateBackUptoCardSaid : Prop := Claim7.holds Tryz.pinned (.plain (OpenSpec.upto privateBackSpec)) privateBackUptoCard

/-- THE SECOND FORM's CARD OF 'sconcelaw22.PrivateRight'. -/
def privateRightUptoCard : Claim7 := { stood := { row := privateRightUptoRow, standIns := [], harness := (true, "c007911150e1ea5678751471adc02aef2935a10bffbc8199a68be3e33063eeb4"), looks := true }, kinds := [], alts := [], laidByText := true, laidKinds := [.data, .pinned], laidTests := true, laidLooks := .later }
def PrivateRightUptoCardSaid : Prop := Claim7.holds Tryz.pinned (.plain (OpenSpec.upto privateRightSpec)) privateRightUptoCard
end Rows
end Go.Proofs.YtkaojflnghfmcaaGreatDoor
