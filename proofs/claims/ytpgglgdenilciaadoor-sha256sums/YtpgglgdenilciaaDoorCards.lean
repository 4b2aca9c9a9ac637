/-
  DERIVED. GIVEN WITH THE SEED: THE CARDS: each row of YtpgglgdenilciaaDoorRows.lean that lists a variable, with what it lists TIED to the program's text (the seventh form; the later family's looks); each row that meets fmt, with fmt's text TOLD by the authors' own Lean function (tested against real Go, not proved from fmt's source: count such statements apart). THE CARD IS WHAT COUNTS. Prove the row's statement (the work); the ties are given (YtpgglgdenilciaaDoorTie.lean); close each card by the builder's one call (the guide's Derived/Test/ToyasCard.lean, 'card_holds'). Laid BY PROGRAM, IN A SANDBOX (cutbox-door.mjs). By AI agents, Wed Nov 11 2026. No macro, syntax, notation, axiom, sorry.
-/
import Derived.Test.YtpgglgdenilciaaDoorRows
import GoSem.ClaimSeven
namespace Go.Proofs.YtpgglgdenilciaaDoor
namespace Rows

/-- THE TIED CARD OF 'sconcelaw11.Sha256Sums'. -/
def sha256SumsCard : Claim7 := { stood := { row := sha256SumsRow, standIns := [], harness := (true, "307668ed83e56bebcd5bb7468a4d11a5882dba765438aa6d60dc508c5da8e534"), looks := false }, kinds := [], alts := [], laidByText := true, laidKinds := [.data, .data], laidTests := true, laidLooks := .later }
def Sha256SumsCardSaid : Prop := Claim7.holds Tryd.pinned (.plain (OpenSpec.ofChange sha256SumsSpec)) sha256SumsCard

/-- THE TIED CARD OF 'sconcelaw11.Sha256Blocks'. -/
def sha256BlocksCard : Claim7 := { stood := { row := sha256BlocksRow, standIns := [], harness := (true, "307668ed83e56bebcd5bb7468a4d11a5882dba765438aa6d60dc508c5da8e534"), looks := false }, kinds := [], alts := [], laidByText := true, laidKinds := [.data, .data], laidTests := true, laidLooks := .later }
def Sha256BlocksCardSaid : Prop := Claim7.holds Tryd.pinned (.plain (OpenSpec.ofChange sha256BlocksSpec)) sha256BlocksCard

/-- THE TIED CARD OF 'sconcelaw11.Sha256Pads'. -/
def sha256PadsCard : Claim7 := { stood := { row := sha256PadsRow, standIns := [], harness := (true, "307668ed83e56bebcd5bb7468a4d11a5882dba765438aa6d60dc508c5da8e534"), looks := false }, kinds := [], alts := [], laidByText := true, laidKinds := [.data, .data], laidTests := true, laidLooks := .later }
def Sha256PadsCardSaid : Prop := Claim7.holds Tryd.pinned (.plain (OpenSpec.ofChange sha256PadsSpec)) sha256PadsCard

/-- THE TIED CARD OF 'sconcelaw11.Sha256Parts'. -/
def sha256PartsCard : Claim7 := { stood := { row := sha256PartsRow, standIns := [], harness := (true, "307668ed83e56bebcd5bb7468a4d11a5882dba765438aa6d60dc508c5da8e534"), looks := false }, kinds := [], alts := [], laidByText := true, laidKinds := [.data, .data], laidTests := true, laidLooks := .later }
def Sha256PartsCardSaid : Prop := Claim7.holds Tryd.pinned (.plain (OpenSpec.ofChange sha256PartsSpec)) sha256PartsCard

/-- THE SECOND FORM's CARD OF 'sconcelaw11.Sha256Sums'. -/
def sha256SumsUptoCard : Claim7 := { stood := { row := sha256SumsUptoRow, standIns := [], harness := (true, "307668ed83e56bebcd5bb7468a4d11a5882dba765438aa6d60dc508c5da8e534"), looks := false }, kinds := [], alts := [], laidByText := true, laidKinds := [.data, .data], laidTests := true, laidLooks := .later }
def Sha256SumsUptoCardSaid : Prop := Claim7.holds Tryd.pinned (.plain (OpenSpec.upto sha256SumsSpec)) sha256SumsUptoCard

/-- THE SECOND FORM's CARD OF 'sconcelaw11.Sha256Blocks'. -/
def sha256BlocksUptoCard : Claim7 := { stood := { row := sha256BlocksUptoRow, standIns := [], harness := (true, "307668ed83e56bebcd5bb7468a4d11a5882dba765438aa6d60dc508c5da8e534"), looks := false }, kinds := [], alts := [], laidByText := true, laidKinds := [.data, .data], laidTests := true, laidLooks := .later }
def Sha256BlocksUptoCardSaid : Prop := Claim7.holds Tryd.pinned (.plain (OpenSpec.upto sha256BlocksSpec)) sha256BlocksUptoCard

/-- THE SECOND FORM's CARD OF 'sconcelaw11.Sha256Pads'. -/
def sha256PadsUptoCard : Claim7 := { stood := { row := sha256PadsUptoRow, standIns := [], harness := (true, "307668ed83e56bebcd5bb7468a4d11a5882dba765438aa6d60dc508c5da8e534"), looks := false }, kinds := [], alts := [], laidByText := true, laidKinds := [.data, .data], laidTests := true, laidLooks := .later }
def Sha256PadsUptoCardSaid : Prop := Claim7.holds Tryd.pinned (.plain (OpenSpec.upto sha256PadsSpec)) sha256PadsUptoCard

/-- THE SECOND FORM's CARD OF 'sconcelaw11.Sha256Parts'. -/
def sha256PartsUptoCard : Claim7 := { stood := { row := sha256PartsUptoRow, standIns := [], harness := (true, "307668ed83e56bebcd5bb7468a4d11a5882dba765438aa6d60dc508c5da8e534"), looks := false }, kinds := [], alts := [], laidByText := true, laidKinds := [.data, .data], laidTests := true, laidLooks := .later }
def Sha256PartsUptoCardSaid : Prop := Claim7.holds Tryd.pinned (.plain (OpenSpec.upto sha256PartsSpec)) sha256PartsUptoCard
end Rows
end Go.Proofs.YtpgglgdenilciaaDoor
