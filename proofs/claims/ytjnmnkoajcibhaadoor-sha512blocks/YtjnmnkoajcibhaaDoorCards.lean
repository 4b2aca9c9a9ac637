/-
  DERIVED. GIVEN WITH THE SEED: THE CARDS: each row of YtjnmnkoajcibhaaDoorRows.lean that lists a variable, with what it lists TIED to the program's text (the seventh form; the later family's looks); each row that meets fmt, with fmt's text TOLD by the authors' own Lean function (tested against real Go, not proved from fmt's source: count such statements apart). THE CARD IS WHAT COUNTS. Prove the row's statement (the work); the ties are given (YtjnmnkoajcibhaaDoorTie.lean); close each card by the builder's one call (the guide's Derived/Test/ToyasCard.lean, 'card_holds'). Laid BY PROGRAM, IN A SANDBOX (cutbox-door.mjs). By AI agents, Wed Nov 11 2026. No macro, syntax, notation, axiom, sorry.
-/
import Derived.Test.YtjnmnkoajcibhaaDoorRows
import GoSem.ClaimSeven
namespace Go.Proofs.YtjnmnkoajcibhaaDoor
namespace Rows

/-- THE TIED CARD OF 'sconcelaw12.Sha512Sums'. -/
def sha512SumsCard : Claim7 := { stood := { row := sha512SumsRow, standIns := [], harness := (true, "27a89c82c37b446989eec670add353ddca46cbc251fe5795af26f1315045f90c"), looks := false }, kinds := [], alts := [], laidByText := true, laidKinds := [.data, .data, .data], laidTests := true, laidLooks := .later }
def Sha512SumsCardSaid : Prop := Claim7.holds Tryd.pinned (.plain (OpenSpec.ofChange sha512SumsSpec)) sha512SumsCard

/-- THE TIED CARD OF 'sconcelaw12.Sha512Blocks'. -/
def sha512BlocksCard : Claim7 := { stood := { row := sha512BlocksRow, standIns := [], harness := (true, "27a89c82c37b446989eec670add353ddca46cbc251fe5795af26f1315045f90c"), looks := false }, kinds := [], alts := [], laidByText := true, laidKinds := [.data, .data, .data], laidTests := true, laidLooks := .later }
def Sha512BlocksCardSaid : Prop := Claim7.holds Tryd.pinned (.plain (OpenSpec.ofChange sha512BlocksSpec)) sha512BlocksCard

/-- THE TIED CARD OF 'sconcelaw12.Sha512Pads'. -/
def sha512PadsCard : Claim7 := { stood := { row := sha512PadsRow, standIns := [], harness := (true, "27a89c82c37b446989eec670add353ddca46cbc251fe5795af26f1315045f90c"), looks := false }, kinds := [], alts := [], laidByText := true, laidKinds := [.data, .data, .data], laidTests := true, laidLooks := .later }
def Sha512PadsCardSaid : Prop := Claim7.holds Tryd.pinned (.plain (OpenSpec.ofChange sha512PadsSpec)) sha512PadsCard

/-- THE TIED CARD OF 'sconcelaw12.Sha512Parts'. -/
def sha512PartsCard : Claim7 := { stood := { row := sha512PartsRow, standIns := [], harness := (true, "27a89c82c37b446989eec670add353ddca46cbc251fe5795af26f1315045f90c"), looks := false }, kinds := [], alts := [], laidByText := true, laidKinds := [.data, .data, .data], laidTests := true, laidLooks := .later }
def Sha512PartsCardSaid : Prop := Claim7.holds Tryd.pinned (.plain (OpenSpec.ofChange sha512PartsSpec)) sha512PartsCard

/-- THE SECOND FORM's CARD OF 'sconcelaw12.Sha512Sums'. -/
def sha512SumsUptoCard : Claim7 := { stood := { row := sha512SumsUptoRow, standIns := [], harness := (true, "27a89c82c37b446989eec670add353ddca46cbc251fe5795af26f1315045f90c"), looks := false }, kinds := [], alts := [], laidByText := true, laidKinds := [.data, .data, .data], laidTests := true, laidLooks := .later }
def Sha512SumsUptoCardSaid : Prop := Claim7.holds Tryd.pinned (.plain (OpenSpec.upto sha512SumsSpec)) sha512SumsUptoCard

/-- THE SECOND FORM's CARD OF 'sconcelaw12.Sha512Blocks'. -/
def sha512BlocksUptoCard : Claim7 := { stood := { row := sha512BlocksUptoRow, standIns := [], harness := (true, "27a89c82c37b446989eec670add353ddca46cbc251fe5795af26f1315045f90c"), looks := false }, kinds := [], alts := [], laidByText := true, laidKinds := [.data, .data, .data], laidTests := true, laidLooks := .later }
def Sha512BlocksUptoCardSaid : Prop := Claim7.holds Tryd.pinned (.plain (OpenSpec.upto sha512BlocksSpec)) sha512BlocksUptoCard

/-- THE SECOND FORM's CARD OF 'sconcelaw12.Sha512Pads'. -/
def sha512PadsUptoCard : Claim7 := { stood := { row := sha512PadsUptoRow, standIns := [], harness := (true, "27a89c82c37b446989eec670add353ddca46cbc251fe5795af26f1315045f90c"), looks := false }, kinds := [], alts := [], laidByText := true, laidKinds := [.data, .data, .data], laidTests := true, laidLooks := .later }
def Sha512PadsUptoCardSaid : Prop := Claim7.holds Tryd.pinned (.plain (OpenSpec.upto sha512PadsSpec)) sha512PadsUptoCard

/-- THE SECOND FORM's CARD OF 'sconcelaw12.Sha512Parts'. -/
def sha512PartsUptoCard : Claim7 := { stood := { row := sha512PartsUptoRow, standIns := [], harness := (true, "27a89c82c37b446989eec670add353ddca46cbc251fe5795af26f1315045f90c"), looks := false }, kinds := [], alts := [], laidByText := true, laidKinds := [.data, .data, .data], laidTests := true, laidLooks := .later }
def Sha512PartsUptoCardSaid : Prop := Claim7.holds Tryd.pinned (.plain (OpenSpec.upto sha512PartsSpec)) sha512PartsUptoCard
end Rows
end Go.Proofs.YtjnmnkoajcibhaaDoor
