/-
  DERIVED. GIVEN WITH THE SEED: THE CARDS: each row of YtcdpmiheeenmmaaDoorRows.lean that lists a variable, with what it lists TIED to the program's text (the seventh form; the later family's looks); each row that meets fmt, with fmt's text TOLD by the authors' own Lean function (tested against real Go, not proved from fmt's source: count such statements apart). THE CARD IS WHAT COUNTS. Prove the row's statement (the work); the ties are given (YtcdpmiheeenmmaaDoorTie.lean); close each card by the builder's one call (the guide's Derived/Test/ToyasCard.lean, 'card_holds'). Laid BY PROGRAM, IN A SANDBOX (cutbox-door.mjs). By AI agents, Wed Nov 11 2026. No macro, syntax, notation, axiom, sorry.
-/
import Derived.Test.YtcdpmiheeenmmaaDoorRows
import GoSem.ClaimSeven
namespace Go.Proofs.YtcdpmiheeenmmaaDoor
namespace Rows

/-- THE TIED CARD OF 'sconcelaw03.NatOf'. -/
def natOfCard : Claim7 := { stood := { row := natOfRow, standIns := [], harness := (true, "d92cd5b23a9654359aa83e6556d891cd555befb4b54f1767709c362a136d3fd5"), looks := false }, kinds := [], alts := [], laidByText := true, laidKinds := [.data, .data, .data, .data, .pinned], laidTests := true, laidLooks := .later }
def NatOfCardSaid : Prop := Claim7.holds Tryd.pinned (.plain (OpenSpec.ofChange natOfSpec)) natOfCard

/-- THE TIED CARD OF 'sconcelaw03.NatBytes'. -/
def natBytesCard : Claim7 := { stood := { row := natBytesRow, standIns := [], harness := (true, "d92cd5b23a9654359aa83e6556d891cd555befb4b54f1767709c362a136d3fd5"), looks := false }, kinds := [], alts := [], laidByText := true, laidKinds := [.data, .data, .data, .data, .pinned], laidTests := true, laidLooks := .later }
def NatBytesCardSaid : Prop := Claim7.holds Tryd.pinned (.plain (OpenSpec.ofChange natBytesSpec)) natBytesCard

/-- THE TIED CARD OF 'sconcelaw03.NatWords'. -/
def natWordsCard : Claim7 := { stood := { row := natWordsRow, standIns := [], harness := (true, "d92cd5b23a9654359aa83e6556d891cd555befb4b54f1767709c362a136d3fd5"), looks := false }, kinds := [], alts := [], laidByText := true, laidKinds := [.data, .data, .data, .data, .pinned], laidTests := true, laidLooks := .later }
def NatWordsCardSaid : Prop := Claim7.holds Tryd.pinned (.plain (OpenSpec.ofChange natWordsSpec)) natWordsCard

/-- THE TIED CARD OF 'sconcelaw03.NatTells'. -/
def natTellsCard : Claim7 := { stood := { row := natTellsRow, standIns := [], harness := (true, "d92cd5b23a9654359aa83e6556d891cd555befb4b54f1767709c362a136d3fd5"), looks := false }, kinds := [], alts := [], laidByText := true, laidKinds := [.data, .data, .data, .data, .pinned], laidTests := true, laidLooks := .later }
def NatTellsCardSaid : Prop := Claim7.holds Tryd.pinned (.plain (OpenSpec.ofChange natTellsSpec)) natTellsCard

/-- THE TIED CARD OF 'sconcelaw03.NatShows'. -/
def natShowsCard : Claim7 := { stood := { row := natShowsRow, standIns := [], harness := (true, "d92cd5b23a9654359aa83e6556d891cd555befb4b54f1767709c362a136d3fd5"), looks := false }, kinds := [], alts := [], laidByText := true, laidKinds := [.data, .data, .data, .data, .pinned], laidTests := true, laidLooks := .later }
def NatShowsCardSaid : Prop := Claim7.holds Tryd.pinned (.plain (OpenSpec.ofChange natShowsSpec)) natShowsCard

/-- THE TIED CARD OF 'sconcelaw03.NatBack'. -/
def natBackCard : Claim7 := { stood := { row := natBackRow, standIns := [], harness := (true, "d92cd5b23a9654359aa83e6556d891cd555befb4b54f1767709c362a136d3fd5"), looks := false }, kinds := [], alts := [], laidByText := true, laidKinds := [.data, .data, .data, .data, .pinned], laidTests := true, laidLooks := .later }
def NatBackCardSaid : Prop := Claim7.holds Tryd.pinned (.plain (OpenSpec.ofChange natBackSpec)) natBackCard

/-- THE SECOND FORM's CARD OF 'sconcelaw03.NatOf'. -/
def natOfUptoCard : Claim7 := { stood := { row := natOfUptoRow, standIns := [], harness := (true, "d92cd5b23a9654359aa83e6556d891cd555befb4b54f1767709c362a136d3fd5"), looks := false }, kinds := [], alts := [], laidByText := true, laidKinds := [.data, .data, .data, .data, .pinned], laidTests := true, laidLooks := .later }
def NatOfUptoCardSaid : Prop := Claim7.holds Tryd.pinned (.plain (OpenSpec.upto natOfSpec)) natOfUptoCard

/-- THE SECOND FORM's CARD OF 'sconcelaw03.NatBytes'. -/
def natBytesUptoCard : Claim7 := { stood := { row := natBytesUptoRow, standIns := [], harness := (true, "d92cd5b23a9654359aa83e6556d891cd555befb4b54f1767709c362a136d3fd5"), looks := false }, kinds := [], alts := [], laidByText := true, laidKinds := [.data, .data, .data, .data, .pinned], laidTests := true, laidLooks := .later }
def NatBytesUptoCardSaid : Prop := Claim7.holds Tryd.pinned (.plain (OpenSpec.upto natBytesSpec)) natBytesUptoCard

/-- THE SECOND FORM's CARD OF 'sconcelaw03.NatWords'. -/
def natWordsUptoCard : Claim7 := { stood := { row := natWordsUptoRow, standIns := [], harness := (true, "d92cd5b23a9654359aa83e6556d891cd555befb4b54f1767709c362a136d3fd5"), looks := false }, kinds := [], alts := [], laidByText := true, laidKinds := [.data, .data, .data, .data, .pinned], laidTests := true, laidLooks := .later }
def NatWordsUptoCardSaid : Prop := Claim7.holds Tryd.pinned (.plain (OpenSpec.upto natWordsSpec)) natWordsUptoCard

/-- THE SECOND FORM's CARD OF 'sconcelaw03.NatTells'. -/
def natTellsUptoCard : Claim7 := { stood := { row := natTellsUptoRow, standIns := [], harness := (true, "d92cd5b23a9654359aa83e6556d891cd555befb4b54f1767709c362a136d3fd5"), looks := false }, kinds := [], alts := [], laidByText := true, laidKinds := [.data, .data, .data, .data, .pinned], laidTests := true, laidLooks := .later }
def NatTellsUptoCardSaid : Prop := Claim7.holds Tryd.pinned (.plain (OpenSpec.upto natTellsSpec)) natTellsUptoCard

/-- THE SECOND FORM's CARD OF 'sconcelaw03.NatShows'. -/
def natShowsUptoCard : Claim7 := { stood := { row := natShowsUptoRow, standIns := [], harness := (true, "d92cd5b23a9654359aa83e6556d891cd555befb4b54f1767709c362a136d3fd5"), looks := false }, kinds := [], alts := [], laidByText := true, laidKinds := [.data, .data, .data, .data, .pinned], laidTests := true, laidLooks := .later }
def NatShowsUptoCardSaid : Prop := Claim7.holds Tryd.pinned (.plain (OpenSpec.upto natShowsSpec)) natShowsUptoCard

/-- THE SECOND FORM's CARD OF 'sconcelaw03.NatBack'. -/
def natBackUptoCard : Claim7 := { stood := { row := natBackUptoRow, standIns := [], harness := (true, "d92cd5b23a9654359aa83e6556d891cd555befb4b54f1767709c362a136d3fd5"), looks := false }, kinds := [], alts := [], laidByText := true, laidKinds := [.data, .data, .data, .data, .pinned], laidTests := true, laidLooks := .later }
def NatBackUptoCardSaid : Prop := Claim7.holds Tryd.pinned (.plain (OpenSpec.upto natBackSpec)) natBackUptoCard
end Rows
end Go.Proofs.YtcdpmiheeenmmaaDoor
