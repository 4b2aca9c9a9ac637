/-
  NARROWER THAN 'FOR EVERY INPUT', by the rows' own cells (each row's printed sentence says how): KeygenPairs: laid · KeygenMakes: laid · KeygenFormed: laid.
  DERIVED. THE GIVEN ROWS OF THIS SEAT. 3 by the template 'for every input the law returns true; each argument reads behind the call as it read before'; 0 by the template 'total and deterministic' (their statements: YtcemlfokmjjiaaaGreatDoorTotals.lean).
  GIVEN WITH THE SEED: the statements are not yours to turn. If you find one false, say at which input.
  Laid BY PROGRAM, IN A SANDBOX (cutbox-rows.mjs): the forced cells as the released guide's own fill.sh prints them over the translation c44afb2094204e1c… (all of the seat's roots in one cut). By AI agents, Wed Nov 11 2026. No macro, syntax, notation, axiom, sorry.
-/
import Derived.Test.YtcemlfokmjjiaaaGreatDoorChecked
import GoSem.PinnedTables
import GoSem.Claim
import GoSem.ClaimJoined
import GoSem.ClaimMapViews
import Derived.JoinedTies
import Derived.KernelRfl
namespace Go.Proofs.YtcemlfokmjjiaaaGreatDoor
/- THE CELL 'sum', in the pinned program and in every row, IS THE sha256 OF THE DUMP (.gsa) THAT YtcemlfokmjjiaaaGreatDoorProg.lean LOADS. Nothing in Lean hashes anything: it is a label: what it is worth is what the hold of that sum in a sandbox is worth. -/
noncomputable def Tryz.pinned : Pinned := { name := "ytcemlfokmjjiaaagreatdoor", sum := "c44afb2094204e1ca1c2ef7adbcc030037e9f92dfeedbf8dbf14d24fe3b7b4ea", checked := Tryz.checked }
namespace Rows
def none {H : Type} : Left H := { results := [], args := [] }

/- WHAT THE LISTED PACKAGE-LEVEL VARIABLES READ AS WHEN THE CALL BEGINS. Each datum BY PROGRAM (the guide's laid-datum.mjs) off the statement by which the dump's own 'gosem.cut.vars' lays the variable. In a bare row this is a premise. The card (YtcemlfokmjjiaaaGreatDoorCards.lean) ties it to the program's text. -/
def laid_unicode_utf8_acceptRanges {H : Type} : DataW H := .agg [.agg [.lit (.int .u8 128), .lit (.int .u8 191)], .agg [.lit (.int .u8 160), .lit (.int .u8 191)], .agg [.lit (.int .u8 128), .lit (.int .u8 159)], .agg [.lit (.int .u8 144), .lit (.int .u8 191)], .agg [.lit (.int .u8 128), .lit (.int .u8 143)], .agg [.lit (.int .u8 0), .lit (.int .u8 0)], .agg [.lit (.int .u8 0), .lit (.int .u8 0)], .agg [.lit (.int .u8 0), .lit (.int .u8 0)], .agg [.lit (.int .u8 0), .lit (.int .u8 0)], .agg [.lit (.int .u8 0), .lit (.int .u8 0)], .agg [.lit (.int .u8 0), .lit (.int .u8 0)], .agg [.lit (.int .u8 0), .lit (.int .u8 0)], .agg [.lit (.int .u8 0), .lit (.int .u8 0)], .agg [.lit (.int .u8 0), .lit (.int .u8 0)], .agg [.lit (.int .u8 0), .lit (.int .u8 0)], .agg [.lit (.int .u8 0), .lit (.int .u8 0)]]
/-- One of Go's own tables, pinned by name: the form's constant. -/
def laid_unicode_utf8_first : DataW Unit := Go.Pinned.utf8First

/-- 'sconcelaw20.KeygenPairs': WHATEVER THE INPUT: true; the input reads as it did. -/
def keygenPairsSpec : ChangeSpec := { name := "keygenPairs", fn := fun _ => fun
  | [d1, d2, d3, d4] => { results := [.lit (.bool true)], args := [d1, d2, d3, d4] }
  | _ => none }
def keygenPairsRow : OpenClaim := { program := "ytcemlfokmjjiaaagreatdoor", sum := "c44afb2094204e1ca1c2ef7adbcc030037e9f92dfeedbf8dbf14d24fe3b7b4ea", func := "sconce/sconcelaw20.KeygenPairs", spec := "keygenPairs", inPlace := ["math/bits.Sub64", "math/bits.Add64"], unfollowed := true, recurses := true, named := ["unicode/utf8.first", "unicode/utf8.acceptRanges", "math/bits.divideError", "math/bits.overflowError"], apart := false, laid := [("unicode/utf8.acceptRanges", laid_unicode_utf8_acceptRanges), ("unicode/utf8.first", laid_unicode_utf8_first)] }
def KeygenPairsSaid : Prop := keygenPairsRow.holds Tryz.pinned (OpenSpec.ofChange keygenPairsSpec)

/-- ITS FALSE NEIGHBOUR: 'it returns false'. Refute it at one input. -/
def keygenPairsWrong : ChangeSpec := { name := "keygenPairs", fn := fun _ => fun
  | [d1, d2, d3, d4] => { results := [.lit (.bool false)], args := [d1, d2, d3, d4] }
  | _ => none }
def KeygenPairsWrongFalsely : Prop := keygenPairsRow.holds Tryz.pinned (OpenSpec.ofChange keygenPairsWrong)

/-- 'sconcelaw20.KeygenMakes': WHATEVER THE INPUT: true; the input reads as it did. -/
def keygenMakesSpec : ChangeSpec := { name := "keygenMakes", fn := fun _ => fun
  | [d1, d2, d3, d4] => { results := [.lit (.bool true)], args := [d1, d2, d3, d4] }
  | _ => none }
def keygenMakesRow : OpenClaim := { program := "ytcemlfokmjjiaaagreatdoor", sum := "c44afb2094204e1ca1c2ef7adbcc030037e9f92dfeedbf8dbf14d24fe3b7b4ea", func := "sconce/sconcelaw20.KeygenMakes", spec := "keygenMakes", inPlace := ["math/bits.Sub64", "math/bits.Add64"], unfollowed := true, recurses := true, named := ["unicode/utf8.first", "unicode/utf8.acceptRanges", "math/bits.divideError", "math/bits.overflowError"], apart := false, laid := [("unicode/utf8.acceptRanges", laid_unicode_utf8_acceptRanges), ("unicode/utf8.first", laid_unicode_utf8_first)] }
def KeygenMakesSaid : Prop := keygenMakesRow.holds Tryz.pinned (OpenSpec.ofChange keygenMakesSpec)

/-- ITS FALSE NEIGHBOUR: 'it returns false'. Refute it at one input. -/
def keygenMakesWrong : ChangeSpec := { name := "keygenMakes", fn := fun _ => fun
  | [d1, d2, d3, d4] => { results := [.lit (.bool false)], args := [d1, d2, d3, d4] }
  | _ => none }
def KeygenMakesWrongFalsely : Prop := keygenMakesRow.holds Tryz.pinned (OpenSpec.ofChange keygenMakesWrong)

/-- 'sconcelaw20.KeygenFormed': WHATEVER THE INPUT: true; the input reads as it did. -/
def keygenFormedSpec : ChangeSpec := { name := "keygenFormed", fn := fun _ => fun
  | [d1, d2, d3, d4] => { results := [.lit (.bool true)], args := [d1, d2, d3, d4] }
  | _ => none }
def keygenFormedRow : OpenClaim := { program := "ytcemlfokmjjiaaagreatdoor", sum := "c44afb2094204e1ca1c2ef7adbcc030037e9f92dfeedbf8dbf14d24fe3b7b4ea", func := "sconce/sconcelaw20.KeygenFormed", spec := "keygenFormed", inPlace := ["math/bits.Sub64", "math/bits.Add64"], unfollowed := true, recurses := true, named := ["unicode/utf8.first", "unicode/utf8.acceptRanges", "math/bits.divideError", "math/bits.overflowError"], apart := false, laid := [("unicode/utf8.acceptRanges", laid_unicode_utf8_acceptRanges), ("unicode/utf8.first", laid_unicode_utf8_first)] }
def KeygenFormedSaid : Prop := keygenFormedRow.holds Tryz.pinned (OpenSpec.ofChange keygenFormedSpec)

/-- ITS FALSE NEIGHBOUR: 'it returns false'. Refute it at one input. -/
def keygenFormedWrong : ChangeSpec := { name := "keygenFormed", fn := fun _ => fun
  | [d1, d2, d3, d4] => { results := [.lit (.bool false)], args := [d1, d2, d3, d4] }
  | _ => none }
def KeygenFormedWrongFalsely : Prop := keygenFormedRow.holds Tryz.pinned (OpenSpec.ofChange keygenFormedWrong)

/- THE SECOND FORM. 'bulk': how many values and letters a reading holds, each counted each time it is reached (what is shared counts as often as it is met; a slice's spare places count too). A statement '..UptoSaid' is the law's where the arguments, and the package variables that the reading takes, are together of bulk at most 1048576: NARROWER than '..Said'. Prove '..Said' where nothing that the law and all that it calls make is longer than what came in: it says more and counts as full. Else prove '..UptoSaid'. A law counts once. -/
mutual
def uptoBulk {H : Type} : DataW H → Nat
  | .lit (.string bytes) => bytes.length + 1
  | .lit _ => 1
  | .nil => 1
  | .ptr d => uptoBulk d + 1
  | .slice elems spare => uptoBulkAll elems + uptoBulkAll spare + 1
  | .agg parts => uptoBulkAll parts + 1
  | .iface _ d => uptoBulk d + 1
  | .map entries => uptoBulkEntries entries + 1
  | .held _ => 1
def uptoBulkAll {H : Type} : List (DataW H) → Nat
  | [] => 0
  | d :: r => uptoBulk d + uptoBulkAll r
def uptoBulkEntries {H : Type} : List (Lit × DataW H) → Nat
  | [] => 0
  | x :: r => uptoBulkEntry x + uptoBulkEntries r
def uptoBulkEntry {H : Type} : Lit × DataW H → Nat
  | (.string bytes, d) => bytes.length + uptoBulk d + 1
  | (_, d) => uptoBulk d + 1
 end
def uptoSmall : (H : Type) → List (DataW H) → Bool := fun _ ds => decide (uptoBulkAll ds ≤ 1048576)
def OpenSpec.upto (s : _root_.Go.ChangeSpec) : _root_.Go.OpenSpec := { _root_.Go.OpenSpec.ofChange s with cond := some uptoSmall }

/-- 'sconcelaw20.KeygenPairs', WHERE WHAT IT READS IS OF BULK AT MOST 1048576: true; the input reads as it did. -/
def keygenPairsUptoRow : OpenClaim := { program := "ytcemlfokmjjiaaagreatdoor", sum := "c44afb2094204e1ca1c2ef7adbcc030037e9f92dfeedbf8dbf14d24fe3b7b4ea", func := "sconce/sconcelaw20.KeygenPairs", spec := "keygenPairs", inPlace := ["math/bits.Sub64", "math/bits.Add64"], unfollowed := true, recurses := true, named := ["unicode/utf8.first", "unicode/utf8.acceptRanges", "math/bits.divideError", "math/bits.overflowError"], apart := false, laid := [("unicode/utf8.acceptRanges", laid_unicode_utf8_acceptRanges), ("unicode/utf8.first", laid_unicode_utf8_first)], narrowed := true }
def KeygenPairsUptoSaid : Prop := keygenPairsUptoRow.holds Tryz.pinned (OpenSpec.upto keygenPairsSpec)

/-- 'sconcelaw20.KeygenMakes', WHERE WHAT IT READS IS OF BULK AT MOST 1048576: true; the input reads as it did. -/
def keygenMakesUptoRow : OpenClaim := { program := "ytcemlfokmjjiaaagreatdoor", sum := "c44afb2094204e1ca1c2ef7adbcc030037e9f92dfeedbf8dbf14d24fe3b7b4ea", func := "sconce/sconcelaw20.KeygenMakes", spec := "keygenMakes", inPlace := ["math/bits.Sub64", "math/bits.Add64"], unfollowed := true, recurses := true, named := ["unicode/utf8.first", "unicode/utf8.acceptRanges", "math/bits.divideError", "math/bits.overflowError"], apart := false, laid := [("unicode/utf8.acceptRanges", laid_unicode_utf8_acceptRanges), ("unicode/utf8.first", laid_unicode_utf8_first)], narrowed := true }
def KeygenMakesUptoSaid : Prop := keygenMakesUptoRow.holds Tryz.pinned (OpenSpec.upto keygenMakesSpec)

/-- 'sconcelaw20.KeygenFormed', WHERE WHAT IT READS IS OF BULK AT MOST 1048576: true; the input reads as it did. -/
def keygenFormedUptoRow : OpenClaim := { program := "ytcemlfokmjjiaaagreatdoor", sum := "c44afb2094204e1ca1c2ef7adbcc030037e9f92dfeedbf8dbf14d24fe3b7b4ea", func := "sconce/sconcelaw20.KeygenFormed", spec := "keygenFormed", inPlace := ["math/bits.Sub64", "math/bits.Add64"], unfollowed := true, recurses := true, named := ["unicode/utf8.first", "unicode/utf8.acceptRanges", "math/bits.divideError", "math/bits.overflowError"], apart := false, laid := [("unicode/utf8.acceptRanges", laid_unicode_utf8_acceptRanges), ("unicode/utf8.first", laid_unicode_utf8_first)], narrowed := true }
def KeygenFormedUptoSaid : Prop := keygenFormedUptoRow.holds Tryz.pinned (OpenSpec.upto keygenFormedSpec)

end Rows
end Go.Proofs.YtcemlfokmjjiaaaGreatDoor
