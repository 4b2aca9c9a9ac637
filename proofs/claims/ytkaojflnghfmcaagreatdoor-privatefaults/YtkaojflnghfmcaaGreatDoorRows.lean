/-
  NARROWER THAN 'FOR EVERY INPUT', by the rows' own cells (each row's printed sentence says how): PrivatePlain: laid · PrivateBlinds: laid · PrivateFaults: laid · PrivateSeen: laid · PrivateBack: laid · PrivateRight: laid.
  DERIVED. THE GIVEN ROWS OF THIS SEAT. 6 by the template 'for every input the law returns true; each argument reads behind the call as it read before'; 0 by the template 'total and deterministic' (their statements: YtkaojflnghfmcaaGreatDoorTotals.lean).
  GIVEN WITH THE SEED: the statements are not yours to turn. If you find one false, say at which input.
  Laid BY PROGRAM, IN A SANDBOX (cutbox-rows.mjs): the forced cells as the released guide's own fill.sh prints them over the translation 34b4e0bc7a20a3f8… (all of the seat's roots in one cut). By AI agents, Wed Nov 11 2026. No macro, syntax, notation, axiom, sorry.
-/
import Derived.Test.YtkaojflnghfmcaaGreatDoorChecked
import GoSem.PinnedTables
import GoSem.Claim
import GoSem.ClaimJoined
import GoSem.ClaimMapViews
import Derived.JoinedTies
import Derived.KernelRfl
namespace Go.Proofs.YtkaojflnghfmcaaGreatDoor
/- THE CELL 'sum', in the pinned program and in every row, IS THE sha256 OF THE DUMP (.gsa) THAT YtkaojflnghfmcaaGreatDoorProg.lean LOADS. Nothing in Lean hashes anything: it is a label: what it is worth is what the hold of that sum in a sandbox is worth. -/
noncomputable def Tryz.pinned : Pinned := { name := "ytkaojflnghfmcaagreatdoor", sum := "34b4e0bc7a20a3f86d1530bb7368452641de46a8361386834bbb7f6d4d41b2f7", checked := Tryz.checked }
namespace Rows
def none {H : Type} : Left H := { results := [], args := [] }

/- WHAT THE LISTED PACKAGE-LEVEL VARIABLES READ AS WHEN THE CALL BEGINS. Each datum BY PROGRAM (the guide's laid-datum.mjs) off the statement by which the dump's own 'gosem.cut.vars' lays the variable. In a bare row this is a premise. The card (YtkaojflnghfmcaaGreatDoorCards.lean) ties it to the program's text. -/
def laid_unicode_utf8_acceptRanges {H : Type} : DataW H := .agg [.agg [.lit (.int .u8 128), .lit (.int .u8 191)], .agg [.lit (.int .u8 160), .lit (.int .u8 191)], .agg [.lit (.int .u8 128), .lit (.int .u8 159)], .agg [.lit (.int .u8 144), .lit (.int .u8 191)], .agg [.lit (.int .u8 128), .lit (.int .u8 143)], .agg [.lit (.int .u8 0), .lit (.int .u8 0)], .agg [.lit (.int .u8 0), .lit (.int .u8 0)], .agg [.lit (.int .u8 0), .lit (.int .u8 0)], .agg [.lit (.int .u8 0), .lit (.int .u8 0)], .agg [.lit (.int .u8 0), .lit (.int .u8 0)], .agg [.lit (.int .u8 0), .lit (.int .u8 0)], .agg [.lit (.int .u8 0), .lit (.int .u8 0)], .agg [.lit (.int .u8 0), .lit (.int .u8 0)], .agg [.lit (.int .u8 0), .lit (.int .u8 0)], .agg [.lit (.int .u8 0), .lit (.int .u8 0)], .agg [.lit (.int .u8 0), .lit (.int .u8 0)]]
/-- One of Go's own tables, pinned by name: the form's constant. -/
def laid_unicode_utf8_first : DataW Unit := Go.Pinned.utf8First

/-- 'sconcelaw22.PrivatePlain': WHATEVER THE INPUT: true; the input reads as it did. -/
def privatePlainSpec : ChangeSpec := { name := "privatePlain", fn := fun _ => fun
  | [d1, d2] => { results := [.lit (.bool true)], args := [d1, d2] }
  | _ => none }
def privatePlainRow : OpenClaim := { program := "ytkaojflnghfmcaagreatdoor", sum := "34b4e0bc7a20a3f86d1530bb7368452641de46a8361386834bbb7f6d4d41b2f7", func := "sconce/sconcelaw22.PrivatePlain", spec := "privatePlain", inPlace := ["math/bits.Add64", "math/bits.Sub64"], unfollowed := true, recurses := true, named := ["math/bits.divideError", "math/bits.overflowError", "unicode/utf8.first", "unicode/utf8.acceptRanges"], apart := false, laid := [("unicode/utf8.acceptRanges", laid_unicode_utf8_acceptRanges), ("unicode/utf8.first", laid_unicode_utf8_first)] }
def PrivatePlainSaid : Prop := privatePlainRow.holds Tryz.pinned (OpenSpec.ofChange privatePlainSpec)

/-- ITS FALSE NEIGHBOUR: 'it returns false'. Refute it at one input. -/
def privatePlainWrong : ChangeSpec := { name := "privatePlain", fn := fun _ => fun
  | [d1, d2] => { results := [.lit (.bool false)], args := [d1, d2] }
  | _ => none }
def PrivatePlainWrongFalsely : Prop := privatePlainRow.holds Tryz.pinned (OpenSpec.ofChange privatePlainWrong)

/-- 'sconcelaw22.PrivateBlinds': WHATEVER THE INPUT: true; the input reads as it did. -/
def privateBlindsSpec : ChangeSpec := { name := "privateBlinds", fn := fun _ => fun
  | [d1, d2] => { results := [.lit (.bool true)], args := [d1, d2] }
  | _ => none }
def privateBlindsRow : OpenClaim := { program := "ytkaojflnghfmcaagreatdoor", sum := "34b4e0bc7a20a3f86d1530bb7368452641de46a8361386834bbb7f6d4d41b2f7", func := "sconce/sconcelaw22.PrivateBlinds", spec := "privateBlinds", inPlace := ["math/bits.Add64", "math/bits.Sub64"], unfollowed := true, recurses := true, named := ["math/bits.divideError", "math/bits.overflowError", "unicode/utf8.first", "unicode/utf8.acceptRanges"], apart := false, laid := [("unicode/utf8.acceptRanges", laid_unicode_utf8_acceptRanges), ("unicode/utf8.first", laid_unicode_utf8_first)] }
def PrivateBlindsSaid : Prop := privateBlindsRow.holds Tryz.pinned (OpenSpec.ofChange privateBlindsSpec)

/-- ITS FALSE NEIGHBOUR: 'it returns false'. Refute it at one input. -/
def privateBlindsWrong : ChangeSpec := { name := "privateBlinds", fn := fun _ => fun
  | [d1, d2] => { results := [.lit (.bool false)], args := [d1, d2] }
  | _ => none }
def PrivateBlindsWrongFalsely : Prop := privateBlindsRow.holds Tryz.pinned (OpenSpec.ofChange privateBlindsWrong)

/-- 'sconcelaw22.PrivateFaults': WHATEVER THE INPUT: true; the input reads as it did. -/
def privateFaultsSpec : ChangeSpec := { name := "privateFaults", fn := fun _ => fun
  | [d1, d2, d3, d4] => { results := [.lit (.bool true)], args := [d1, d2, d3, d4] }
  | _ => none }
def privateFaultsRow : OpenClaim := { program := "ytkaojflnghfmcaagreatdoor", sum := "34b4e0bc7a20a3f86d1530bb7368452641de46a8361386834bbb7f6d4d41b2f7", func := "sconce/sconcelaw22.PrivateFaults", spec := "privateFaults", inPlace := ["math/bits.Add64", "math/bits.Sub64"], unfollowed := true, recurses := true, named := ["math/bits.divideError", "math/bits.overflowError", "unicode/utf8.first", "unicode/utf8.acceptRanges"], apart := false, laid := [("unicode/utf8.acceptRanges", laid_unicode_utf8_acceptRanges), ("unicode/utf8.first", laid_unicode_utf8_first)] }
def PrivateFaultsSaid : Prop := privateFaultsRow.holds Tryz.pinned (OpenSpec.ofChange privateFaultsSpec)

/-- ITS FALSE NEIGHBOUR: 'it returns false'. Refute it at one input. -/
def privateFaultsWrong : ChangeSpec := { name := "privateFaults", fn := fun _ => fun
  | [d1, d2, d3, d4] => { results := [.lit (.bool false)], args := [d1, d2, d3, d4] }
  | _ => none }
def PrivateFaultsWrongFalsely : Prop := privateFaultsRow.holds Tryz.pinned (OpenSpec.ofChange privateFaultsWrong)

/-- 'sconcelaw22.PrivateSeen': WHATEVER THE INPUT: true; the input reads as it did. -/
def privateSeenSpec : ChangeSpec := { name := "privateSeen", fn := fun _ => fun
  | [d1, d2, d3, d4, d5, d6, d7, d8] => { results := [.lit (.bool true)], args := [d1, d2, d3, d4, d5, d6, d7, d8] }
  | _ => none }
def privateSeenRow : OpenClaim := { program := "ytkaojflnghfmcaagreatdoor", sum := "34b4e0bc7a20a3f86d1530bb7368452641de46a8361386834bbb7f6d4d41b2f7", func := "sconce/sconcelaw22.PrivateSeen", spec := "privateSeen", inPlace := ["math/bits.Add64", "math/bits.Sub64"], unfollowed := true, recurses := true, named := ["math/bits.divideError", "math/bits.overflowError", "unicode/utf8.first", "unicode/utf8.acceptRanges"], apart := false, laid := [("unicode/utf8.acceptRanges", laid_unicode_utf8_acceptRanges), ("unicode/utf8.first", laid_unicode_utf8_first)] }
def PrivateSeenSaid : Prop := privateSeenRow.holds Tryz.pinned (OpenSpec.ofChange privateSeenSpec)

/-- ITS FALSE NEIGHBOUR: 'it returns false'. Refute it at one input. -/
def privateSeenWrong : ChangeSpec := { name := "privateSeen", fn := fun _ => fun
  | [d1, d2, d3, d4, d5, d6, d7, d8] => { results := [.lit (.bool false)], args := [d1, d2, d3, d4, d5, d6, d7, d8] }
  | _ => none }
def PrivateSeenWrongFalsely : Prop := privateSeenRow.holds Tryz.pinned (OpenSpec.ofChange privateSeenWrong)

/-- 'sconcelaw22.PrivateBack': WHATEVER THE INPUT: true; the input reads as it did. -/
def privateBackSpec : ChangeSpec := { name := "privateBack", fn := fun _ => fun
  | [d1, d2, d3, d4, d5] => { results := [.lit (.bool true)], args := [d1, d2, d3, d4, d5] }
  | _ => none }
def privateBackRow : OpenClaim := { program := "ytkaojflnghfmcaagreatdoor", sum := "34b4e0bc7a20a3f86d1530bb7368452641de46a8361386834bbb7f6d4d41b2f7", func := "sconce/sconcelaw22.PrivateBack", spec := "privateBack", inPlace := ["math/bits.Add64", "math/bits.Sub64"], unfollowed := true, recurses := true, named := ["math/bits.divideError", "math/bits.overflowError", "unicode/utf8.first", "unicode/utf8.acceptRanges"], apart := false, laid := [("unicode/utf8.acceptRanges", laid_unicode_utf8_acceptRanges), ("unicode/utf8.first", laid_unicode_utf8_first)] }
def PrivateBackSaid : Prop := privateBackRow.holds Tryz.pinned (OpenSpec.ofChange privateBackSpec)

/-- ITS FALSE NEIGHBOUR: 'it returns false'. Refute it at one input. -/
def privateBackWrong : ChangeSpec := { name := "privateBack", fn := fun _ => fun
  | [d1, d2, d3, d4, d5] => { results := [.lit (.bool false)], args := [d1, d2, d3, d4, d5] }
  | _ => none }
def PrivateBackWrongFalsely : Prop := privateBackRow.holds Tryz.pinned (OpenSpec.ofChange privateBackWrong)

/-- 'sconcelaw22.PrivateRight': WHATEVER THE INPUT: true; the input reads as it did. -/
def privateRightSpec : ChangeSpec := { name := "privateRight", fn := fun _ => fun
  | [d1, d2, d3, d4, d5, d6] => { results := [.lit (.bool true)], args := [d1, d2, d3, d4, d5, d6] }
  | _ => none }
def privateRightRow : OpenClaim := { program := "ytkaojflnghfmcaagreatdoor", sum := "34b4e0bc7a20a3f86d1530bb7368452641de46a8361386834bbb7f6d4d41b2f7", func := "sconce/sconcelaw22.PrivateRight", spec := "privateRight", inPlace := ["math/bits.Add64", "math/bits.Sub64"], unfollowed := true, recurses := true, named := ["math/bits.divideError", "math/bits.overflowError", "unicode/utf8.first", "unicode/utf8.acceptRanges"], apart := false, laid := [("unicode/utf8.acceptRanges", laid_unicode_utf8_acceptRanges), ("unicode/utf8.first", laid_unicode_utf8_first)] }
def PrivateRightSaid : Prop := privateRightRow.holds Tryz.pinned (OpenSpec.ofChange privateRightSpec)

/-- ITS FALSE NEIGHBOUR: 'it returns false'. Refute it at one input. -/
def privateRightWrong : ChangeSpec := { name := "privateRight", fn := fun _ => fun
  | [d1, d2, d3, d4, d5, d6] => { results := [.lit (.bool false)], args := [d1, d2, d3, d4, d5, d6] }
  | _ => none }
def PrivateRightWrongFalsely : Prop := privateRightRow.holds Tryz.pinned (OpenSpec.ofChange privateRightWrong)

/- THE SECOND FORM. 'bulk': how many values and letters a reading holds, each counted each time it is reached (what is shared counts as often as it is met; a slice's spare places count too). A statement '..UptoSaid' is the law's where the arguments, and the package variables that the reading takes, are together of bulk at most 1048576: NARROWER than '..Said'. Prove '..Said' where nothing that the law and all that it calls make is longer than what came in: it says more and counts as full. Else prove '..UptoSaid'. A law counts once. -/
mutual
def uptoBulk {H : Type} : DataW H → Nat
  | .lit (.string bytes) => bytes.length + 1
  | .lit _ => 1
  | .nil => 1
  | .ptr d => uptoBulk d + 1
  | .slice elems spare => uptoBulkAll elems + uptoBulkAll spare + 1
  | .agg parts => uptoBulkAll parts + 1
  | .iface _ d => uptoBulk d + 1
  | .map entries => uptoBulkEntries entries + 1
  | .held _ => 1
def uptoBulkAll {H : Type} : List (DataW H) → Nat
  | [] => 0
  | d :: r => uptoBulk d + uptoBulkAll r
def uptoBulkEntries {H : Type} : List (Lit × DataW H) → Nat
  | [] => 0
  | x :: r => uptoBulkEntry x + uptoBulkEntries r
def uptoBulkEntry {H : Type} : Lit × DataW H → Nat
  | (.string bytes, d) => bytes.length + uptoBulk d + 1
  | (_, d) => uptoBulk d + 1
 end
def uptoSmall : (H : Type) → List (DataW H) → Bool := fun _ ds => decide (uptoBulkAll ds ≤ 1048576)
def OpenSpec.upto (s : _root_.Go.ChangeSpec) : _root_.Go.OpenSpec := { _root_.Go.OpenSpec.ofChange s with cond := some uptoSmall }

/-- 'sconcelaw22.PrivatePlain', WHERE WHAT IT READS IS OF BULK AT MOST 1048576: true; the input reads as it did. -/
def privatePlainUptoRow : OpenClaim := { program := "ytkaojflnghfmcaagreatdoor", sum := "34b4e0bc7a20a3f86d1530bb7368452641de46a8361386834bbb7f6d4d41b2f7", func := "sconce/sconcelaw22.PrivatePlain", spec := "privatePlain", inPlace := ["math/bits.Add64", "math/bits.Sub64"], unfollowed := true, recurses := true, named := ["math/bits.divideError", "math/bits.overflowError", "unicode/utf8.first", "unicode/utf8.acceptRanges"], apart := false, laid := [("unicode/utf8.acceptRanges", laid_unicode_utf8_acceptRanges), ("unicode/utf8.first", laid_unicode_utf8_first)], narrowed := true }
def PrivatePlainUptoSaid : Prop := privatePlainUptoRow.holds Tryz.pinned (OpenSpec.upto privatePlainSpec)

/-- 'sconcelaw22.PrivateBlinds', WHERE WHAT IT READS IS OF BULK AT MOST 1048576: true; the input reads as it did. -/
def privateBlindsUptoRow : OpenClaim := { program := "ytkaojflnghfmcaagreatdoor", sum := "34b4e0bc7a20a3f86d1530bb7368452641de46a8361386834bbb7f6d4d41b2f7", func := "sconce/sconcelaw22.PrivateBlinds", spec := "privateBlinds", inPlace := ["math/bits.Add64", "math/bits.Sub64"], unfollowed := true, recurses := true, named := ["math/bits.divideError", "math/bits.overflowError", "unicode/utf8.first", "unicode/utf8.acceptRanges"], apart := false, laid := [("unicode/utf8.acceptRanges", laid_unicode_utf8_acceptRanges), ("unicode/utf8.first", laid_unicode_utf8_first)], narrowed := true }
def PrivateBlindsUptoSaid : Prop := privateBlindsUptoRow.holds Tryz.pinned (OpenSpec.upto privateBlindsSpec)

/-- 'sconcelaw22.PrivateFaults', WHERE WHAT IT READS IS OF BULK AT MOST 1048576: true; the input reads as it did. -/
def privateFaultsUptoRow : OpenClaim := { program := "ytkaojflnghfmcaagreatdoor", sum := "34b4e0bc7a20a3f86d1530bb7368452641de46a8361386834bbb7f6d4d41b2f7", func := "sconce/sconcelaw22.PrivateFaults", spec := "privateFaults", inPlace := ["math/bits.Add64", "math/bits.Sub64"], unfollowed := true, recurses := true, named := ["math/bits.divideError", "math/bits.overflowError", "unicode/utf8.first", "unicode/utf8.acceptRanges"], apart := false, laid := [("unicode/utf8.acceptRanges", laid_unicode_utf8_acceptRanges), ("unicode/utf8.first", laid_unicode_utf8_first)], narrowed := true }
def PrivateFaultsUptoSaid : Prop := privateFaultsUptoRow.holds Tryz.pinned (OpenSpec.upto privateFaultsSpec)

/-- 'sconcelaw22.PrivateSeen', WHERE WHAT IT READS IS OF BULK AT MOST 1048576: true; the input reads as it did. -/
def privateSeenUptoRow : OpenClaim := { program := "ytkaojflnghfmcaagreatdoor", sum := "34b4e0bc7a20a3f86d1530bb7368452641de46a8361386834bbb7f6d4d41b2f7", func := "sconce/sconcelaw22.PrivateSeen", spec := "privateSeen", inPlace := ["math/bits.Add64", "math/bits.Sub64"], unfollowed := true, recurses := true, named := ["math/bits.divideError", "math/bits.overflowError", "unicode/utf8.first", "unicode/utf8.acceptRanges"], apart := false, laid := [("unicode/utf8.acceptRanges", laid_unicode_utf8_acceptRanges), ("unicode/utf8.first", laid_unicode_utf8_first)], narrowed := true }
def PrivateSeenUptoSaid : Prop := privateSeenUptoRow.holds Tryz.pinned (OpenSpec.upto privateSeenSpec)

/-- 'sconcelaw22.PrivateBack', WHERE WHAT IT READS IS OF BULK AT MOST 1048576: true; the input reads as it did. -/
def privateBackUptoRow : OpenClaim := { program := "ytkaojflnghfmcaagreatdoor", sum := "34b4e0bc7a20a3f86d1530bb7368452641de46a8361386834bbb7f6d4d41b2f7", func := "sconce/sconcelaw22.PrivateBack", spec := "privateBack", inPlace := ["math/bits.Add64", "math/bits.Sub64"], unfollowed := true, recurses := true, named := ["math/bits.divideError", "math/bits.overflowError", "unicode/utf8.first", "unicode/utf8.acceptRanges"], apart := false, laid := [("unicode/utf8.acceptRanges", laid_unicode_utf8_acceptRanges), ("unicode/utf8.first", laid_unicode_utf8_first)], narrowed := true }
def PrivateBackUptoSaid : Prop := privateBackUptoRow.holds Tryz.pinned (OpenSpec.upto privateBackSpec)

/-- 'sconcelaw22.PrivateRight', WHERE WHAT IT READS IS OF BULK AT MOST 1048576: true; the input reads as it did. -/
def privateRightUptoRow : OpenClaim := { program := "ytkaojflnghfmcaagreatdoor", sum := "34b4e0bc7a20a3f86d1530bb7368452641de46a8361386834bbb7f6d4d41b2f7", func := "sconce/sconcelaw22.PrivateRight", spec := "privateRight", inPlace := ["math/bits.Add64", "math/bits.Sub64"], unfollowed := true, recurses := true, named := ["math/bits.divideError", "math/bits.overflowError", "unicode/utf8.first", "unicode/utf8.acceptRanges"], apart := false, laid := [("unicode/utf8.acceptRanges", laid_unicode_utf8_acceptRanges), ("unicode/utf8.first", laid_unicode_utf8_first)], narrowed := true }
def PrivateRightUptoSaid : Prop := privateRightUptoRow.holds Tryz.pinned (OpenSpec.upto privateRightSpec)

end Rows
end Go.Proofs.YtkaojflnghfmcaaGreatDoor
