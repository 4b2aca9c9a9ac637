/-
  No cell of these rows narrows 'for every input' (looked for: loops, veiled, ifaces, maps, wideKeys, modest, calm, conditions, laid).
  DERIVED. THE GIVEN ROWS OF THIS SEAT. 3 by the template 'for every input the law returns true; each argument reads behind the call as it read before'; 0 by the template 'total and deterministic' (their statements: YtnbjepjadekafaaTotals.lean).
  GIVEN WITH THE SEED: the statements are not yours to turn. If you find one false, say at which input.
  Laid BY PROGRAM, IN A SANDBOX (cutbox-rows.mjs): the forced cells as the released guide's own fill.sh prints them over the translation 2cb7285018513640… (all of the seat's roots in one cut). By AI agents, Wed Nov 11 2026. No macro, syntax, notation, axiom, sorry.
-/
import Derived.Test.YtnbjepjadekafaaChecked
import GoSem.Claim
import GoSem.ClaimJoined
import GoSem.ClaimMapViews
import Derived.JoinedTies
import Derived.KernelRfl
namespace Go.Proofs.Ytnbjepjadekafaa
/- THE CELL 'sum', in the pinned program and in every row, IS THE sha256 OF THE DUMP (.gsa) THAT YtnbjepjadekafaaProg.lean LOADS. Nothing in Lean hashes anything: it is a label: what it is worth is what the hold of that sum in a sandbox is worth. -/
noncomputable def Try.pinned : Pinned := { name := "ytnbjepjadekafaa", sum := "2cb7285018513640d1d56f3abe7435b7a91fff7c4e0fad37b9a8f45a6a6547e1", checked := Try.checked }
namespace Rows
def none {H : Type} : Left H := { results := [], args := [] }

/-- 'sconcelaw09.ShortExps': WHATEVER THE INPUT: true; the input reads as it did. -/
def shortExpsSpec : ChangeSpec := { name := "shortExps", fn := fun _ => fun
  | [d1, d2, d3] => { results := [.lit (.bool true)], args := [d1, d2, d3] }
  | _ => none }
def shortExpsRow : OpenClaim := { program := "ytnbjepjadekafaa", sum := "2cb7285018513640d1d56f3abe7435b7a91fff7c4e0fad37b9a8f45a6a6547e1", func := "sconce/sconcelaw09.ShortExps", spec := "shortExps", inPlace := ["math/bits.Add64", "math/bits.Sub64"], unfollowed := true, recurses := true, apart := false }
def ShortExpsSaid : Prop := shortExpsRow.holds Try.pinned (OpenSpec.ofChange shortExpsSpec)

/-- ITS FALSE NEIGHBOUR: 'it returns false'. Refute it at one input. -/
def shortExpsWrong : ChangeSpec := { name := "shortExps", fn := fun _ => fun
  | [d1, d2, d3] => { results := [.lit (.bool false)], args := [d1, d2, d3] }
  | _ => none }
def ShortExpsWrongFalsely : Prop := shortExpsRow.holds Try.pinned (OpenSpec.ofChange shortExpsWrong)

/-- 'sconcelaw09.ShortQuick': WHATEVER THE INPUT: true; the input reads as it did. -/
def shortQuickSpec : ChangeSpec := { name := "shortQuick", fn := fun _ => fun
  | [d1, d2, d3] => { results := [.lit (.bool true)], args := [d1, d2, d3] }
  | _ => none }
def shortQuickRow : OpenClaim := { program := "ytnbjepjadekafaa", sum := "2cb7285018513640d1d56f3abe7435b7a91fff7c4e0fad37b9a8f45a6a6547e1", func := "sconce/sconcelaw09.ShortQuick", spec := "shortQuick", inPlace := ["math/bits.Add64", "math/bits.Sub64"], unfollowed := true, recurses := true, apart := false }
def ShortQuickSaid : Prop := shortQuickRow.holds Try.pinned (OpenSpec.ofChange shortQuickSpec)

/-- ITS FALSE NEIGHBOUR: 'it returns false'. Refute it at one input. -/
def shortQuickWrong : ChangeSpec := { name := "shortQuick", fn := fun _ => fun
  | [d1, d2, d3] => { results := [.lit (.bool false)], args := [d1, d2, d3] }
  | _ => none }
def ShortQuickWrongFalsely : Prop := shortQuickRow.holds Try.pinned (OpenSpec.ofChange shortQuickWrong)

/-- 'sconcelaw09.ShortChains': WHATEVER THE INPUT: true; the input reads as it did. -/
def shortChainsSpec : ChangeSpec := { name := "shortChains", fn := fun _ => fun
  | [d1, d2, d3, d4] => { results := [.lit (.bool true)], args := [d1, d2, d3, d4] }
  | _ => none }
def shortChainsRow : OpenClaim := { program := "ytnbjepjadekafaa", sum := "2cb7285018513640d1d56f3abe7435b7a91fff7c4e0fad37b9a8f45a6a6547e1", func := "sconce/sconcelaw09.ShortChains", spec := "shortChains", inPlace := ["math/bits.Add64", "math/bits.Sub64"], unfollowed := true, recurses := true, apart := false }
def ShortChainsSaid : Prop := shortChainsRow.holds Try.pinned (OpenSpec.ofChange shortChainsSpec)

/-- ITS FALSE NEIGHBOUR: 'it returns false'. Refute it at one input. -/
def shortChainsWrong : ChangeSpec := { name := "shortChains", fn := fun _ => fun
  | [d1, d2, d3, d4] => { results := [.lit (.bool false)], args := [d1, d2, d3, d4] }
  | _ => none }
def ShortChainsWrongFalsely : Prop := shortChainsRow.holds Try.pinned (OpenSpec.ofChange shortChainsWrong)

/- THE SECOND FORM. 'bulk': how many values and letters a reading holds, each counted each time it is reached (what is shared counts as often as it is met; a slice's spare places count too). A statement '..UptoSaid' is the law's where the arguments, and the package variables that the reading takes, are together of bulk at most 1048576: NARROWER than '..Said'. Prove '..Said' where nothing that the law and all that it calls make is longer than what came in: it says more and counts as full. Else prove '..UptoSaid'. A law counts once. -/
mutual
def uptoBulk {H : Type} : DataW H → Nat
  | .lit (.string bytes) => bytes.length + 1
  | .lit _ => 1
  | .nil => 1
  | .ptr d => uptoBulk d + 1
  | .slice elems spare => uptoBulkAll elems + uptoBulkAll spare + 1
  | .agg parts => uptoBulkAll parts + 1
  | .iface _ d => uptoBulk d + 1
  | .map entries => uptoBulkEntries entries + 1
  | .held _ => 1
def uptoBulkAll {H : Type} : List (DataW H) → Nat
  | [] => 0
  | d :: r => uptoBulk d + uptoBulkAll r
def uptoBulkEntries {H : Type} : List (Lit × DataW H) → Nat
  | [] => 0
  | x :: r => uptoBulkEntry x + uptoBulkEntries r
def uptoBulkEntry {H : Type} : Lit × DataW H → Nat
  | (.string bytes, d) => bytes.length + uptoBulk d + 1
  | (_, d) => uptoBulk d + 1
 end
def uptoSmall : (H : Type) → List (DataW H) → Bool := fun _ ds => decide (uptoBulkAll ds ≤ 1048576)
def OpenSpec.upto (s : _root_.Go.ChangeSpec) : _root_.Go.OpenSpec := { _root_.Go.OpenSpec.ofChange s with cond := some uptoSmall }

/-- 'sconcelaw09.ShortExps', WHERE WHAT IT READS IS OF BULK AT MOST 1048576: true; the input reads as it did. -/
def shortExpsUptoRow : OpenClaim := { program := "ytnbjepjadekafaa", sum := "2cb7285018513640d1d56f3abe7435b7a91fff7c4e0fad37b9a8f45a6a6547e1", func := "sconce/sconcelaw09.ShortExps", spec := "shortExps", inPlace := ["math/bits.Add64", "math/bits.Sub64"], unfollowed := true, recurses := true, apart := false, narrowed := true }
def ShortExpsUptoSaid : Prop := shortExpsUptoRow.holds Try.pinned (OpenSpec.upto shortExpsSpec)

/-- 'sconcelaw09.ShortQuick', WHERE WHAT IT READS IS OF BULK AT MOST 1048576: true; the input reads as it did. -/
def shortQuickUptoRow : OpenClaim := { program := "ytnbjepjadekafaa", sum := "2cb7285018513640d1d56f3abe7435b7a91fff7c4e0fad37b9a8f45a6a6547e1", func := "sconce/sconcelaw09.ShortQuick", spec := "shortQuick", inPlace := ["math/bits.Add64", "math/bits.Sub64"], unfollowed := true, recurses := true, apart := false, narrowed := true }
def ShortQuickUptoSaid : Prop := shortQuickUptoRow.holds Try.pinned (OpenSpec.upto shortQuickSpec)

/-- 'sconcelaw09.ShortChains', WHERE WHAT IT READS IS OF BULK AT MOST 1048576: true; the input reads as it did. -/
def shortChainsUptoRow : OpenClaim := { program := "ytnbjepjadekafaa", sum := "2cb7285018513640d1d56f3abe7435b7a91fff7c4e0fad37b9a8f45a6a6547e1", func := "sconce/sconcelaw09.ShortChains", spec := "shortChains", inPlace := ["math/bits.Add64", "math/bits.Sub64"], unfollowed := true, recurses := true, apart := false, narrowed := true }
def ShortChainsUptoSaid : Prop := shortChainsUptoRow.holds Try.pinned (OpenSpec.upto shortChainsSpec)

end Rows
end Go.Proofs.Ytnbjepjadekafaa
