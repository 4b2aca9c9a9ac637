/-
  No cell of these rows narrows 'for every input' (looked for: loops, veiled, ifaces, maps, wideKeys, modest, calm, conditions, laid).
  DERIVED. THE GIVEN ROWS OF THIS SEAT. 5 by the template 'for every input the law returns true; each argument reads behind the call as it read before'; 0 by the template 'total and deterministic' (their statements: YtcdeankllgpnfaaTotals.lean).
  GIVEN WITH THE SEED: the statements are not yours to turn. If you find one false, say at which input.
  Laid BY PROGRAM, IN A SANDBOX (cutbox-rows.mjs): the forced cells as the released guide's own fill.sh prints them over the translation 1e23b1412b6af0f3… (all of the seat's roots in one cut). By AI agents, Wed Nov 11 2026. No macro, syntax, notation, axiom, sorry.
-/
import Derived.Test.YtcdeankllgpnfaaChecked
import GoSem.Claim
import GoSem.ClaimJoined
import GoSem.ClaimMapViews
import Derived.JoinedTies
import Derived.KernelRfl
namespace Go.Proofs.Ytcdeankllgpnfaa
/- THE CELL 'sum', in the pinned program and in every row, IS THE sha256 OF THE DUMP (.gsa) THAT YtcdeankllgpnfaaProg.lean LOADS. Nothing in Lean hashes anything: it is a label: what it is worth is what the hold of that sum in a sandbox is worth. -/
noncomputable def Try.pinned : Pinned := { name := "ytcdeankllgpnfaa", sum := "1e23b1412b6af0f3f0abf2b77f7b04508013a3bdfeb34f859dd29e7e7267dcec", checked := Try.checked }
namespace Rows
def none {H : Type} : Left H := { results := [], args := [] }

/-- 'sconcelaw05.ProductWords': WHATEVER THE INPUT: true; the input reads as it did. -/
def productWordsSpec : ChangeSpec := { name := "productWords", fn := fun _ => fun
  | [d1, d2, d3] => { results := [.lit (.bool true)], args := [d1, d2, d3] }
  | _ => none }
def productWordsRow : OpenClaim := { program := "ytcdeankllgpnfaa", sum := "1e23b1412b6af0f3f0abf2b77f7b04508013a3bdfeb34f859dd29e7e7267dcec", func := "sconce/sconcelaw05.ProductWords", spec := "productWords", inPlace := ["math/bits.Add64", "math/bits.Sub64"], unfollowed := true, recurses := true, apart := false }
def ProductWordsSaid : Prop := productWordsRow.holds Try.pinned (OpenSpec.ofChange productWordsSpec)

/-- ITS FALSE NEIGHBOUR: 'it returns false'. Refute it at one input. -/
def productWordsWrong : ChangeSpec := { name := "productWords", fn := fun _ => fun
  | [d1, d2, d3] => { results := [.lit (.bool false)], args := [d1, d2, d3] }
  | _ => none }
def ProductWordsWrongFalsely : Prop := productWordsRow.holds Try.pinned (OpenSpec.ofChange productWordsWrong)

/-- 'sconcelaw05.ProductDivides': WHATEVER THE INPUT: true; the input reads as it did. -/
def productDividesSpec : ChangeSpec := { name := "productDivides", fn := fun _ => fun
  | [d1, d2] => { results := [.lit (.bool true)], args := [d1, d2] }
  | _ => none }
def productDividesRow : OpenClaim := { program := "ytcdeankllgpnfaa", sum := "1e23b1412b6af0f3f0abf2b77f7b04508013a3bdfeb34f859dd29e7e7267dcec", func := "sconce/sconcelaw05.ProductDivides", spec := "productDivides", inPlace := ["math/bits.Add64", "math/bits.Sub64"], unfollowed := true, recurses := true, named := ["math/bits.divideError", "math/bits.overflowError"], apart := false }
def ProductDividesSaid : Prop := productDividesRow.holds Try.pinned (OpenSpec.ofChange productDividesSpec)

/-- ITS FALSE NEIGHBOUR: 'it returns false'. Refute it at one input. -/
def productDividesWrong : ChangeSpec := { name := "productDivides", fn := fun _ => fun
  | [d1, d2] => { results := [.lit (.bool false)], args := [d1, d2] }
  | _ => none }
def ProductDividesWrongFalsely : Prop := productDividesRow.holds Try.pinned (OpenSpec.ofChange productDividesWrong)

/-- 'sconcelaw05.ProductSmall': WHATEVER THE INPUT: true; the input reads as it did. -/
def productSmallSpec : ChangeSpec := { name := "productSmall", fn := fun _ => fun
  | [d1, d2] => { results := [.lit (.bool true)], args := [d1, d2] }
  | _ => none }
def productSmallRow : OpenClaim := { program := "ytcdeankllgpnfaa", sum := "1e23b1412b6af0f3f0abf2b77f7b04508013a3bdfeb34f859dd29e7e7267dcec", func := "sconce/sconcelaw05.ProductSmall", spec := "productSmall", inPlace := ["math/bits.Add64", "math/bits.Sub64"], unfollowed := true, recurses := true, named := ["math/bits.divideError", "math/bits.overflowError"], apart := false }
def ProductSmallSaid : Prop := productSmallRow.holds Try.pinned (OpenSpec.ofChange productSmallSpec)

/-- ITS FALSE NEIGHBOUR: 'it returns false'. Refute it at one input. -/
def productSmallWrong : ChangeSpec := { name := "productSmall", fn := fun _ => fun
  | [d1, d2] => { results := [.lit (.bool false)], args := [d1, d2] }
  | _ => none }
def ProductSmallWrongFalsely : Prop := productSmallRow.holds Try.pinned (OpenSpec.ofChange productSmallWrong)

/-- 'sconcelaw05.ProductBack': WHATEVER THE INPUT: true; the input reads as it did. -/
def productBackSpec : ChangeSpec := { name := "productBack", fn := fun _ => fun
  | [d1, d2] => { results := [.lit (.bool true)], args := [d1, d2] }
  | _ => none }
def productBackRow : OpenClaim := { program := "ytcdeankllgpnfaa", sum := "1e23b1412b6af0f3f0abf2b77f7b04508013a3bdfeb34f859dd29e7e7267dcec", func := "sconce/sconcelaw05.ProductBack", spec := "productBack", inPlace := ["math/bits.Add64", "math/bits.Sub64"], unfollowed := true, recurses := true, named := ["math/bits.divideError", "math/bits.overflowError"], apart := false }
def ProductBackSaid : Prop := productBackRow.holds Try.pinned (OpenSpec.ofChange productBackSpec)

/-- ITS FALSE NEIGHBOUR: 'it returns false'. Refute it at one input. -/
def productBackWrong : ChangeSpec := { name := "productBack", fn := fun _ => fun
  | [d1, d2] => { results := [.lit (.bool false)], args := [d1, d2] }
  | _ => none }
def ProductBackWrongFalsely : Prop := productBackRow.holds Try.pinned (OpenSpec.ofChange productBackWrong)

/-- 'sconcelaw05.ProductLaws': WHATEVER THE INPUT: true; the input reads as it did. -/
def productLawsSpec : ChangeSpec := { name := "productLaws", fn := fun _ => fun
  | [d1, d2, d3] => { results := [.lit (.bool true)], args := [d1, d2, d3] }
  | _ => none }
def productLawsRow : OpenClaim := { program := "ytcdeankllgpnfaa", sum := "1e23b1412b6af0f3f0abf2b77f7b04508013a3bdfeb34f859dd29e7e7267dcec", func := "sconce/sconcelaw05.ProductLaws", spec := "productLaws", inPlace := ["math/bits.Add64", "math/bits.Sub64"], unfollowed := true, recurses := true, apart := false }
def ProductLawsSaid : Prop := productLawsRow.holds Try.pinned (OpenSpec.ofChange productLawsSpec)

/-- ITS FALSE NEIGHBOUR: 'it returns false'. Refute it at one input. -/
def productLawsWrong : ChangeSpec := { name := "productLaws", fn := fun _ => fun
  | [d1, d2, d3] => { results := [.lit (.bool false)], args := [d1, d2, d3] }
  | _ => none }
def ProductLawsWrongFalsely : Prop := productLawsRow.holds Try.pinned (OpenSpec.ofChange productLawsWrong)

/- THE SECOND FORM. 'bulk': how many values and letters a reading holds, each counted each time it is reached (what is shared counts as often as it is met; a slice's spare places count too). A statement '..UptoSaid' is the law's where the arguments, and the package variables that the reading takes, are together of bulk at most 1048576: NARROWER than '..Said'. Prove '..Said' where nothing that the law and all that it calls make is longer than what came in: it says more and counts as full. Else prove '..UptoSaid'. A law counts once. -/
mutual
def uptoBulk {H : Type} : DataW H → Nat
  | .lit (.string bytes) => bytes.length + 1
  | .lit _ => 1
  | .nil => 1
  | .ptr d => uptoBulk d + 1
  | .slice elems spare => uptoBulkAll elems + uptoBulkAll spare + 1
  | .agg parts => uptoBulkAll parts + 1
  | .iface _ d => uptoBulk d + 1
  | .map entries => uptoBulkEntries entries + 1
  | .held _ => 1
def uptoBulkAll {H : Type} : List (DataW H) → Nat
  | [] => 0
  | d :: r => uptoBulk d + uptoBulkAll r
def uptoBulkEntries {H : Type} : List (Lit × DataW H) → Nat
  | [] => 0
  | x :: r => uptoBulkEntry x + uptoBulkEntries r
def uptoBulkEntry {H : Type} : Lit × DataW H → Nat
  | (.string bytes, d) => bytes.length + uptoBulk d + 1
  | (_, d) => uptoBulk d + 1
 end
def uptoSmall : (H : Type) → List (DataW H) → Bool := fun _ ds => decide (uptoBulkAll ds ≤ 1048576)
def OpenSpec.upto (s : _root_.Go.ChangeSpec) : _root_.Go.OpenSpec := { _root_.Go.OpenSpec.ofChange s with cond := some uptoSmall }

/-- 'sconcelaw05.ProductWords', WHERE WHAT IT READS IS OF BULK AT MOST 1048576: true; the input reads as it did. -/
def productWordsUptoRow : OpenClaim := { program := "ytcdeankllgpnfaa", sum := "1e23b1412b6af0f3f0abf2b77f7b04508013a3bdfeb34f859dd29e7e7267dcec", func := "sconce/sconcelaw05.ProductWords", spec := "productWords", inPlace := ["math/bits.Add64", "math/bits.Sub64"], unfollowed := true, recurses := true, apart := false, narrowed := true }
def ProductWordsUptoSaid : Prop := productWordsUptoRow.holds Try.pinned (OpenSpec.upto productWordsSpec)

/-- 'sconcelaw05.ProductDivides', WHERE WHAT IT READS IS OF BULK AT MOST 1048576: true; the input reads as it did. -/
def productDividesUptoRow : OpenClaim := { program := "ytcdeankllgpnfaa", sum := "1e23b1412b6af0f3f0abf2b77f7b04508013a3bdfeb34f859dd29e7e7267dcec", func := "sconce/sconcelaw05.ProductDivides", spec := "productDivides", inPlace := ["math/bits.Add64", "math/bits.Sub64"], unfollowed := true, recurses := true, named := ["math/bits.divideError", "math/bits.overflowError"], apart := false, narrowed := true }
def ProductDividesUptoSaid : Prop := productDividesUptoRow.holds Try.pinned (OpenSpec.upto productDividesSpec)

/-- 'sconcelaw05.ProductSmall', WHERE WHAT IT READS IS OF BULK AT MOST 1048576: true; the input reads as it did. -/
def productSmallUptoRow : OpenClaim := { program := "ytcdeankllgpnfaa", sum := "1e23b1412b6af0f3f0abf2b77f7b04508013a3bdfeb34f859dd29e7e7267dcec", func := "sconce/sconcelaw05.ProductSmall", spec := "productSmall", inPlace := ["math/bits.Add64", "math/bits.Sub64"], unfollowed := true, recurses := true, named := ["math/bits.divideError", "math/bits.overflowError"], apart := false, narrowed := true }
def ProductSmallUptoSaid : Prop := productSmallUptoRow.holds Try.pinned (OpenSpec.upto productSmallSpec)

/-- 'sconcelaw05.ProductBack', WHERE WHAT IT READS IS OF BULK AT MOST 1048576: true; the input reads as it did. -/
def productBackUptoRow : OpenClaim := { program := "ytcdeankllgpnfaa", sum := "1e23b1412b6af0f3f0abf2b77f7b04508013a3bdfeb34f859dd29e7e7267dcec", func := "sconce/sconcelaw05.ProductBack", spec := "productBack", inPlace := ["math/bits.Add64", "math/bits.Sub64"], unfollowed := true, recurses := true, named := ["math/bits.divideError", "math/bits.overflowError"], apart := false, narrowed := true }
def ProductBackUptoSaid : Prop := productBackUptoRow.holds Try.pinned (OpenSpec.upto productBackSpec)

/-- 'sconcelaw05.ProductLaws', WHERE WHAT IT READS IS OF BULK AT MOST 1048576: true; the input reads as it did. -/
def productLawsUptoRow : OpenClaim := { program := "ytcdeankllgpnfaa", sum := "1e23b1412b6af0f3f0abf2b77f7b04508013a3bdfeb34f859dd29e7e7267dcec", func := "sconce/sconcelaw05.ProductLaws", spec := "productLaws", inPlace := ["math/bits.Add64", "math/bits.Sub64"], unfollowed := true, recurses := true, apart := false, narrowed := true }
def ProductLawsUptoSaid : Prop := productLawsUptoRow.holds Try.pinned (OpenSpec.upto productLawsSpec)

end Rows
end Go.Proofs.Ytcdeankllgpnfaa
