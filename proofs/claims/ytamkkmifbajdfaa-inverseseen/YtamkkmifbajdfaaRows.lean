/-
  No cell of these rows narrows 'for every input' (looked for: loops, veiled, ifaces, maps, wideKeys, modest, calm, conditions, laid).
  DERIVED. THE GIVEN ROWS OF THIS SEAT. 4 by the template 'for every input the law returns true; each argument reads behind the call as it read before'; 0 by the template 'total and deterministic' (their statements: YtamkkmifbajdfaaTotals.lean).
  GIVEN WITH THE SEED: the statements are not yours to turn. If you find one false, say at which input.
  Laid BY PROGRAM, IN A SANDBOX (cutbox-rows.mjs): the forced cells as the released guide's own fill.sh prints them over the translation c6d7905cd23979b5… (all of the seat's roots in one cut). By AI agents, Wed Nov 11 2026. No macro, syntax, notation, axiom, sorry.
-/
import Derived.Test.YtamkkmifbajdfaaChecked
import GoSem.Claim
import GoSem.ClaimJoined
import GoSem.ClaimMapViews
import Derived.JoinedTies
import Derived.KernelRfl
namespace Go.Proofs.Ytamkkmifbajdfaa
/- THE CELL 'sum', in the pinned program and in every row, IS THE sha256 OF THE DUMP (.gsa) THAT YtamkkmifbajdfaaProg.lean LOADS. Nothing in Lean hashes anything: it is a label: what it is worth is what the hold of that sum in a sandbox is worth. -/
noncomputable def Try.pinned : Pinned := { name := "ytamkkmifbajdfaa", sum := "c6d7905cd23979b576c825ec4aa43da55c59ddfa67b438ae6959d33051bc4f6e", checked := Try.checked }
namespace Rows
def none {H : Type} : Left H := { results := [], args := [] }

/-- 'sconcelaw10.InverseSteps': WHATEVER THE INPUT: true; the input reads as it did. -/
def inverseStepsSpec : ChangeSpec := { name := "inverseSteps", fn := fun _ => fun
  | [d] => { results := [.lit (.bool true)], args := [d] }
  | _ => none }
def inverseStepsRow : OpenClaim := { program := "ytamkkmifbajdfaa", sum := "c6d7905cd23979b576c825ec4aa43da55c59ddfa67b438ae6959d33051bc4f6e", func := "sconce/sconcelaw10.InverseSteps", spec := "inverseSteps", inPlace := ["math/bits.Sub64", "math/bits.Add64"], unfollowed := true, recurses := true, apart := false }
def InverseStepsSaid : Prop := inverseStepsRow.holds Try.pinned (OpenSpec.ofChange inverseStepsSpec)

/-- ITS FALSE NEIGHBOUR: 'it returns false'. Refute it at one input. -/
def inverseStepsWrong : ChangeSpec := { name := "inverseSteps", fn := fun _ => fun
  | [d] => { results := [.lit (.bool false)], args := [d] }
  | _ => none }
def InverseStepsWrongFalsely : Prop := inverseStepsRow.holds Try.pinned (OpenSpec.ofChange inverseStepsWrong)

/-- 'sconcelaw10.InverseOf': WHATEVER THE INPUT: true; the input reads as it did. -/
def inverseOfSpec : ChangeSpec := { name := "inverseOf", fn := fun _ => fun
  | [d1, d2] => { results := [.lit (.bool true)], args := [d1, d2] }
  | _ => none }
def inverseOfRow : OpenClaim := { program := "ytamkkmifbajdfaa", sum := "c6d7905cd23979b576c825ec4aa43da55c59ddfa67b438ae6959d33051bc4f6e", func := "sconce/sconcelaw10.InverseOf", spec := "inverseOf", inPlace := ["math/bits.Sub64", "math/bits.Add64"], unfollowed := true, recurses := true, apart := false }
def InverseOfSaid : Prop := inverseOfRow.holds Try.pinned (OpenSpec.ofChange inverseOfSpec)

/-- ITS FALSE NEIGHBOUR: 'it returns false'. Refute it at one input. -/
def inverseOfWrong : ChangeSpec := { name := "inverseOf", fn := fun _ => fun
  | [d1, d2] => { results := [.lit (.bool false)], args := [d1, d2] }
  | _ => none }
def InverseOfWrongFalsely : Prop := inverseOfRow.holds Try.pinned (OpenSpec.ofChange inverseOfWrong)

/-- 'sconcelaw10.InverseSeen': WHATEVER THE INPUT: true; the input reads as it did. -/
def inverseSeenSpec : ChangeSpec := { name := "inverseSeen", fn := fun _ => fun
  | [d1, d2, d3, d4] => { results := [.lit (.bool true)], args := [d1, d2, d3, d4] }
  | _ => none }
def inverseSeenRow : OpenClaim := { program := "ytamkkmifbajdfaa", sum := "c6d7905cd23979b576c825ec4aa43da55c59ddfa67b438ae6959d33051bc4f6e", func := "sconce/sconcelaw10.InverseSeen", spec := "inverseSeen", inPlace := ["math/bits.Sub64", "math/bits.Add64"], unfollowed := true, recurses := true, apart := false }
def InverseSeenSaid : Prop := inverseSeenRow.holds Try.pinned (OpenSpec.ofChange inverseSeenSpec)

/-- ITS FALSE NEIGHBOUR: 'it returns false'. Refute it at one input. -/
def inverseSeenWrong : ChangeSpec := { name := "inverseSeen", fn := fun _ => fun
  | [d1, d2, d3, d4] => { results := [.lit (.bool false)], args := [d1, d2, d3, d4] }
  | _ => none }
def InverseSeenWrongFalsely : Prop := inverseSeenRow.holds Try.pinned (OpenSpec.ofChange inverseSeenWrong)

/-- 'sconcelaw10.InverseTwice': WHATEVER THE INPUT: true; the input reads as it did. -/
def inverseTwiceSpec : ChangeSpec := { name := "inverseTwice", fn := fun _ => fun
  | [d1, d2] => { results := [.lit (.bool true)], args := [d1, d2] }
  | _ => none }
def inverseTwiceRow : OpenClaim := { program := "ytamkkmifbajdfaa", sum := "c6d7905cd23979b576c825ec4aa43da55c59ddfa67b438ae6959d33051bc4f6e", func := "sconce/sconcelaw10.InverseTwice", spec := "inverseTwice", inPlace := ["math/bits.Sub64", "math/bits.Add64"], unfollowed := true, recurses := true, apart := false }
def InverseTwiceSaid : Prop := inverseTwiceRow.holds Try.pinned (OpenSpec.ofChange inverseTwiceSpec)

/-- ITS FALSE NEIGHBOUR: 'it returns false'. Refute it at one input. -/
def inverseTwiceWrong : ChangeSpec := { name := "inverseTwice", fn := fun _ => fun
  | [d1, d2] => { results := [.lit (.bool false)], args := [d1, d2] }
  | _ => none }
def InverseTwiceWrongFalsely : Prop := inverseTwiceRow.holds Try.pinned (OpenSpec.ofChange inverseTwiceWrong)

/- THE SECOND FORM. 'bulk': how many values and letters a reading holds, each counted each time it is reached (what is shared counts as often as it is met; a slice's spare places count too). A statement '..UptoSaid' is the law's where the arguments, and the package variables that the reading takes, are together of bulk at most 1048576: NARROWER than '..Said'. Prove '..Said' where nothing that the law and all that it calls make is longer than what came in: it says more and counts as full. Else prove '..UptoSaid'. A law counts once. -/
mutual
def uptoBulk {H : Type} : DataW H → Nat
  | .lit (.string bytes) => bytes.length + 1
  | .lit _ => 1
  | .nil => 1
  | .ptr d => uptoBulk d + 1
  | .slice elems spare => uptoBulkAll elems + uptoBulkAll spare + 1
  | .agg parts => uptoBulkAll parts + 1
  | .iface _ d => uptoBulk d + 1
  | .map entries => uptoBulkEntries entries + 1
  | .held _ => 1
def uptoBulkAll {H : Type} : List (DataW H) → Nat
  | [] => 0
  | d :: r => uptoBulk d + uptoBulkAll r
def uptoBulkEntries {H : Type} : List (Lit × DataW H) → Nat
  | [] => 0
  | x :: r => uptoBulkEntry x + uptoBulkEntries r
def uptoBulkEntry {H : Type} : Lit × DataW H → Nat
  | (.string bytes, d) => bytes.length + uptoBulk d + 1
  | (_, d) => uptoBulk d + 1
 end
def uptoSmall : (H : Type) → List (DataW H) → Bool := fun _ ds => decide (uptoBulkAll ds ≤ 1048576)
def OpenSpec.upto (s : _root_.Go.ChangeSpec) : _root_.Go.OpenSpec := { _root_.Go.OpenSpec.ofChange s with cond := some uptoSmall }

/-- 'sconcelaw10.InverseSteps', WHERE WHAT IT READS IS OF BULK AT MOST 1048576: true; the input reads as it did. -/
def inverseStepsUptoRow : OpenClaim := { program := "ytamkkmifbajdfaa", sum := "c6d7905cd23979b576c825ec4aa43da55c59ddfa67b438ae6959d33051bc4f6e", func := "sconce/sconcelaw10.InverseSteps", spec := "inverseSteps", inPlace := ["math/bits.Sub64", "math/bits.Add64"], unfollowed := true, recurses := true, apart := false, narrowed := true }
def InverseStepsUptoSaid : Prop := inverseStepsUptoRow.holds Try.pinned (OpenSpec.upto inverseStepsSpec)

/-- 'sconcelaw10.InverseOf', WHERE WHAT IT READS IS OF BULK AT MOST 1048576: true; the input reads as it did. -/
def inverseOfUptoRow : OpenClaim := { program := "ytamkkmifbajdfaa", sum := "c6d7905cd23979b576c825ec4aa43da55c59ddfa67b438ae6959d33051bc4f6e", func := "sconce/sconcelaw10.InverseOf", spec := "inverseOf", inPlace := ["math/bits.Sub64", "math/bits.Add64"], unfollowed := true, recurses := true, apart := false, narrowed := true }
def InverseOfUptoSaid : Prop := inverseOfUptoRow.holds Try.pinned (OpenSpec.upto inverseOfSpec)

/-- 'sconcelaw10.InverseSeen', WHERE WHAT IT READS IS OF BULK AT MOST 1048576: true; the input reads as it did. -/
def inverseSeenUptoRow : OpenClaim := { program := "ytamkkmifbajdfaa", sum := "c6d7905cd23979b576c825ec4aa43da55c59ddfa67b438ae6959d33051bc4f6e", func := "sconce/sconcelaw10.InverseSeen", spec := "inverseSeen", inPlace := ["math/bits.Sub64", "math/bits.Add64"], unfollowed := true, recurses := true, apart := false, narrowed := true }
def InverseSeenUptoSaid : Prop := inverseSeenUptoRow.holds Try.pinned (OpenSpec.upto inverseSeenSpec)

/-- 'sconcelaw10.InverseTwice', WHERE WHAT IT READS IS OF BULK AT MOST 1048576: true; the input reads as it did. -/
def inverseTwiceUptoRow : OpenClaim := { program := "ytamkkmifbajdfaa", sum := "c6d7905cd23979b576c825ec4aa43da55c59ddfa67b438ae6959d33051bc4f6e", func := "sconce/sconcelaw10.InverseTwice", spec := "inverseTwice", inPlace := ["math/bits.Sub64", "math/bits.Add64"], unfollowed := true, recurses := true, apart := false, narrowed := true }
def InverseTwiceUptoSaid : Prop := inverseTwiceUptoRow.holds Try.pinned (OpenSpec.upto inverseTwiceSpec)

end Rows
end Go.Proofs.Ytamkkmifbajdfaa
