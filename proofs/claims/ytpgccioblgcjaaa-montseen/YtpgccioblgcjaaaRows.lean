/-
  No cell of these rows narrows 'for every input' (looked for: loops, veiled, ifaces, maps, wideKeys, modest, calm, conditions, laid).
  DERIVED. THE GIVEN ROWS OF THIS SEAT. 6 by the template 'for every input the law returns true; each argument reads behind the call as it read before'; 0 by the template 'total and deterministic' (their statements: YtpgccioblgcjaaaTotals.lean).
  GIVEN WITH THE SEED: the statements are not yours to turn. If you find one false, say at which input.
  Laid BY PROGRAM, IN A SANDBOX (cutbox-rows.mjs): the forced cells as the released guide's own fill.sh prints them over the translation 2fb7cd084d6d0c25… (all of the seat's roots in one cut). By AI agents, Wed Nov 11 2026. No macro, syntax, notation, axiom, sorry.
-/
import Derived.Test.YtpgccioblgcjaaaChecked
import GoSem.Claim
import GoSem.ClaimJoined
import GoSem.ClaimMapViews
import Derived.JoinedTies
import Derived.KernelRfl
namespace Go.Proofs.Ytpgccioblgcjaaa
/- THE CELL 'sum', in the pinned program and in every row, IS THE sha256 OF THE DUMP (.gsa) THAT YtpgccioblgcjaaaProg.lean LOADS. Nothing in Lean hashes anything: it is a label: what it is worth is what the hold of that sum in a sandbox is worth. -/
noncomputable def Try.pinned : Pinned := { name := "ytpgccioblgcjaaa", sum := "2fb7cd084d6d0c250333ba70834e4d9865c3d4a96796c90604c8465c3cd709d9", checked := Try.checked }
namespace Rows
def none {H : Type} : Left H := { results := [], args := [] }

/-- 'sconcelaw06.MontSetup': WHATEVER THE INPUT: true; the input reads as it did. -/
def montSetupSpec : ChangeSpec := { name := "montSetup", fn := fun _ => fun
  | [d] => { results := [.lit (.bool true)], args := [d] }
  | _ => none }
def montSetupRow : OpenClaim := { program := "ytpgccioblgcjaaa", sum := "2fb7cd084d6d0c250333ba70834e4d9865c3d4a96796c90604c8465c3cd709d9", func := "sconce/sconcelaw06.MontSetup", spec := "montSetup", inPlace := ["math/bits.Sub64", "math/bits.Add64"], unfollowed := true, recurses := true, apart := false }
def MontSetupSaid : Prop := montSetupRow.holds Try.pinned (OpenSpec.ofChange montSetupSpec)

/-- ITS FALSE NEIGHBOUR: 'it returns false'. Refute it at one input. -/
def montSetupWrong : ChangeSpec := { name := "montSetup", fn := fun _ => fun
  | [d] => { results := [.lit (.bool false)], args := [d] }
  | _ => none }
def MontSetupWrongFalsely : Prop := montSetupRow.holds Try.pinned (OpenSpec.ofChange montSetupWrong)

/-- 'sconcelaw06.MontChecks': WHATEVER THE INPUT: true; the input reads as it did. -/
def montChecksSpec : ChangeSpec := { name := "montChecks", fn := fun _ => fun
  | [d] => { results := [.lit (.bool true)], args := [d] }
  | _ => none }
def montChecksRow : OpenClaim := { program := "ytpgccioblgcjaaa", sum := "2fb7cd084d6d0c250333ba70834e4d9865c3d4a96796c90604c8465c3cd709d9", func := "sconce/sconcelaw06.MontChecks", spec := "montChecks", inPlace := ["math/bits.Sub64", "math/bits.Add64"], unfollowed := true, recurses := true, apart := false }
def MontChecksSaid : Prop := montChecksRow.holds Try.pinned (OpenSpec.ofChange montChecksSpec)

/-- ITS FALSE NEIGHBOUR: 'it returns false'. Refute it at one input. -/
def montChecksWrong : ChangeSpec := { name := "montChecks", fn := fun _ => fun
  | [d] => { results := [.lit (.bool false)], args := [d] }
  | _ => none }
def MontChecksWrongFalsely : Prop := montChecksRow.holds Try.pinned (OpenSpec.ofChange montChecksWrong)

/-- 'sconcelaw06.MontMuls': WHATEVER THE INPUT: true; the input reads as it did. -/
def montMulsSpec : ChangeSpec := { name := "montMuls", fn := fun _ => fun
  | [d1, d2, d3] => { results := [.lit (.bool true)], args := [d1, d2, d3] }
  | _ => none }
def montMulsRow : OpenClaim := { program := "ytpgccioblgcjaaa", sum := "2fb7cd084d6d0c250333ba70834e4d9865c3d4a96796c90604c8465c3cd709d9", func := "sconce/sconcelaw06.MontMuls", spec := "montMuls", inPlace := ["math/bits.Sub64", "math/bits.Add64"], unfollowed := true, recurses := true, apart := false }
def MontMulsSaid : Prop := montMulsRow.holds Try.pinned (OpenSpec.ofChange montMulsSpec)

/-- ITS FALSE NEIGHBOUR: 'it returns false'. Refute it at one input. -/
def montMulsWrong : ChangeSpec := { name := "montMuls", fn := fun _ => fun
  | [d1, d2, d3] => { results := [.lit (.bool false)], args := [d1, d2, d3] }
  | _ => none }
def MontMulsWrongFalsely : Prop := montMulsRow.holds Try.pinned (OpenSpec.ofChange montMulsWrong)

/-- 'sconcelaw06.MontEnters': WHATEVER THE INPUT: true; the input reads as it did. -/
def montEntersSpec : ChangeSpec := { name := "montEnters", fn := fun _ => fun
  | [d1, d2] => { results := [.lit (.bool true)], args := [d1, d2] }
  | _ => none }
def montEntersRow : OpenClaim := { program := "ytpgccioblgcjaaa", sum := "2fb7cd084d6d0c250333ba70834e4d9865c3d4a96796c90604c8465c3cd709d9", func := "sconce/sconcelaw06.MontEnters", spec := "montEnters", inPlace := ["math/bits.Sub64", "math/bits.Add64"], unfollowed := true, recurses := true, apart := false }
def MontEntersSaid : Prop := montEntersRow.holds Try.pinned (OpenSpec.ofChange montEntersSpec)

/-- ITS FALSE NEIGHBOUR: 'it returns false'. Refute it at one input. -/
def montEntersWrong : ChangeSpec := { name := "montEnters", fn := fun _ => fun
  | [d1, d2] => { results := [.lit (.bool false)], args := [d1, d2] }
  | _ => none }
def MontEntersWrongFalsely : Prop := montEntersRow.holds Try.pinned (OpenSpec.ofChange montEntersWrong)

/-- 'sconcelaw06.MontRing': WHATEVER THE INPUT: true; the input reads as it did. -/
def montRingSpec : ChangeSpec := { name := "montRing", fn := fun _ => fun
  | [d1, d2, d3] => { results := [.lit (.bool true)], args := [d1, d2, d3] }
  | _ => none }
def montRingRow : OpenClaim := { program := "ytpgccioblgcjaaa", sum := "2fb7cd084d6d0c250333ba70834e4d9865c3d4a96796c90604c8465c3cd709d9", func := "sconce/sconcelaw06.MontRing", spec := "montRing", inPlace := ["math/bits.Sub64", "math/bits.Add64"], unfollowed := true, recurses := true, apart := false }
def MontRingSaid : Prop := montRingRow.holds Try.pinned (OpenSpec.ofChange montRingSpec)

/-- ITS FALSE NEIGHBOUR: 'it returns false'. Refute it at one input. -/
def montRingWrong : ChangeSpec := { name := "montRing", fn := fun _ => fun
  | [d1, d2, d3] => { results := [.lit (.bool false)], args := [d1, d2, d3] }
  | _ => none }
def MontRingWrongFalsely : Prop := montRingRow.holds Try.pinned (OpenSpec.ofChange montRingWrong)

/-- 'sconcelaw06.MontSeen': WHATEVER THE INPUT: true; the input reads as it did. -/
def montSeenSpec : ChangeSpec := { name := "montSeen", fn := fun _ => fun
  | [d1, d2, d3, d4, d5, d6] => { results := [.lit (.bool true)], args := [d1, d2, d3, d4, d5, d6] }
  | _ => none }
def montSeenRow : OpenClaim := { program := "ytpgccioblgcjaaa", sum := "2fb7cd084d6d0c250333ba70834e4d9865c3d4a96796c90604c8465c3cd709d9", func := "sconce/sconcelaw06.MontSeen", spec := "montSeen", inPlace := ["math/bits.Sub64", "math/bits.Add64"], unfollowed := true, recurses := true, apart := false }
def MontSeenSaid : Prop := montSeenRow.holds Try.pinned (OpenSpec.ofChange montSeenSpec)

/-- ITS FALSE NEIGHBOUR: 'it returns false'. Refute it at one input. -/
def montSeenWrong : ChangeSpec := { name := "montSeen", fn := fun _ => fun
  | [d1, d2, d3, d4, d5, d6] => { results := [.lit (.bool false)], args := [d1, d2, d3, d4, d5, d6] }
  | _ => none }
def MontSeenWrongFalsely : Prop := montSeenRow.holds Try.pinned (OpenSpec.ofChange montSeenWrong)

/- THE SECOND FORM. 'bulk': how many values and letters a reading holds, each counted each time it is reached (what is shared counts as often as it is met; a slice's spare places count too). A statement '..UptoSaid' is the law's where the arguments, and the package variables that the reading takes, are together of bulk at most 1048576: NARROWER than '..Said'. Prove '..Said' where nothing that the law and all that it calls make is longer than what came in: it says more and counts as full. Else prove '..UptoSaid'. A law counts once. -/
mutual
def uptoBulk {H : Type} : DataW H → Nat
  | .lit (.string bytes) => bytes.length + 1
  | .lit _ => 1
  | .nil => 1
  | .ptr d => uptoBulk d + 1
  | .slice elems spare => uptoBulkAll elems + uptoBulkAll spare + 1
  | .agg parts => uptoBulkAll parts + 1
  | .iface _ d => uptoBulk d + 1
  | .map entries => uptoBulkEntries entries + 1
  | .held _ => 1
def uptoBulkAll {H : Type} : List (DataW H) → Nat
  | [] => 0
  | d :: r => uptoBulk d + uptoBulkAll r
def uptoBulkEntries {H : Type} : List (Lit × DataW H) → Nat
  | [] => 0
  | x :: r => uptoBulkEntry x + uptoBulkEntries r
def uptoBulkEntry {H : Type} : Lit × DataW H → Nat
  | (.string bytes, d) => bytes.length + uptoBulk d + 1
  | (_, d) => uptoBulk d + 1
 end
def uptoSmall : (H : Type) → List (DataW H) → Bool := fun _ ds => decide (uptoBulkAll ds ≤ 1048576)
def OpenSpec.upto (s : _root_.Go.ChangeSpec) : _root_.Go.OpenSpec := { _root_.Go.OpenSpec.ofChange s with cond := some uptoSmall }

/-- 'sconcelaw06.MontSetup', WHERE WHAT IT READS IS OF BULK AT MOST 1048576: true; the input reads as it did. -/
def montSetupUptoRow : OpenClaim := { program := "ytpgccioblgcjaaa", sum := "2fb7cd084d6d0c250333ba70834e4d9865c3d4a96796c90604c8465c3cd709d9", func := "sconce/sconcelaw06.MontSetup", spec := "montSetup", inPlace := ["math/bits.Sub64", "math/bits.Add64"], unfollowed := true, recurses := true, apart := false, narrowed := true }
def MontSetupUptoSaid : Prop := montSetupUptoRow.holds Try.pinned (OpenSpec.upto montSetupSpec)

/-- 'sconcelaw06.MontChecks', WHERE WHAT IT READS IS OF BULK AT MOST 1048576: true; the input reads as it did. -/
def montChecksUptoRow : OpenClaim := { program := "ytpgccioblgcjaaa", sum := "2fb7cd084d6d0c250333ba70834e4d9865c3d4a96796c90604c8465c3cd709d9", func := "sconce/sconcelaw06.MontChecks", spec := "montChecks", inPlace := ["math/bits.Sub64", "math/bits.Add64"], unfollowed := true, recurses := true, apart := false, narrowed := true }
def MontChecksUptoSaid : Prop := montChecksUptoRow.holds Try.pinned (OpenSpec.upto montChecksSpec)

/-- 'sconcelaw06.MontMuls', WHERE WHAT IT READS IS OF BULK AT MOST 1048576: true; the input reads as it did. -/
def montMulsUptoRow : OpenClaim := { program := "ytpgccioblgcjaaa", sum := "2fb7cd084d6d0c250333ba70834e4d9865c3d4a96796c90604c8465c3cd709d9", func := "sconce/sconcelaw06.MontMuls", spec := "montMuls", inPlace := ["math/bits.Sub64", "math/bits.Add64"], unfollowed := true, recurses := true, apart := false, narrowed := true }
def MontMulsUptoSaid : Prop := montMulsUptoRow.holds Try.pinned (OpenSpec.upto montMulsSpec)

/-- 'sconcelaw06.MontEnters', WHERE WHAT IT READS IS OF BULK AT MOST 1048576: true; the input reads as it did. -/
def montEntersUptoRow : OpenClaim := { program := "ytpgccioblgcjaaa", sum := "2fb7cd084d6d0c250333ba70834e4d9865c3d4a96796c90604c8465c3cd709d9", func := "sconce/sconcelaw06.MontEnters", spec := "montEnters", inPlace := ["math/bits.Sub64", "math/bits.Add64"], unfollowed := true, recurses := true, apart := false, narrowed := true }
def MontEntersUptoSaid : Prop := montEntersUptoRow.holds Try.pinned (OpenSpec.upto montEntersSpec)

/-- 'sconcelaw06.MontRing', WHERE WHAT IT READS IS OF BULK AT MOST 1048576: true; the input reads as it did. -/
def montRingUptoRow : OpenClaim := { program := "ytpgccioblgcjaaa", sum := "2fb7cd084d6d0c250333ba70834e4d9865c3d4a96796c90604c8465c3cd709d9", func := "sconce/sconcelaw06.MontRing", spec := "montRing", inPlace := ["math/bits.Sub64", "math/bits.Add64"], unfollowed := true, recurses := true, apart := false, narrowed := true }
def MontRingUptoSaid : Prop := montRingUptoRow.holds Try.pinned (OpenSpec.upto montRingSpec)

/-- 'sconcelaw06.MontSeen', WHERE WHAT IT READS IS OF BULK AT MOST 1048576: true; the input reads as it did. -/
def montSeenUptoRow : OpenClaim := { program := "ytpgccioblgcjaaa", sum := "2fb7cd084d6d0c250333ba70834e4d9865c3d4a96796c90604c8465c3cd709d9", func := "sconce/sconcelaw06.MontSeen", spec := "montSeen", inPlace := ["math/bits.Sub64", "math/bits.Add64"], unfollowed := true, recurses := true, apart := false, narrowed := true }
def MontSeenUptoSaid : Prop := montSeenUptoRow.holds Try.pinned (OpenSpec.upto montSeenSpec)

end Rows
end Go.Proofs.Ytpgccioblgcjaaa
