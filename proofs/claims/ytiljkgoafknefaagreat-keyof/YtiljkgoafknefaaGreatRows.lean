/-
  No cell of these rows narrows 'for every input' (looked for: loops, veiled, ifaces, maps, wideKeys, modest, calm, conditions, laid).
  DERIVED. THE GIVEN ROWS OF THIS SEAT. 5 by the template 'for every input the law returns true; each argument reads behind the call as it read before'; 0 by the template 'total and deterministic' (their statements: YtiljkgoafknefaaGreatTotals.lean).
  GIVEN WITH THE SEED: the statements are not yours to turn. If you find one false, say at which input.
  Laid BY PROGRAM, IN A SANDBOX (cutbox-rows.mjs): the forced cells as the released guide's own fill.sh prints them over the translation 40232e6c92df7ad2… (all of the seat's roots in one cut). By AI agents, Wed Nov 11 2026. No macro, syntax, notation, axiom, sorry.
-/
import Derived.Test.YtiljkgoafknefaaGreatChecked
import GoSem.Claim
import GoSem.ClaimJoined
import GoSem.ClaimMapViews
import Derived.JoinedTies
import Derived.KernelRfl
namespace Go.Proofs.YtiljkgoafknefaaGreat
/- THE CELL 'sum', in the pinned program and in every row, IS THE sha256 OF THE DUMP (.gsa) THAT YtiljkgoafknefaaGreatProg.lean LOADS. Nothing in Lean hashes anything: it is a label: what it is worth is what the hold of that sum in a sandbox is worth. -/
noncomputable def Tryz.pinned : Pinned := { name := "ytiljkgoafknefaagreat", sum := "40232e6c92df7ad2a0523b541fbba26c4969b2967e153d065f2182a4a10179cf", checked := Tryz.checked }
namespace Rows
def none {H : Type} : Left H := { results := [], args := [] }

/-- 'sconcelaw19.KeyPublic': WHATEVER THE INPUT: true; the input reads as it did. -/
def keyPublicSpec : ChangeSpec := { name := "keyPublic", fn := fun _ => fun
  | [d1, d2] => { results := [.lit (.bool true)], args := [d1, d2] }
  | _ => none }
def keyPublicRow : OpenClaim := { program := "ytiljkgoafknefaagreat", sum := "40232e6c92df7ad2a0523b541fbba26c4969b2967e153d065f2182a4a10179cf", func := "sconce/sconcelaw19.KeyPublic", spec := "keyPublic", inPlace := ["math/bits.Sub64", "math/bits.Add64"], unfollowed := true, recurses := true, named := ["math/bits.divideError", "math/bits.overflowError"], apart := false }
def KeyPublicSaid : Prop := keyPublicRow.holds Tryz.pinned (OpenSpec.ofChange keyPublicSpec)

/-- ITS FALSE NEIGHBOUR: 'it returns false'. Refute it at one input. -/
def keyPublicWrong : ChangeSpec := { name := "keyPublic", fn := fun _ => fun
  | [d1, d2] => { results := [.lit (.bool false)], args := [d1, d2] }
  | _ => none }
def KeyPublicWrongFalsely : Prop := keyPublicRow.holds Tryz.pinned (OpenSpec.ofChange keyPublicWrong)

/-- 'sconcelaw19.KeyOf': WHATEVER THE INPUT: true; the input reads as it did. -/
def keyOfSpec : ChangeSpec := { name := "keyOf", fn := fun _ => fun
  | [d1, d2, d3] => { results := [.lit (.bool true)], args := [d1, d2, d3] }
  | _ => none }
def keyOfRow : OpenClaim := { program := "ytiljkgoafknefaagreat", sum := "40232e6c92df7ad2a0523b541fbba26c4969b2967e153d065f2182a4a10179cf", func := "sconce/sconcelaw19.KeyOf", spec := "keyOf", inPlace := ["math/bits.Sub64", "math/bits.Add64"], unfollowed := true, recurses := true, named := ["math/bits.divideError", "math/bits.overflowError"], apart := false }
def KeyOfSaid : Prop := keyOfRow.holds Tryz.pinned (OpenSpec.ofChange keyOfSpec)

/-- ITS FALSE NEIGHBOUR: 'it returns false'. Refute it at one input. -/
def keyOfWrong : ChangeSpec := { name := "keyOf", fn := fun _ => fun
  | [d1, d2, d3] => { results := [.lit (.bool false)], args := [d1, d2, d3] }
  | _ => none }
def KeyOfWrongFalsely : Prop := keyOfRow.holds Tryz.pinned (OpenSpec.ofChange keyOfWrong)

/-- 'sconcelaw19.KeyChecks': WHATEVER THE INPUT: true; the input reads as it did. -/
def keyChecksSpec : ChangeSpec := { name := "keyChecks", fn := fun _ => fun
  | [d] => { results := [.lit (.bool true)], args := [d] }
  | _ => none }
def keyChecksRow : OpenClaim := { program := "ytiljkgoafknefaagreat", sum := "40232e6c92df7ad2a0523b541fbba26c4969b2967e153d065f2182a4a10179cf", func := "sconce/sconcelaw19.KeyChecks", spec := "keyChecks", inPlace := ["math/bits.Sub64", "math/bits.Add64"], unfollowed := true, recurses := true, named := ["math/bits.divideError", "math/bits.overflowError"], apart := false }
def KeyChecksSaid : Prop := keyChecksRow.holds Tryz.pinned (OpenSpec.ofChange keyChecksSpec)

/-- ITS FALSE NEIGHBOUR: 'it returns false'. Refute it at one input. -/
def keyChecksWrong : ChangeSpec := { name := "keyChecks", fn := fun _ => fun
  | [d] => { results := [.lit (.bool false)], args := [d] }
  | _ => none }
def KeyChecksWrongFalsely : Prop := keyChecksRow.holds Tryz.pinned (OpenSpec.ofChange keyChecksWrong)

/-- 'sconcelaw19.KeyCommon': WHATEVER THE INPUT: true; the input reads as it did. -/
def keyCommonSpec : ChangeSpec := { name := "keyCommon", fn := fun _ => fun
  | [d1, d2] => { results := [.lit (.bool true)], args := [d1, d2] }
  | _ => none }
def keyCommonRow : OpenClaim := { program := "ytiljkgoafknefaagreat", sum := "40232e6c92df7ad2a0523b541fbba26c4969b2967e153d065f2182a4a10179cf", func := "sconce/sconcelaw19.KeyCommon", spec := "keyCommon", inPlace := ["math/bits.Sub64", "math/bits.Add64"], unfollowed := true, recurses := true, named := ["math/bits.divideError", "math/bits.overflowError"], apart := false }
def KeyCommonSaid : Prop := keyCommonRow.holds Tryz.pinned (OpenSpec.ofChange keyCommonSpec)

/-- ITS FALSE NEIGHBOUR: 'it returns false'. Refute it at one input. -/
def keyCommonWrong : ChangeSpec := { name := "keyCommon", fn := fun _ => fun
  | [d1, d2] => { results := [.lit (.bool false)], args := [d1, d2] }
  | _ => none }
def KeyCommonWrongFalsely : Prop := keyCommonRow.holds Tryz.pinned (OpenSpec.ofChange keyCommonWrong)

/-- 'sconcelaw19.KeyEquations': WHATEVER THE INPUT: true; the input reads as it did. -/
def keyEquationsSpec : ChangeSpec := { name := "keyEquations", fn := fun _ => fun
  | [d1, d2, d3] => { results := [.lit (.bool true)], args := [d1, d2, d3] }
  | _ => none }
def keyEquationsRow : OpenClaim := { program := "ytiljkgoafknefaagreat", sum := "40232e6c92df7ad2a0523b541fbba26c4969b2967e153d065f2182a4a10179cf", func := "sconce/sconcelaw19.KeyEquations", spec := "keyEquations", inPlace := ["math/bits.Sub64", "math/bits.Add64"], unfollowed := true, recurses := true, named := ["math/bits.divideError", "math/bits.overflowError"], apart := false }
def KeyEquationsSaid : Prop := keyEquationsRow.holds Tryz.pinned (OpenSpec.ofChange keyEquationsSpec)

/-- ITS FALSE NEIGHBOUR: 'it returns false'. Refute it at one input. -/
def keyEquationsWrong : ChangeSpec := { name := "keyEquations", fn := fun _ => fun
  | [d1, d2, d3] => { results := [.lit (.bool false)], args := [d1, d2, d3] }
  | _ => none }
def KeyEquationsWrongFalsely : Prop := keyEquationsRow.holds Tryz.pinned (OpenSpec.ofChange keyEquationsWrong)

/- THE SECOND FORM. 'bulk': how many values and letters a reading holds, each counted each time it is reached (what is shared counts as often as it is met; a slice's spare places count too). A statement '..UptoSaid' is the law's where the arguments, and the package variables that the reading takes, are together of bulk at most 1048576: NARROWER than '..Said'. Prove '..Said' where nothing that the law and all that it calls make is longer than what came in: it says more and counts as full. Else prove '..UptoSaid'. A law counts once. -/
mutual
def uptoBulk {H : Type} : DataW H → Nat
  | .lit (.string bytes) => bytes.length + 1
  | .lit _ => 1
  | .nil => 1
  | .ptr d => uptoBulk d + 1
  | .slice elems spare => uptoBulkAll elems + uptoBulkAll spare + 1
  | .agg parts => uptoBulkAll parts + 1
  | .iface _ d => uptoBulk d + 1
  | .map entries => uptoBulkEntries entries + 1
  | .held _ => 1
def uptoBulkAll {H : Type} : List (DataW H) → Nat
  | [] => 0
  | d :: r => uptoBulk d + uptoBulkAll r
def uptoBulkEntries {H : Type} : List (Lit × DataW H) → Nat
  | [] => 0
  | x :: r => uptoBulkEntry x + uptoBulkEntries r
def uptoBulkEntry {H : Type} : Lit × DataW H → Nat
  | (.string bytes, d) => bytes.length + uptoBulk d + 1
  | (_, d) => uptoBulk d + 1
 end
def uptoSmall : (H : Type) → List (DataW H) → Bool := fun _ ds => decide (uptoBulkAll ds ≤ 1048576)
def OpenSpec.upto (s : _root_.Go.ChangeSpec) : _root_.Go.OpenSpec := { _root_.Go.OpenSpec.ofChange s with cond := some uptoSmall }

/-- 'sconcelaw19.KeyPublic', WHERE WHAT IT READS IS OF BULK AT MOST 1048576: true; the input reads as it did. -/
def keyPublicUptoRow : OpenClaim := { program := "ytiljkgoafknefaagreat", sum := "40232e6c92df7ad2a0523b541fbba26c4969b2967e153d065f2182a4a10179cf", func := "sconce/sconcelaw19.KeyPublic", spec := "keyPublic", inPlace := ["math/bits.Sub64", "math/bits.Add64"], unfollowed := true, recurses := true, named := ["math/bits.divideError", "math/bits.overflowError"], apart := false, narrowed := true }
def KeyPublicUptoSaid : Prop := keyPublicUptoRow.holds Tryz.pinned (OpenSpec.upto keyPublicSpec)

/-- 'sconcelaw19.KeyOf', WHERE WHAT IT READS IS OF BULK AT MOST 1048576: true; the input reads as it did. -/
def keyOfUptoRow : OpenClaim := { program := "ytiljkgoafknefaagreat", sum := "40232e6c92df7ad2a0523b541fbba26c4969b2967e153d065f2182a4a10179cf", func := "sconce/sconcelaw19.KeyOf", spec := "keyOf", inPlace := ["math/bits.Sub64", "math/bits.Add64"], unfollowed := true, recurses := true, named := ["math/bits.divideError", "math/bits.overflowError"], apart := false, narrowed := true }
def KeyOfUptoSaid : Prop := keyOfUptoRow.holds Tryz.pinned (OpenSpec.upto keyOfSpec)

/-- 'sconcelaw19.KeyChecks', WHERE WHAT IT READS IS OF BULK AT MOST 1048576: true; the input reads as it did. -/
def keyChecksUptoRow : OpenClaim := { program := "ytiljkgoafknefaagreat", sum := "40232e6c92df7ad2a0523b541fbba26c4969b2967e153d065f2182a4a10179cf", func := "sconce/sconcelaw19.KeyChecks", spec := "keyChecks", inPlace := ["math/bits.Sub64", "math/bits.Add64"], unfollowed := true, recurses := true, named := ["math/bits.divideError", "math/bits.overflowError"], apart := false, narrowed := true }
def KeyChecksUptoSaid : Prop := keyChecksUptoRow.holds Tryz.pinned (OpenSpec.upto keyChecksSpec)

/-- 'sconcelaw19.KeyCommon', WHERE WHAT IT READS IS OF BULK AT MOST 1048576: true; the input reads as it did. -/
def keyCommonUptoRow : OpenClaim := { program := "ytiljkgoafknefaagreat", sum := "40232e6c92df7ad2a0523b541fbba26c4969b2967e153d065f2182a4a10179cf", func := "sconce/sconcelaw19.KeyCommon", spec := "keyCommon", inPlace := ["math/bits.Sub64", "math/bits.Add64"], unfollowed := true, recurses := true, named := ["math/bits.divideError", "math/bits.overflowError"], apart := false, narrowed := true }
def KeyCommonUptoSaid : Prop := keyCommonUptoRow.holds Tryz.pinned (OpenSpec.upto keyCommonSpec)

/-- 'sconcelaw19.KeyEquations', WHERE WHAT IT READS IS OF BULK AT MOST 1048576: true; the input reads as it did. -/
def keyEquationsUptoRow : OpenClaim := { program := "ytiljkgoafknefaagreat", sum := "40232e6c92df7ad2a0523b541fbba26c4969b2967e153d065f2182a4a10179cf", func := "sconce/sconcelaw19.KeyEquations", spec := "keyEquations", inPlace := ["math/bits.Sub64", "math/bits.Add64"], unfollowed := true, recurses := true, named := ["math/bits.divideError", "math/bits.overflowError"], apart := false, narrowed := true }
def KeyEquationsUptoSaid : Prop := keyEquationsUptoRow.holds Tryz.pinned (OpenSpec.upto keyEquationsSpec)

end Rows
end Go.Proofs.YtiljkgoafknefaaGreat
