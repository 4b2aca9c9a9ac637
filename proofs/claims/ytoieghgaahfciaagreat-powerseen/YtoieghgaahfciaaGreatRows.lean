/-
  No cell of these rows narrows 'for every input' (looked for: loops, veiled, ifaces, maps, wideKeys, modest, calm, conditions, laid).
  DERIVED. THE GIVEN ROWS OF THIS SEAT. 4 by the template 'for every input the law returns true; each argument reads behind the call as it read before'; 0 by the template 'total and deterministic' (their statements: YtoieghgaahfciaaGreatTotals.lean).
  GIVEN WITH THE SEED: the statements are not yours to turn. If you find one false, say at which input.
  Laid BY PROGRAM, IN A SANDBOX (cutbox-rows.mjs): the forced cells as the released guide's own fill.sh prints them over the translation c72617584cdb42e7… (all of the seat's roots in one cut). By AI agents, Wed Nov 11 2026. No macro, syntax, notation, axiom, sorry.
-/
import Derived.Test.YtoieghgaahfciaaGreatChecked
import GoSem.Claim
import GoSem.ClaimJoined
import GoSem.ClaimMapViews
import Derived.JoinedTies
import Derived.KernelRfl
namespace Go.Proofs.YtoieghgaahfciaaGreat
/- THE CELL 'sum', in the pinned program and in every row, IS THE sha256 OF THE DUMP (.gsa) THAT YtoieghgaahfciaaGreatProg.lean LOADS. Nothing in Lean hashes anything: it is a label: what it is worth is what the hold of that sum in a sandbox is worth. -/
noncomputable def Tryz.pinned : Pinned := { name := "ytoieghgaahfciaagreat", sum := "c72617584cdb42e73f5df0f5a7b0ffc5d7ed4a5d7be26b4c243b1febac690871", checked := Tryz.checked }
namespace Rows
def none {H : Type} : Left H := { results := [], args := [] }

/-- 'sconcelaw08.PowerExps': WHATEVER THE INPUT: true; the input reads as it did. -/
def powerExpsSpec : ChangeSpec := { name := "powerExps", fn := fun _ => fun
  | [d1, d2, d3] => { results := [.lit (.bool true)], args := [d1, d2, d3] }
  | _ => none }
def powerExpsRow : OpenClaim := { program := "ytoieghgaahfciaagreat", sum := "c72617584cdb42e73f5df0f5a7b0ffc5d7ed4a5d7be26b4c243b1febac690871", func := "sconce/sconcelaw08.PowerExps", spec := "powerExps", inPlace := ["math/bits.Add64", "math/bits.Sub64"], unfollowed := true, recurses := true, apart := false }
def PowerExpsSaid : Prop := powerExpsRow.holds Tryz.pinned (OpenSpec.ofChange powerExpsSpec)

/-- ITS FALSE NEIGHBOUR: 'it returns false'. Refute it at one input. -/
def powerExpsWrong : ChangeSpec := { name := "powerExps", fn := fun _ => fun
  | [d1, d2, d3] => { results := [.lit (.bool false)], args := [d1, d2, d3] }
  | _ => none }
def PowerExpsWrongFalsely : Prop := powerExpsRow.holds Tryz.pinned (OpenSpec.ofChange powerExpsWrong)

/-- 'sconcelaw08.PowerTables': WHATEVER THE INPUT: true; the input reads as it did. -/
def powerTablesSpec : ChangeSpec := { name := "powerTables", fn := fun _ => fun
  | [d1, d2] => { results := [.lit (.bool true)], args := [d1, d2] }
  | _ => none }
def powerTablesRow : OpenClaim := { program := "ytoieghgaahfciaagreat", sum := "c72617584cdb42e73f5df0f5a7b0ffc5d7ed4a5d7be26b4c243b1febac690871", func := "sconce/sconcelaw08.PowerTables", spec := "powerTables", inPlace := ["math/bits.Add64", "math/bits.Sub64"], unfollowed := true, recurses := true, apart := false }
def PowerTablesSaid : Prop := powerTablesRow.holds Tryz.pinned (OpenSpec.ofChange powerTablesSpec)

/-- ITS FALSE NEIGHBOUR: 'it returns false'. Refute it at one input. -/
def powerTablesWrong : ChangeSpec := { name := "powerTables", fn := fun _ => fun
  | [d1, d2] => { results := [.lit (.bool false)], args := [d1, d2] }
  | _ => none }
def PowerTablesWrongFalsely : Prop := powerTablesRow.holds Tryz.pinned (OpenSpec.ofChange powerTablesWrong)

/-- 'sconcelaw08.PowerSums': WHATEVER THE INPUT: true; the input reads as it did. -/
def powerSumsSpec : ChangeSpec := { name := "powerSums", fn := fun _ => fun
  | [d1, d2, d3, d4] => { results := [.lit (.bool true)], args := [d1, d2, d3, d4] }
  | _ => none }
def powerSumsRow : OpenClaim := { program := "ytoieghgaahfciaagreat", sum := "c72617584cdb42e73f5df0f5a7b0ffc5d7ed4a5d7be26b4c243b1febac690871", func := "sconce/sconcelaw08.PowerSums", spec := "powerSums", inPlace := ["math/bits.Add64", "math/bits.Sub64"], unfollowed := true, recurses := true, apart := false }
def PowerSumsSaid : Prop := powerSumsRow.holds Tryz.pinned (OpenSpec.ofChange powerSumsSpec)

/-- ITS FALSE NEIGHBOUR: 'it returns false'. Refute it at one input. -/
def powerSumsWrong : ChangeSpec := { name := "powerSums", fn := fun _ => fun
  | [d1, d2, d3, d4] => { results := [.lit (.bool false)], args := [d1, d2, d3, d4] }
  | _ => none }
def PowerSumsWrongFalsely : Prop := powerSumsRow.holds Tryz.pinned (OpenSpec.ofChange powerSumsWrong)

/-- 'sconcelaw08.PowerSeen': WHATEVER THE INPUT: true; the input reads as it did. -/
def powerSeenSpec : ChangeSpec := { name := "powerSeen", fn := fun _ => fun
  | [d1, d2, d3, d4, d5, d6] => { results := [.lit (.bool true)], args := [d1, d2, d3, d4, d5, d6] }
  | _ => none }
def powerSeenRow : OpenClaim := { program := "ytoieghgaahfciaagreat", sum := "c72617584cdb42e73f5df0f5a7b0ffc5d7ed4a5d7be26b4c243b1febac690871", func := "sconce/sconcelaw08.PowerSeen", spec := "powerSeen", inPlace := ["math/bits.Add64", "math/bits.Sub64"], unfollowed := true, recurses := true, apart := false }
def PowerSeenSaid : Prop := powerSeenRow.holds Tryz.pinned (OpenSpec.ofChange powerSeenSpec)

/-- ITS FALSE NEIGHBOUR: 'it returns false'. Refute it at one input. -/
def powerSeenWrong : ChangeSpec := { name := "powerSeen", fn := fun _ => fun
  | [d1, d2, d3, d4, d5, d6] => { results := [.lit (.bool false)], args := [d1, d2, d3, d4, d5, d6] }
  | _ => none }
def PowerSeenWrongFalsely : Prop := powerSeenRow.holds Tryz.pinned (OpenSpec.ofChange powerSeenWrong)

/- THE SECOND FORM. 'bulk': how many values and letters a reading holds, each counted each time it is reached (what is shared counts as often as it is met; a slice's spare places count too). A statement '..UptoSaid' is the law's where the arguments, and the package variables that the reading takes, are together of bulk at most 1048576: NARROWER than '..Said'. Prove '..Said' where nothing that the law and all that it calls make is longer than what came in: it says more and counts as full. Else prove '..UptoSaid'. A law counts once. -/
mutual
def uptoBulk {H : Type} : DataW H → Nat
  | .lit (.string bytes) => bytes.length + 1
  | .lit _ => 1
  | .nil => 1
  | .ptr d => uptoBulk d + 1
  | .slice elems spare => uptoBulkAll elems + uptoBulkAll spare + 1
  | .agg parts => uptoBulkAll parts + 1
  | .iface _ d => uptoBulk d + 1
  | .map entries => uptoBulkEntries entries + 1
  | .held _ => 1
def uptoBulkAll {H : Type} : List (DataW H) → Nat
  | [] => 0
  | d :: r => uptoBulk d + uptoBulkAll r
def uptoBulkEntries {H : Type} : List (Lit × DataW H) → Nat
  | [] => 0
  | x :: r => uptoBulkEntry x + uptoBulkEntries r
def uptoBulkEntry {H : Type} : Lit × DataW H → Nat
  | (.string bytes, d) => bytes.length + uptoBulk d + 1
  | (_, d) => uptoBulk d + 1
 end
def uptoSmall : (H : Type) → List (DataW H) → Bool := fun _ ds => decide (uptoBulkAll ds ≤ 1048576)
def OpenSpec.upto (s : _root_.Go.ChangeSpec) : _root_.Go.OpenSpec := { _root_.Go.OpenSpec.ofChange s with cond := some uptoSmall }

/-- 'sconcelaw08.PowerExps', WHERE WHAT IT READS IS OF BULK AT MOST 1048576: true; the input reads as it did. -/
def powerExpsUptoRow : OpenClaim := { program := "ytoieghgaahfciaagreat", sum := "c72617584cdb42e73f5df0f5a7b0ffc5d7ed4a5d7be26b4c243b1febac690871", func := "sconce/sconcelaw08.PowerExps", spec := "powerExps", inPlace := ["math/bits.Add64", "math/bits.Sub64"], unfollowed := true, recurses := true, apart := false, narrowed := true }
def PowerExpsUptoSaid : Prop := powerExpsUptoRow.holds Tryz.pinned (OpenSpec.upto powerExpsSpec)

/-- 'sconcelaw08.PowerTables', WHERE WHAT IT READS IS OF BULK AT MOST 1048576: true; the input reads as it did. -/
def powerTablesUptoRow : OpenClaim := { program := "ytoieghgaahfciaagreat", sum := "c72617584cdb42e73f5df0f5a7b0ffc5d7ed4a5d7be26b4c243b1febac690871", func := "sconce/sconcelaw08.PowerTables", spec := "powerTables", inPlace := ["math/bits.Add64", "math/bits.Sub64"], unfollowed := true, recurses := true, apart := false, narrowed := true }
def PowerTablesUptoSaid : Prop := powerTablesUptoRow.holds Tryz.pinned (OpenSpec.upto powerTablesSpec)

/-- 'sconcelaw08.PowerSums', WHERE WHAT IT READS IS OF BULK AT MOST 1048576: true; the input reads as it did. -/
def powerSumsUptoRow : OpenClaim := { program := "ytoieghgaahfciaagreat", sum := "c72617584cdb42e73f5df0f5a7b0ffc5d7ed4a5d7be26b4c243b1febac690871", func := "sconce/sconcelaw08.PowerSums", spec := "powerSums", inPlace := ["math/bits.Add64", "math/bits.Sub64"], unfollowed := true, recurses := true, apart := false, narrowed := true }
def PowerSumsUptoSaid : Prop := powerSumsUptoRow.holds Tryz.pinned (OpenSpec.upto powerSumsSpec)

/-- 'sconcelaw08.PowerSeen', WHERE WHAT IT READS IS OF BULK AT MOST 1048576: true; the input reads as it did. -/
def powerSeenUptoRow : OpenClaim := { program := "ytoieghgaahfciaagreat", sum := "c72617584cdb42e73f5df0f5a7b0ffc5d7ed4a5d7be26b4c243b1febac690871", func := "sconce/sconcelaw08.PowerSeen", spec := "powerSeen", inPlace := ["math/bits.Add64", "math/bits.Sub64"], unfollowed := true, recurses := true, apart := false, narrowed := true }
def PowerSeenUptoSaid : Prop := powerSeenUptoRow.holds Tryz.pinned (OpenSpec.upto powerSeenSpec)

end Rows
end Go.Proofs.YtoieghgaahfciaaGreat
