/-
  No cell of these rows narrows 'for every input' (looked for: loops, veiled, ifaces, maps, wideKeys, modest, calm, conditions, laid).
  DERIVED. THE GIVEN ROWS OF THIS SEAT. 6 by the template 'for every input the law returns true; each argument reads behind the call as it read before'; 0 by the template 'total and deterministic' (their statements: YtnjmckfkfkalgaaTotals.lean).
  GIVEN WITH THE SEED: the statements are not yours to turn. If you find one false, say at which input.
  Laid BY PROGRAM, IN A SANDBOX (cutbox-rows.mjs): the forced cells as the released guide's own fill.sh prints them over the translation fe0d760961c4a3e3… (all of the seat's roots in one cut). By AI agents, Wed Nov 11 2026. No macro, syntax, notation, axiom, sorry.
-/
import Derived.Test.YtnjmckfkfkalgaaChecked
import GoSem.Claim
import GoSem.ClaimJoined
import GoSem.ClaimMapViews
import Derived.JoinedTies
import Derived.KernelRfl
namespace Go.Proofs.Ytnjmckfkfkalgaa
/- THE CELL 'sum', in the pinned program and in every row, IS THE sha256 OF THE DUMP (.gsa) THAT YtnjmckfkfkalgaaProg.lean LOADS. Nothing in Lean hashes anything: it is a label: what it is worth is what the hold of that sum in a sandbox is worth. -/
noncomputable def Try.pinned : Pinned := { name := "ytnjmckfkfkalgaa", sum := "fe0d760961c4a3e382d55468f58d753e288fc5bbe0967eb692ab488fe430501b", checked := Try.checked }
namespace Rows
def none {H : Type} : Left H := { results := [], args := [] }

/-- 'sconcelaw04.LimbsAdds': WHATEVER THE INPUT: true; the input reads as it did. -/
def limbsAddsSpec : ChangeSpec := { name := "limbsAdds", fn := fun _ => fun
  | [d1, d2] => { results := [.lit (.bool true)], args := [d1, d2] }
  | _ => none }
def limbsAddsRow : OpenClaim := { program := "ytnjmckfkfkalgaa", sum := "fe0d760961c4a3e382d55468f58d753e288fc5bbe0967eb692ab488fe430501b", func := "sconce/sconcelaw04.LimbsAdds", spec := "limbsAdds", inPlace := ["math/bits.Add64", "math/bits.Sub64"], unfollowed := true, recurses := true, apart := false }
def LimbsAddsSaid : Prop := limbsAddsRow.holds Try.pinned (OpenSpec.ofChange limbsAddsSpec)

/-- ITS FALSE NEIGHBOUR: 'it returns false'. Refute it at one input. -/
def limbsAddsWrong : ChangeSpec := { name := "limbsAdds", fn := fun _ => fun
  | [d1, d2] => { results := [.lit (.bool false)], args := [d1, d2] }
  | _ => none }
def LimbsAddsWrongFalsely : Prop := limbsAddsRow.holds Try.pinned (OpenSpec.ofChange limbsAddsWrong)

/-- 'sconcelaw04.LimbsTells': WHATEVER THE INPUT: true; the input reads as it did. -/
def limbsTellsSpec : ChangeSpec := { name := "limbsTells", fn := fun _ => fun
  | [d1, d2] => { results := [.lit (.bool true)], args := [d1, d2] }
  | _ => none }
def limbsTellsRow : OpenClaim := { program := "ytnjmckfkfkalgaa", sum := "fe0d760961c4a3e382d55468f58d753e288fc5bbe0967eb692ab488fe430501b", func := "sconce/sconcelaw04.LimbsTells", spec := "limbsTells", inPlace := ["math/bits.Add64", "math/bits.Sub64"], unfollowed := true, recurses := true, apart := false }
def LimbsTellsSaid : Prop := limbsTellsRow.holds Try.pinned (OpenSpec.ofChange limbsTellsSpec)

/-- ITS FALSE NEIGHBOUR: 'it returns false'. Refute it at one input. -/
def limbsTellsWrong : ChangeSpec := { name := "limbsTells", fn := fun _ => fun
  | [d1, d2] => { results := [.lit (.bool false)], args := [d1, d2] }
  | _ => none }
def LimbsTellsWrongFalsely : Prop := limbsTellsRow.holds Try.pinned (OpenSpec.ofChange limbsTellsWrong)

/-- 'sconcelaw04.LimbsSelects': WHATEVER THE INPUT: true; the input reads as it did. -/
def limbsSelectsSpec : ChangeSpec := { name := "limbsSelects", fn := fun _ => fun
  | [d1, d2, d3] => { results := [.lit (.bool true)], args := [d1, d2, d3] }
  | _ => none }
def limbsSelectsRow : OpenClaim := { program := "ytnjmckfkfkalgaa", sum := "fe0d760961c4a3e382d55468f58d753e288fc5bbe0967eb692ab488fe430501b", func := "sconce/sconcelaw04.LimbsSelects", spec := "limbsSelects", inPlace := ["math/bits.Add64", "math/bits.Sub64"], unfollowed := true, recurses := true, apart := false }
def LimbsSelectsSaid : Prop := limbsSelectsRow.holds Try.pinned (OpenSpec.ofChange limbsSelectsSpec)

/-- ITS FALSE NEIGHBOUR: 'it returns false'. Refute it at one input. -/
def limbsSelectsWrong : ChangeSpec := { name := "limbsSelects", fn := fun _ => fun
  | [d1, d2, d3] => { results := [.lit (.bool false)], args := [d1, d2, d3] }
  | _ => none }
def LimbsSelectsWrongFalsely : Prop := limbsSelectsRow.holds Try.pinned (OpenSpec.ofChange limbsSelectsWrong)

/-- 'sconcelaw04.LimbsPicks': WHATEVER THE INPUT: true; the input reads as it did. -/
def limbsPicksSpec : ChangeSpec := { name := "limbsPicks", fn := fun _ => fun
  | [d1, d2] => { results := [.lit (.bool true)], args := [d1, d2] }
  | _ => none }
def limbsPicksRow : OpenClaim := { program := "ytnjmckfkfkalgaa", sum := "fe0d760961c4a3e382d55468f58d753e288fc5bbe0967eb692ab488fe430501b", func := "sconce/sconcelaw04.LimbsPicks", spec := "limbsPicks", inPlace := ["math/bits.Add64", "math/bits.Sub64"], unfollowed := true, recurses := true, apart := false }
def LimbsPicksSaid : Prop := limbsPicksRow.holds Try.pinned (OpenSpec.ofChange limbsPicksSpec)

/-- ITS FALSE NEIGHBOUR: 'it returns false'. Refute it at one input. -/
def limbsPicksWrong : ChangeSpec := { name := "limbsPicks", fn := fun _ => fun
  | [d1, d2] => { results := [.lit (.bool false)], args := [d1, d2] }
  | _ => none }
def LimbsPicksWrongFalsely : Prop := limbsPicksRow.holds Try.pinned (OpenSpec.ofChange limbsPicksWrong)

/-- 'sconcelaw04.LimbsShifts': WHATEVER THE INPUT: true; the input reads as it did. -/
def limbsShiftsSpec : ChangeSpec := { name := "limbsShifts", fn := fun _ => fun
  | [d1, d2] => { results := [.lit (.bool true)], args := [d1, d2] }
  | _ => none }
def limbsShiftsRow : OpenClaim := { program := "ytnjmckfkfkalgaa", sum := "fe0d760961c4a3e382d55468f58d753e288fc5bbe0967eb692ab488fe430501b", func := "sconce/sconcelaw04.LimbsShifts", spec := "limbsShifts", inPlace := ["math/bits.Add64", "math/bits.Sub64"], unfollowed := true, recurses := true, apart := false }
def LimbsShiftsSaid : Prop := limbsShiftsRow.holds Try.pinned (OpenSpec.ofChange limbsShiftsSpec)

/-- ITS FALSE NEIGHBOUR: 'it returns false'. Refute it at one input. -/
def limbsShiftsWrong : ChangeSpec := { name := "limbsShifts", fn := fun _ => fun
  | [d1, d2] => { results := [.lit (.bool false)], args := [d1, d2] }
  | _ => none }
def LimbsShiftsWrongFalsely : Prop := limbsShiftsRow.holds Try.pinned (OpenSpec.ofChange limbsShiftsWrong)

/-- 'sconcelaw04.LimbsIfs': WHATEVER THE INPUT: true; the input reads as it did. -/
def limbsIfsSpec : ChangeSpec := { name := "limbsIfs", fn := fun _ => fun
  | [d1, d2, d3] => { results := [.lit (.bool true)], args := [d1, d2, d3] }
  | _ => none }
def limbsIfsRow : OpenClaim := { program := "ytnjmckfkfkalgaa", sum := "fe0d760961c4a3e382d55468f58d753e288fc5bbe0967eb692ab488fe430501b", func := "sconce/sconcelaw04.LimbsIfs", spec := "limbsIfs", inPlace := ["math/bits.Add64", "math/bits.Sub64"], unfollowed := true, recurses := true, apart := false }
def LimbsIfsSaid : Prop := limbsIfsRow.holds Try.pinned (OpenSpec.ofChange limbsIfsSpec)

/-- ITS FALSE NEIGHBOUR: 'it returns false'. Refute it at one input. -/
def limbsIfsWrong : ChangeSpec := { name := "limbsIfs", fn := fun _ => fun
  | [d1, d2, d3] => { results := [.lit (.bool false)], args := [d1, d2, d3] }
  | _ => none }
def LimbsIfsWrongFalsely : Prop := limbsIfsRow.holds Try.pinned (OpenSpec.ofChange limbsIfsWrong)

/- THE SECOND FORM. 'bulk': how many values and letters a reading holds, each counted each time it is reached (what is shared counts as often as it is met; a slice's spare places count too). A statement '..UptoSaid' is the law's where the arguments, and the package variables that the reading takes, are together of bulk at most 1048576: NARROWER than '..Said'. Prove '..Said' where nothing that the law and all that it calls make is longer than what came in: it says more and counts as full. Else prove '..UptoSaid'. A law counts once. -/
mutual
def uptoBulk {H : Type} : DataW H → Nat
  | .lit (.string bytes) => bytes.length + 1
  | .lit _ => 1
  | .nil => 1
  | .ptr d => uptoBulk d + 1
  | .slice elems spare => uptoBulkAll elems + uptoBulkAll spare + 1
  | .agg parts => uptoBulkAll parts + 1
  | .iface _ d => uptoBulk d + 1
  | .map entries => uptoBulkEntries entries + 1
  | .held _ => 1
def uptoBulkAll {H : Type} : List (DataW H) → Nat
  | [] => 0
  | d :: r => uptoBulk d + uptoBulkAll r
def uptoBulkEntries {H : Type} : List (Lit × DataW H) → Nat
  | [] => 0
  | x :: r => uptoBulkEntry x + uptoBulkEntries r
def uptoBulkEntry {H : Type} : Lit × DataW H → Nat
  | (.string bytes, d) => bytes.length + uptoBulk d + 1
  | (_, d) => uptoBulk d + 1
 end
def uptoSmall : (H : Type) → List (DataW H) → Bool := fun _ ds => decide (uptoBulkAll ds ≤ 1048576)
def OpenSpec.upto (s : _root_.Go.ChangeSpec) : _root_.Go.OpenSpec := { _root_.Go.OpenSpec.ofChange s with cond := some uptoSmall }

/-- 'sconcelaw04.LimbsAdds', WHERE WHAT IT READS IS OF BULK AT MOST 1048576: true; the input reads as it did. -/
def limbsAddsUptoRow : OpenClaim := { program := "ytnjmckfkfkalgaa", sum := "fe0d760961c4a3e382d55468f58d753e288fc5bbe0967eb692ab488fe430501b", func := "sconce/sconcelaw04.LimbsAdds", spec := "limbsAdds", inPlace := ["math/bits.Add64", "math/bits.Sub64"], unfollowed := true, recurses := true, apart := false, narrowed := true }
def LimbsAddsUptoSaid : Prop := limbsAddsUptoRow.holds Try.pinned (OpenSpec.upto limbsAddsSpec)

/-- 'sconcelaw04.LimbsTells', WHERE WHAT IT READS IS OF BULK AT MOST 1048576: true; the input reads as it did. -/
def limbsTellsUptoRow : OpenClaim := { program := "ytnjmckfkfkalgaa", sum := "fe0d760961c4a3e382d55468f58d753e288fc5bbe0967eb692ab488fe430501b", func := "sconce/sconcelaw04.LimbsTells", spec := "limbsTells", inPlace := ["math/bits.Add64", "math/bits.Sub64"], unfollowed := true, recurses := true, apart := false, narrowed := true }
def LimbsTellsUptoSaid : Prop := limbsTellsUptoRow.holds Try.pinned (OpenSpec.upto limbsTellsSpec)

/-- 'sconcelaw04.LimbsSelects', WHERE WHAT IT READS IS OF BULK AT MOST 1048576: true; the input reads as it did. -/
def limbsSelectsUptoRow : OpenClaim := { program := "ytnjmckfkfkalgaa", sum := "fe0d760961c4a3e382d55468f58d753e288fc5bbe0967eb692ab488fe430501b", func := "sconce/sconcelaw04.LimbsSelects", spec := "limbsSelects", inPlace := ["math/bits.Add64", "math/bits.Sub64"], unfollowed := true, recurses := true, apart := false, narrowed := true }
def LimbsSelectsUptoSaid : Prop := limbsSelectsUptoRow.holds Try.pinned (OpenSpec.upto limbsSelectsSpec)

/-- 'sconcelaw04.LimbsPicks', WHERE WHAT IT READS IS OF BULK AT MOST 1048576: true; the input reads as it did. -/
def limbsPicksUptoRow : OpenClaim := { program := "ytnjmckfkfkalgaa", sum := "fe0d760961c4a3e382d55468f58d753e288fc5bbe0967eb692ab488fe430501b", func := "sconce/sconcelaw04.LimbsPicks", spec := "limbsPicks", inPlace := ["math/bits.Add64", "math/bits.Sub64"], unfollowed := true, recurses := true, apart := false, narrowed := true }
def LimbsPicksUptoSaid : Prop := limbsPicksUptoRow.holds Try.pinned (OpenSpec.upto limbsPicksSpec)

/-- 'sconcelaw04.LimbsShifts', WHERE WHAT IT READS IS OF BULK AT MOST 1048576: true; the input reads as it did. -/
def limbsShiftsUptoRow : OpenClaim := { program := "ytnjmckfkfkalgaa", sum := "fe0d760961c4a3e382d55468f58d753e288fc5bbe0967eb692ab488fe430501b", func := "sconce/sconcelaw04.LimbsShifts", spec := "limbsShifts", inPlace := ["math/bits.Add64", "math/bits.Sub64"], unfollowed := true, recurses := true, apart := false, narrowed := true }
def LimbsShiftsUptoSaid : Prop := limbsShiftsUptoRow.holds Try.pinned (OpenSpec.upto limbsShiftsSpec)

/-- 'sconcelaw04.LimbsIfs', WHERE WHAT IT READS IS OF BULK AT MOST 1048576: true; the input reads as it did. -/
def limbsIfsUptoRow : OpenClaim := { program := "ytnjmckfkfkalgaa", sum := "fe0d760961c4a3e382d55468f58d753e288fc5bbe0967eb692ab488fe430501b", func := "sconce/sconcelaw04.LimbsIfs", spec := "limbsIfs", inPlace := ["math/bits.Add64", "math/bits.Sub64"], unfollowed := true, recurses := true, apart := false, narrowed := true }
def LimbsIfsUptoSaid : Prop := limbsIfsUptoRow.holds Try.pinned (OpenSpec.upto limbsIfsSpec)

end Rows
end Go.Proofs.Ytnjmckfkfkalgaa
