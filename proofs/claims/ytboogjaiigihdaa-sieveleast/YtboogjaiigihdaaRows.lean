/-
  No cell of these rows narrows 'for every input' (looked for: loops, veiled, ifaces, maps, wideKeys, modest, calm, conditions, laid).
  DERIVED. THE GIVEN ROWS OF THIS SEAT. 4 by the template 'for every input the law returns true; each argument reads behind the call as it read before'; 0 by the template 'total and deterministic' (their statements: YtboogjaiigihdaaTotals.lean).
  GIVEN WITH THE SEED: the statements are not yours to turn. If you find one false, say at which input.
  Laid BY PROGRAM, IN A SANDBOX (cutbox-rows.mjs): the forced cells as the released guide's own fill.sh prints them over the translation 9c8cca793af6b422… (all of the seat's roots in one cut). By AI agents, Wed Nov 11 2026. No macro, syntax, notation, axiom, sorry.
-/
import Derived.Test.YtboogjaiigihdaaChecked
import GoSem.Claim
import GoSem.ClaimJoined
import GoSem.ClaimMapViews
import Derived.JoinedTies
import Derived.KernelRfl
namespace Go.Proofs.Ytboogjaiigihdaa
/- THE CELL 'sum', in the pinned program and in every row, IS THE sha256 OF THE DUMP (.gsa) THAT YtboogjaiigihdaaProg.lean LOADS. Nothing in Lean hashes anything: it is a label: what it is worth is what the hold of that sum in a sandbox is worth. -/
noncomputable def Try.pinned : Pinned := { name := "ytboogjaiigihdaa", sum := "9c8cca793af6b4228cd46a09bf839c188082618848aeb0d38d0935d84c94a2c2", checked := Try.checked }
namespace Rows
def none {H : Type} : Left H := { results := [], args := [] }

/-- 'sconcelaw16.SievePrimes': WHATEVER THE INPUT: true; the input reads as it did. -/
def sievePrimesSpec : ChangeSpec := { name := "sievePrimes", fn := fun _ => fun
  | [d] => { results := [.lit (.bool true)], args := [d] }
  | _ => none }
def sievePrimesRow : OpenClaim := { program := "ytboogjaiigihdaa", sum := "9c8cca793af6b4228cd46a09bf839c188082618848aeb0d38d0935d84c94a2c2", func := "sconce/sconcelaw16.SievePrimes", spec := "sievePrimes", unfollowed := true, recurses := true, named := ["math/bits.divideError", "math/bits.overflowError"], apart := false }
def SievePrimesSaid : Prop := sievePrimesRow.holds Try.pinned (OpenSpec.ofChange sievePrimesSpec)

/-- ITS FALSE NEIGHBOUR: 'it returns false'. Refute it at one input. -/
def sievePrimesWrong : ChangeSpec := { name := "sievePrimes", fn := fun _ => fun
  | [d] => { results := [.lit (.bool false)], args := [d] }
  | _ => none }
def SievePrimesWrongFalsely : Prop := sievePrimesRow.holds Try.pinned (OpenSpec.ofChange sievePrimesWrong)

/-- 'sconcelaw16.SieveFactors': WHATEVER THE INPUT: true; the input reads as it did. -/
def sieveFactorsSpec : ChangeSpec := { name := "sieveFactors", fn := fun _ => fun
  | [d1, d2] => { results := [.lit (.bool true)], args := [d1, d2] }
  | _ => none }
def sieveFactorsRow : OpenClaim := { program := "ytboogjaiigihdaa", sum := "9c8cca793af6b4228cd46a09bf839c188082618848aeb0d38d0935d84c94a2c2", func := "sconce/sconcelaw16.SieveFactors", spec := "sieveFactors", unfollowed := true, recurses := true, named := ["math/bits.divideError", "math/bits.overflowError"], apart := false }
def SieveFactorsSaid : Prop := sieveFactorsRow.holds Try.pinned (OpenSpec.ofChange sieveFactorsSpec)

/-- ITS FALSE NEIGHBOUR: 'it returns false'. Refute it at one input. -/
def sieveFactorsWrong : ChangeSpec := { name := "sieveFactors", fn := fun _ => fun
  | [d1, d2] => { results := [.lit (.bool false)], args := [d1, d2] }
  | _ => none }
def SieveFactorsWrongFalsely : Prop := sieveFactorsRow.holds Try.pinned (OpenSpec.ofChange sieveFactorsWrong)

/-- 'sconcelaw16.SievePasses': WHATEVER THE INPUT: true; the input reads as it did. -/
def sievePassesSpec : ChangeSpec := { name := "sievePasses", fn := fun _ => fun
  | [d] => { results := [.lit (.bool true)], args := [d] }
  | _ => none }
def sievePassesRow : OpenClaim := { program := "ytboogjaiigihdaa", sum := "9c8cca793af6b4228cd46a09bf839c188082618848aeb0d38d0935d84c94a2c2", func := "sconce/sconcelaw16.SievePasses", spec := "sievePasses", unfollowed := true, recurses := true, named := ["math/bits.divideError", "math/bits.overflowError"], apart := false }
def SievePassesSaid : Prop := sievePassesRow.holds Try.pinned (OpenSpec.ofChange sievePassesSpec)

/-- ITS FALSE NEIGHBOUR: 'it returns false'. Refute it at one input. -/
def sievePassesWrong : ChangeSpec := { name := "sievePasses", fn := fun _ => fun
  | [d] => { results := [.lit (.bool false)], args := [d] }
  | _ => none }
def SievePassesWrongFalsely : Prop := sievePassesRow.holds Try.pinned (OpenSpec.ofChange sievePassesWrong)

/-- 'sconcelaw16.SieveLeast': WHATEVER THE INPUT: true; the input reads as it did. -/
def sieveLeastSpec : ChangeSpec := { name := "sieveLeast", fn := fun _ => fun
  | [d1, d2] => { results := [.lit (.bool true)], args := [d1, d2] }
  | _ => none }
def sieveLeastRow : OpenClaim := { program := "ytboogjaiigihdaa", sum := "9c8cca793af6b4228cd46a09bf839c188082618848aeb0d38d0935d84c94a2c2", func := "sconce/sconcelaw16.SieveLeast", spec := "sieveLeast", unfollowed := true, recurses := true, named := ["math/bits.divideError", "math/bits.overflowError"], apart := false }
def SieveLeastSaid : Prop := sieveLeastRow.holds Try.pinned (OpenSpec.ofChange sieveLeastSpec)

/-- ITS FALSE NEIGHBOUR: 'it returns false'. Refute it at one input. -/
def sieveLeastWrong : ChangeSpec := { name := "sieveLeast", fn := fun _ => fun
  | [d1, d2] => { results := [.lit (.bool false)], args := [d1, d2] }
  | _ => none }
def SieveLeastWrongFalsely : Prop := sieveLeastRow.holds Try.pinned (OpenSpec.ofChange sieveLeastWrong)

/- THE SECOND FORM. 'bulk': how many values and letters a reading holds, each counted each time it is reached (what is shared counts as often as it is met; a slice's spare places count too). A statement '..UptoSaid' is the law's where the arguments, and the package variables that the reading takes, are together of bulk at most 1048576: NARROWER than '..Said'. Prove '..Said' where nothing that the law and all that it calls make is longer than what came in: it says more and counts as full. Else prove '..UptoSaid'. A law counts once. -/
mutual
def uptoBulk {H : Type} : DataW H → Nat
  | .lit (.string bytes) => bytes.length + 1
  | .lit _ => 1
  | .nil => 1
  | .ptr d => uptoBulk d + 1
  | .slice elems spare => uptoBulkAll elems + uptoBulkAll spare + 1
  | .agg parts => uptoBulkAll parts + 1
  | .iface _ d => uptoBulk d + 1
  | .map entries => uptoBulkEntries entries + 1
  | .held _ => 1
def uptoBulkAll {H : Type} : List (DataW H) → Nat
  | [] => 0
  | d :: r => uptoBulk d + uptoBulkAll r
def uptoBulkEntries {H : Type} : List (Lit × DataW H) → Nat
  | [] => 0
  | x :: r => uptoBulkEntry x + uptoBulkEntries r
def uptoBulkEntry {H : Type} : Lit × DataW H → Nat
  | (.string bytes, d) => bytes.length + uptoBulk d + 1
  | (_, d) => uptoBulk d + 1
 end
def uptoSmall : (H : Type) → List (DataW H) → Bool := fun _ ds => decide (uptoBulkAll ds ≤ 1048576)
def OpenSpec.upto (s : _root_.Go.ChangeSpec) : _root_.Go.OpenSpec := { _root_.Go.OpenSpec.ofChange s with cond := some uptoSmall }

/-- 'sconcelaw16.SievePrimes', WHERE WHAT IT READS IS OF BULK AT MOST 1048576: true; the input reads as it did. -/
def sievePrimesUptoRow : OpenClaim := { program := "ytboogjaiigihdaa", sum := "9c8cca793af6b4228cd46a09bf839c188082618848aeb0d38d0935d84c94a2c2", func := "sconce/sconcelaw16.SievePrimes", spec := "sievePrimes", unfollowed := true, recurses := true, named := ["math/bits.divideError", "math/bits.overflowError"], apart := false, narrowed := true }
def SievePrimesUptoSaid : Prop := sievePrimesUptoRow.holds Try.pinned (OpenSpec.upto sievePrimesSpec)

/-- 'sconcelaw16.SieveFactors', WHERE WHAT IT READS IS OF BULK AT MOST 1048576: true; the input reads as it did. -/
def sieveFactorsUptoRow : OpenClaim := { program := "ytboogjaiigihdaa", sum := "9c8cca793af6b4228cd46a09bf839c188082618848aeb0d38d0935d84c94a2c2", func := "sconce/sconcelaw16.SieveFactors", spec := "sieveFactors", unfollowed := true, recurses := true, named := ["math/bits.divideError", "math/bits.overflowError"], apart := false, narrowed := true }
def SieveFactorsUptoSaid : Prop := sieveFactorsUptoRow.holds Try.pinned (OpenSpec.upto sieveFactorsSpec)

/-- 'sconcelaw16.SievePasses', WHERE WHAT IT READS IS OF BULK AT MOST 1048576: true; the input reads as it did. -/
def sievePassesUptoRow : OpenClaim := { program := "ytboogjaiigihdaa", sum := "9c8cca793af6b4228cd46a09bf839c188082618848aeb0d38d0935d84c94a2c2", func := "sconce/sconcelaw16.SievePasses", spec := "sievePasses", unfollowed := true, recurses := true, named := ["math/bits.divideError", "math/bits.overflowError"], apart := false, narrowed := true }
def SievePassesUptoSaid : Prop := sievePassesUptoRow.holds Try.pinned (OpenSpec.upto sievePassesSpec)

/-- 'sconcelaw16.SieveLeast', WHERE WHAT IT READS IS OF BULK AT MOST 1048576: true; the input reads as it did. -/
def sieveLeastUptoRow : OpenClaim := { program := "ytboogjaiigihdaa", sum := "9c8cca793af6b4228cd46a09bf839c188082618848aeb0d38d0935d84c94a2c2", func := "sconce/sconcelaw16.SieveLeast", spec := "sieveLeast", unfollowed := true, recurses := true, named := ["math/bits.divideError", "math/bits.overflowError"], apart := false, narrowed := true }
def SieveLeastUptoSaid : Prop := sieveLeastUptoRow.holds Try.pinned (OpenSpec.upto sieveLeastSpec)

end Rows
end Go.Proofs.Ytboogjaiigihdaa
