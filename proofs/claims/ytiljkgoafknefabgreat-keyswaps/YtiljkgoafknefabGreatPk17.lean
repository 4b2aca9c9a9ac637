/- Put together of: Ref6m. -/
import Derived.Test.YtiljkgoafknefabGreatPk1
import Derived.Test.YtiljkgoafknefabGreatPk2
import Derived.Test.YtiljkgoafknefabGreatPk16

/- Melted of: Ref6A Ref6B Ref6C. -/

/- The plain side of layer 6 (package sconceref06): any number as a modulus. -/
namespace Go.Proofs.YtiljkgoafknefabGreat
open Go.RowKit

/-- The error's number of a modulus. -/
def montE (V : Nat) : Nat := if 130 < wordsN V then 2 else if V < 2 then 1 else if V % 2 = 0 then 60 else 0

/-- K is the number that goes with the modulus V. -/
def isKf (V K : Nat) : Prop := K < 18446744073709551616 ∧ (montE V = 0 → (V * K + 1) % 18446744073709551616 = 0) ∧ (montE V ≠ 0 → K = 0)

def modM (V : Nat) : List Nat := if montE V = 0 then digs 18446744073709551616 V (wordsN V) else []

def modR (V : Nat) : List Nat := if montE V = 0 then digs 18446744073709551616 (2 ^ (128 * wordsN V) % V) (wordsN V) else []

theorem montE_ok {V : Nat} (h : montE V = 0) : wordsN V ≤ 130 ∧ 2 ≤ V ∧ V % 2 = 1 := by
  unfold montE at h
  by_cases h1 : 130 < wordsN V
  · rw [if_pos h1] at h; omega
  · rw [if_neg h1] at h
    by_cases h2 : V < 2
    · rw [if_pos h2] at h; omega
    · rw [if_neg h2] at h
      by_cases h3 : V % 2 = 0
      · rw [if_pos h3] at h; omega
      · omega

end Go.Proofs.YtiljkgoafknefabGreat

/- The plain side of layer 6: Setup. -/
namespace Go.Proofs.YtiljkgoafknefabGreat
open Go.RowKit

/-- The cells of a modulus. -/
def modCells (a : Value) (K : Nat) (b : Value) : Array Value := #[a, .int .u64 (K : Nat), b]

theorem mod_bad {V : Nat} (h : montE V ≠ 0) : modM V = [] ∧ modR V = [] ∧ isKf V 0 := by
  refine ⟨if_neg h, if_neg h, by omega, fun e => absurd e h, fun _ => rfl⟩

end Go.Proofs.YtiljkgoafknefabGreat

/- The plain side of layer 6: Check, Member. -/
namespace Go.Proofs.YtiljkgoafknefabGreat
open Go.RowKit

/-- A modulus as it should be. -/
def okMod (ms : List Nat) (K : Nat) (rs : List Nat) : Prop :=
  montE (val 18446744073709551616 ms) = 0 ∧ modM (val 18446744073709551616 ms) = ms ∧ isKf (val 18446744073709551616 ms) K ∧ modR (val 18446744073709551616 ms) = rs

end Go.Proofs.YtiljkgoafknefabGreat

