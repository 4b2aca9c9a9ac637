/- The plain side of layer 5 (package sconceref05): products, quotients, rests of any numbers. -/
import Derived.Test.YtiljkgoafknefabGreatBigDivMod
import Derived.Test.YtiljkgoafknefabGreatBase2
import Derived.Test.YtiljkgoafknefabGreatBase1
namespace Go.Proofs.YtiljkgoafknefabGreat
open Go.RowKit

/-- Whether numbers of these lengths are within the bound. -/
def okLen (L M : Nat) : Bool := decide (L ≤ 300 ∧ M ≤ 300)

theorem dlen_val5 {xs : List Nat} (hd : Digs 18446744073709551616 xs) : dlen (val 18446744073709551616 xs) ≤ 2 * xs.length := by
  rw [dlen_le, show (4294967296 : Nat) ^ (2 * xs.length) = 18446744073709551616 ^ xs.length by rw [Nat.pow_mul]]
  exact val_lt (by omega) hd

/-- What Mul answers. -/
def mulL (X Y L M : Nat) : List Nat := if okLen L M = true then digs 18446744073709551616 (X * Y) (L + M) else []

/-- What Divide answers: the error's number, quotient, rest. -/
def divE (Y L M : Nat) : Nat := if okLen L M = true then (if Y = 0 then 1 else 0) else 2

def divQ (X Y L M : Nat) : List Nat := if divE Y L M = 0 then digs 18446744073709551616 (X / Y) L else []

def divR (X Y L M : Nat) : List Nat := if divE Y L M = 0 then digs 18446744073709551616 (X % Y) M else []

theorem big_len5 {w : World} {v : Value} {V : Nat} (h : IsBig w v V) : ∃ ao n cap, v = .slice ao n cap ∧ (n = 0 ↔ V = 0) := by
  obtain ⟨ds, hr, hd, ht, rfl, _⟩ := h
  obtain ⟨ao, n, cap, rfl, hN, _⟩ := hr.open
  refine ⟨ao, n, cap, rfl, ?_⟩
  rw [← hN.out]
  constructor
  · intro h
    obtain rfl : ds = [] := List.eq_nil_of_length_eq_zero h
    rfl
  · intro h
    have := (len_le_iff (by omega) hd ht 0).2 (by rw [h]; simp)
    omega

end Go.Proofs.YtiljkgoafknefabGreat
