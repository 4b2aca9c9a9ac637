/- The plain side of layer 19 (package sconceref18): Check. -/
import Derived.Test.YtiljkgoafknefabGreatKey5
import Derived.Test.YtiljkgoafknefabGreatNum1
namespace Go.Proofs.YtiljkgoafknefabGreat
open Go.RowKit

/-- What a key's rows are, made of P, Q, e with the private exponent d and the inverse u. -/
def keyRows (P Q e d u : Nat) (ns ds ps qs dps dqs qis : List Nat) : Prop :=
  d < comN P Q ∧ e * d % comN P Q = 1 ∧ u < P ∧ Q * u % P = 1 ∧ ns = keyWords P Q ∧ ds = digs 18446744073709551616 d (keyWords P Q).length ∧ ps = digs 18446744073709551616 P (max (wordsN P) (wordsN Q)) ∧ qs = digs 18446744073709551616 Q (max (wordsN P) (wordsN Q)) ∧ dps = digs 18446744073709551616 (d % (P - 1)) (max (wordsN P) (wordsN Q)) ∧ dqs = digs 18446744073709551616 (d % (Q - 1)) (max (wordsN P) (wordsN Q)) ∧ qis = digs 18446744073709551616 u (max (wordsN P) (wordsN Q))

/-- Whether a key is well formed. -/
def KeyGood (ns ds ps qs dps dqs qis : List Nat) (e : Nat) : Prop :=
  keyOk ps.length qs.length (val 18446744073709551616 ps) (val 18446744073709551616 qs) e ∧ ∃ d u, keyRows (val 18446744073709551616 ps) (val 18446744073709551616 qs) e d u ns ds ps qs dps dqs qis

theorem inv_one {m a x y : Nat} (hc : Nat.Coprime m a) (hx : x < m) (hy : y < m) (h1 : a * x % m = 1) (h2 : a * y % m = 1) : x = y := by
  have := cancel_left hc (h1.trans h2.symm)
  rwa [Nat.mod_eq_of_lt hx, Nat.mod_eq_of_lt hy] at this

end Go.Proofs.YtiljkgoafknefabGreat
