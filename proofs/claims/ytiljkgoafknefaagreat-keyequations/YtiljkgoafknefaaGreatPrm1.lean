/- The plain side of layer 16 (package sconceref16): small, Primes, Factor, Passes. -/
import Derived.Test.YtiljkgoafknefaaGreatRef5C
import Derived.Test.YtiljkgoafknefaaGreatBase2
namespace Go.Proofs.YtiljkgoafknefaaGreat
open Go.RowKit

/-- A prime. -/
def PrimeN (n : Nat) : Prop := 2 ≤ n ∧ ∀ d, 2 ≤ d → d < n → n % d ≠ 0

instance (n : Nat) : Decidable (PrimeN n) :=
  if h : 2 ≤ n then
    if g : ∀ d, d < n → 2 ≤ d → n % d ≠ 0 then isTrue ⟨h, fun d h1 h2 => g d h2 h1⟩ else isFalse (fun p => g (fun d h1 h2 => p.2 d h2 h1))
  else isFalse (fun p => h p.1)

/-- Trial by numbers whose squares aren't above it. -/
theorem prime_of_trial {n k : Nat} (hn : 2 ≤ n) (hk : n < k * k) (h : ∀ d, 2 ≤ d → d < k → n % d ≠ 0) : PrimeN n := by
  refine ⟨hn, fun d hd hdn e => ?_⟩
  by_cases hdk : d < k
  · exact h d hd hdk e
  · obtain ⟨c, hc⟩ := Nat.dvd_of_mod_eq_zero e
    have hc2 : 2 ≤ c := by
      rcases Nat.lt_or_ge c 2 with h1 | h1
      · have h01 : c = 0 ∨ c = 1 := by omega
        rcases h01 with rfl | rfl
        · omega
        · omega
      · exact h1
    have hck : c < k := by
      rcases Nat.lt_or_ge c k with h1 | h1
      · exact h1
      · have := Nat.mul_le_mul (show k ≤ d by omega) h1
        omega
    refine h c hc2 hck ?_
    rw [hc, Nat.mul_comm]
    exact Nat.mul_mod_right c d

theorem not_prime_of {n d : Nat} (hd : 2 ≤ d) (hdn : d * d ≤ n) (h : n % d = 0) : ¬ PrimeN n := by
  intro p
  have : d < n := by
    have := Nat.mul_le_mul_left d hd
    omega
  exact p.2 d hd this h

/-- The primes up to m, rising. -/
def primesTo (m : Nat) : List Nat := (List.range (m + 1)).filter (fun p => decide (PrimeN p))

theorem primesTo_succ (m : Nat) : primesTo (m + 1) = primesTo m ++ (if PrimeN (m + 1) then [m + 1] else []) := by
  unfold primesTo
  rw [List.range_succ, List.filter_append]
  congr 1
  by_cases h : PrimeN (m + 1)
  · rw [if_pos h]; simp [h]
  · rw [if_neg h]; simp [h]

theorem primesTo_one : primesTo 1 = [] := by decide

theorem primesTo_low {m : Nat} (h : m ≤ 1) : primesTo m = [] := by
  have h01 : m = 0 ∨ m = 1 := by omega
  rcases h01 with rfl | rfl <;> decide

theorem primesTo_len (m : Nat) : (primesTo m).length ≤ m + 1 := by
  unfold primesTo
  have := List.length_filter_le (fun p => decide (PrimeN p)) (List.range (m + 1))
  rw [List.length_range] at this
  exact this

theorem primesTo_mem {m p : Nat} : p ∈ primesTo m ↔ PrimeN p ∧ p ≤ m := by
  unfold primesTo
  rw [List.mem_filter, List.mem_range, decide_eq_true_iff]
  exact ⟨fun h => ⟨h.2, by omega⟩, fun h => ⟨by omega, h.1⟩⟩

/-- How far Primes and Factor go. -/
def upTo (n : Int) : Nat := if n ≤ 10000 then n.toNat else 10000

theorem upTo_le (n : Int) : upTo n ≤ 10000 := by unfold upTo; split <;> omega

theorem Tryz.info3 : (Tryz.prog.info? 3).map (fun i => (i.zero, i.size, i.bytes)) = some (some (.int .i64 0), 1, 8) := by kernel_rfl

/-- R is the least prime up to b that divides X; 0: none does. -/
def IsFac (X b R : Nat) : Prop := (R = 0 ∧ ∀ p, PrimeN p → p ≤ b → X % p ≠ 0) ∨ (PrimeN R ∧ R ≤ b ∧ X % R = 0 ∧ ∀ p, PrimeN p → p < R → X % p ≠ 0)

theorem IsFac.uniq {X b R S : Nat} (h : IsFac X b R) (g : IsFac X b S) : R = S := by
  rcases h with ⟨rfl, h⟩ | ⟨h1, h2, h3, h4⟩
  · rcases g with ⟨rfl, _⟩ | ⟨g1, g2, g3, _⟩
    · rfl
    · exact absurd g3 (h S g1 g2)
  · rcases g with ⟨rfl, g⟩ | ⟨g1, g2, g3, g4⟩
    · exact absurd h3 (g R h1 h2)
    · rcases Nat.lt_trichotomy R S with h | h | h
      · exact absurd h3 (g4 R h1 h)
      · exact h
      · exact absurd g3 (h4 S g1 h)

theorem IsFac.le {X b R : Nat} (h : IsFac X b R) : R ≤ b := by
  rcases h with ⟨rfl, _⟩ | ⟨_, h2, _⟩
  · exact Nat.zero_le _
  · exact h2

theorem fac_none {X b p : Nat} (h : ∀ q, PrimeN q → q < p → X % q ≠ 0) (hp : b < p) : IsFac X b 0 := .inl ⟨rfl, fun q hq hb => h q hq (by omega)⟩

theorem cmpN_nn {a b : Nat} (h : b ≤ a) : ¬ cmpN a b < 0 := by
  unfold cmpN
  rw [if_neg (by omega)]
  split <;> omega

theorem cmpNne {a b : Nat} (h : ¬ a = b) : ¬ cmpN a b = 0 := by
  unfold cmpN
  rw [if_neg h]
  split <;> omega

/-- Passes, as a number tells it. -/
def passN (X : Nat) : Prop := 2 ≤ X ∧ ∃ F, IsFac X 1000 F ∧ (F = 0 ∨ X = F)

end Go.Proofs.YtiljkgoafknefaaGreat
