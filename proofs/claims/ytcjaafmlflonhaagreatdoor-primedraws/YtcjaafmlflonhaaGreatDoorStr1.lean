/- The strong test of layer 17, as it is reckoned. -/
import Derived.Test.YtcjaafmlflonhaaGreatDoorPrm3
namespace Go.Proofs.YtcjaafmlflonhaaGreatDoor
open Go.RowKit

/-- How many noughts a number has at its low end, as bits. -/
def tzN : Nat → Nat → Nat
  | 0, _ => 0
  | f + 1, M => if M % 2 = 1 then 0 else tzN f (M / 2) + 1

theorem tzN_is : ∀ (f M : Nat), 0 < M → M < 2 ^ f → IsTz M (tzN f M)
  | 0, M, h, g => by simp at g; omega
  | f + 1, M, h, g => by
    unfold tzN
    by_cases h1 : M % 2 = 1
    · rw [if_pos h1]
      exact ⟨by simpa using h1, fun j hj => by omega⟩
    · rw [if_neg h1]
      obtain ⟨hs, hs2⟩ := tzN_is f (M / 2) (by omega) (by rw [Nat.pow_succ] at g; omega)
      refine ⟨?_, fun j hj => ?_⟩
      · rw [Nat.pow_succ, Nat.mul_comm, ← Nat.div_div_eq_div_mul]
        exact hs
      · cases j with
        | zero => simp; omega
        | succ j =>
          rw [Nat.pow_succ, Nat.mul_comm, ← Nat.div_div_eq_div_mul]
          exact hs2 j (by omega)

/-- The strong test, as it is reckoned. -/
def strongB (N A : Nat) : Bool := decide (0 < N - 1) && (decide (A ^ ((N - 1) / 2 ^ tzN (N - 1) (N - 1)) % N = 1) || (List.range (tzN (N - 1) (N - 1))).any fun i => decide ((A ^ ((N - 1) / 2 ^ tzN (N - 1) (N - 1))) ^ 2 ^ i % N = N - 1))

theorem strongB_iff (N A : Nat) : strongB N A = true ↔ strongP N A := by
  unfold strongB strongP
  rw [Bool.and_eq_true, decide_eq_true_iff, Bool.or_eq_true, decide_eq_true_iff, List.any_eq_true]
  constructor
  · rintro ⟨h0, h⟩
    refine ⟨_, tzN_is (N - 1) (N - 1) h0 Nat.lt_two_pow_self, ?_⟩
    rcases h with h | ⟨i, hi, h⟩
    · exact .inl h
    · exact .inr ⟨i, List.mem_range.1 hi, of_decide_eq_true h⟩
  · rintro ⟨s, hs, h⟩
    have h0 : 0 < N - 1 := by
      rcases Nat.eq_zero_or_pos (N - 1) with e | e
      · have := hs.1
        rw [e] at this
        simp at this
      · exact e
    obtain rfl := hs.uniq (tzN_is (N - 1) (N - 1) h0 Nat.lt_two_pow_self)
    refine ⟨h0, ?_⟩
    rcases h with h | ⟨i, hi, h⟩
    · exact .inl h
    · exact .inr ⟨i, List.mem_range.2 hi, decide_eq_true h⟩

end Go.Proofs.YtcjaafmlflonhaaGreatDoor
