/- What word.Inverse answers, for any word. -/
import Derived.Test.YtamkkmifbajdfaaGreatWor1
import Derived.Test.YtamkkmifbajdfaaGreatInv0
namespace Go.Proofs.YtamkkmifbajdfaaGreat
open Go.RowKit

theorem and_mskI (x a : Int) (x0 : 0 ≤ x) (x1 : x < 18446744073709551616) : bits .and .u64 x (msk a) = if a % 2 = 1 then x else 0 := by
  obtain ⟨X, rfl⟩ := Int.eq_ofNat_of_zero_le x0
  unfold msk
  have : a % 2 = 0 ∨ a % 2 = 1 := by omega
  rcases this with h | h
  · rw [h, if_neg (by decide)]
    have e := u64_and_nat X 0 (by omega) (by omega)
    rw [Nat.and_zero] at e
    exact e
  · rw [h, if_pos rfl]
    have e := u64_and_nat X 18446744073709551615 (by omega) (by omega)
    rw [show (18446744073709551615 : Nat) = 2 ^ 64 - 1 from rfl, Nat.and_two_pow_sub_one_of_lt_two_pow (by omega)] at e
    exact e

end Go.Proofs.YtamkkmifbajdfaaGreat
