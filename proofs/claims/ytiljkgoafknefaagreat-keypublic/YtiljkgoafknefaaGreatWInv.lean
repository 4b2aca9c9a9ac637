/- What word.Inverse answers, for any word. -/
import Derived.Test.YtiljkgoafknefaaGreatWor1
import Derived.Test.YtiljkgoafknefaaGreatInv0
namespace Go.Proofs.YtiljkgoafknefaaGreat
open Go.RowKit

theorem and_mskI (x a : Int) (x0 : 0 ≤ x) (x1 : x < 18446744073709551616) : bits .and .u64 x (msk a) = if a % 2 = 1 then x else 0 := by
  obtain ⟨X, rfl⟩ := Int.eq_ofNat_of_zero_le x0
  unfold msk
  have : a % 2 = 0 ∨ a % 2 = 1 := by omega
  rcases this with h | h
  · rw [h, if_neg (by decide)]
    have e := u64_and_nat X 0 (by omega) (by omega)
    rw [Nat.and_zero] at e
    exact e
  · rw [h, if_pos rfl]
    have e := u64_and_nat X 18446744073709551615 (by omega) (by omega)
    rw [show (18446744073709551615 : Nat) = 2 ^ 64 - 1 from rfl, Nat.and_two_pow_sub_one_of_lt_two_pow (by omega)] at e
    exact e

set_option maxHeartbeats 1000000 in
/-- word.Inverse. -/
theorem wInverse (a : Int) (a0 : 0 ≤ a) (a1 : a < 18446744073709551616) (w : World) :
    Calls Tryz.prog 120 #[.int .u64 a] w fun e w' => (∃ x, e = .returned (.int .u64 x) ∧ isInv a x) ∧ w' = w := by
  go_enter Tryz.func120, Tryz.ntmps120
  go_wp2_with (fail)
  go_loop [3, 5] (fun x i => ∃ (X : Int) (k : Nat), k ≤ 5 ∧ x = .int .u64 X ∧ i = .int .i64 (k : Int) ∧ 0 ≤ X ∧ X < 18446744073709551616 ∧ Hid (a % 2 = 1 → (2 : Int) ^ (min 64 (3 * 2 ^ k)) ∣ 1 - a * X)) (fun _ i => (5 - intOf i).toNat)
  case atStart => exact ⟨a, 0, by omega, rfl, rfl, a0, a1, inv_start a⟩
  case round =>
    obtain ⟨X, k, hk, rfl, rfl, X0, X1, HX⟩ := hrel
    by_cases hp : k < 5
    · go_wp2_with (fail)
      go_round
      case rel =>
        refine ⟨_, k + 1, by omega, rfl, by go_num, ?_, ?_, ?_⟩
        · rw [IntKind.wrap_u64]; omega
        · rw [IntKind.wrap_u64]; omega
        · intro h
          have h1 := HX.out h
          simp only [IntKind.wrap_u64]
          exact inv_step a X _ _ h1 (wrap_step a X) _ (by rw [Nat.pow_succ]; omega) (by omega)
      case measure => simp [intOf]; omega
    · obtain rfl : k = 5 := by omega
      obtain ⟨Y, hY, hi⟩ : ∃ Y, bits .and .u64 X (msk a) = Y ∧ isInv a Y := by
        refine ⟨_, and_mskI X a X0 X1, ?_⟩
        have : a % 2 = 0 ∨ a % 2 = 1 := by omega
        rcases this with h | h
        · rw [if_neg (by omega)]
          exact ⟨by omega, by omega, by omega, fun _ => rfl⟩
        · rw [if_pos h]
          exact ⟨X0, X1, HX.out, by omega⟩
      have HI : Hid (isInv a Y) := hi
      clear hi
      go_wp2_with (go_at_call 135; refine (wMask a a0 a1 _).mono ?_; rintro e w' ⟨rfl, rfl⟩)
      go_ret
      exact ⟨⟨Y, rfl, HI.out⟩, rfl⟩

end Go.Proofs.YtiljkgoafknefaaGreat
