/- The statements' first test (the document's examples) passes. -/
import Derived.Test.YtaddnmnnpnkahaaWInv
import Derived.BigQuiet
import Derived.Deep.QuietTactic
namespace Go.Proofs.Ytaddnmnnpnkahaa
open Go.RowKit

theorem wMulTop (w : World) :
    Calls Try.prog 14 #[.int .u64 18446744073709551615, .int .u64 18446744073709551615, .int .u64 18446744073709551615, .int .u64 18446744073709551615] w fun e w' =>
      e = .returned (.tuple #[.int .u64 18446744073709551615, .int .u64 18446744073709551615]) ∧ w' = w := by
  refine (wMul 18446744073709551615 18446744073709551615 18446744073709551615 18446744073709551615 (by omega) (by omega) (by omega) (by omega) (by omega) (by omega) (by omega) (by omega) w).mono ?_
  rintro e w' ⟨rfl, hw⟩
  exact ⟨ret_two (by omega) (by omega), hw⟩

theorem wInverse3 (w : World) :
    Calls Try.prog 24 #[.int .u64 3] w fun e w' => e = .returned (.int .u64 12297829382473034411) ∧ w' = w := by
  refine (wInverse 3 (by omega) (by omega) w).mono ?_
  rintro e w' ⟨⟨x, rfl, hx⟩, hw⟩
  have h3 : isInv 3 12297829382473034411 := ⟨by omega, by omega, fun _ => ⟨-2, by omega⟩, by omega⟩
  exact ⟨ret_one (isInv_uniq hx h3), hw⟩

theorem wMask1 (w : World) :
    Calls Try.prog 16 #[.int .u64 1] w fun e w' => e = .returned (.int .u64 18446744073709551615) ∧ w' = w := by
  refine (wMask 1 (by omega) (by omega) w).mono ?_
  rintro e w' ⟨rfl, hw⟩
  exact ⟨ret_one (by unfold msk; omega), hw⟩

set_option maxHeartbeats 400000 in
theorem awake (w : World) :
    Calls Try.prog 9 #[] w fun e w' => e = .returned (.bool true) ∧ w' = w := by
  go_enter Try.func9, Try.ntmps9
  go_wp2_with (first | (go_at_call 14; refine (wMulTop _).mono ?_; rintro e w' ⟨rfl, rfl⟩) | (go_at_call 24; refine (wInverse3 _).mono ?_; rintro e w' ⟨rfl, rfl⟩) | (go_at_call 16; refine (wMask1 _).mono ?_; rintro e w' ⟨rfl, rfl⟩))
  go_ret
  exact ⟨rfl, rfl⟩
end Go.Proofs.Ytaddnmnnpnkahaa
