/- What the plain answers of layer 1 come to, for any words: the same numbers as the program's. -/
import Derived.Test.YtaddnmnnpnkahaaWords
namespace Go.Proofs.Ytaddnmnnpnkahaa
open Go.RowKit

set_option maxHeartbeats 400000 in
/-- The plain sum. -/
theorem rAdd (a b c : Int) (a0 : 0 ≤ a) (a1 : a < 18446744073709551616) (b0 : 0 ≤ b) (b1 : b < 18446744073709551616) (c0 : 0 ≤ c) (c1 : c < 18446744073709551616) (w : World) :
    Calls Try.prog 11 #[.int .u64 a, .int .u64 b, .int .u64 c] w fun e w' =>
      e = .returned (.tuple #[.int .u64 ((a + b + c % 2) % 18446744073709551616), .int .u64 ((a + b + c % 2) / 18446744073709551616)]) ∧ w' = w := by
  have hb := and_one c c0 c1
  have k0 : 0 ≤ c % 2 := by omega
  have k1 : c % 2 ≤ 1 := by omega
  by_cases h : a + b < 18446744073709551616
  · by_cases h2 : a + b + c % 2 < 18446744073709551616
    · go_enter Try.func11, Try.ntmps11
      go_wp2
      go_ret2
      refine ⟨ret_two ?_ ?_, rfl⟩ <;> omega
    · have hw : IntKind.u64.wrap (a + b + c % 2) = 0 := by rw [IntKind.wrap_u64]; omega
      go_enter Try.func11, Try.ntmps11
      go_wp2
      go_ret2
      refine ⟨ret_two ?_ ?_, rfl⟩ <;> omega
  · have hw : IntKind.u64.wrap (a + b) = a + b - 18446744073709551616 := by rw [IntKind.wrap_u64]; omega
    go_enter Try.func11, Try.ntmps11
    go_wp2
    go_ret2
    refine ⟨ret_two ?_ ?_, rfl⟩ <;> omega

set_option maxHeartbeats 400000 in
/-- The plain difference. -/
theorem rSub (a b c : Int) (a0 : 0 ≤ a) (a1 : a < 18446744073709551616) (b0 : 0 ≤ b) (b1 : b < 18446744073709551616) (c0 : 0 ≤ c) (c1 : c < 18446744073709551616) (w : World) :
    Calls Try.prog 13 #[.int .u64 a, .int .u64 b, .int .u64 c] w fun e w' =>
      e = .returned (.tuple #[.int .u64 ((a - b - c % 2) % 18446744073709551616), .int .u64 (bor a (b + c % 2))]) ∧ w' = w := by
  have hb := and_one c c0 c1
  have k0 : 0 ≤ c % 2 := by omega
  have k1 : c % 2 ≤ 1 := by omega
  by_cases h : a < b
  · have hw : IntKind.u64.wrap (a - b) = a - b + 18446744073709551616 := by rw [IntKind.wrap_u64]; omega
    go_enter Try.func13, Try.ntmps13
    go_wp2
    go_ret2
    refine ⟨ret_two ?_ ?_, rfl⟩
    · omega
    · rw [bor_pos]; omega
  · by_cases h2 : a - b < c % 2
    · have hw : IntKind.u64.wrap (a - b - c % 2) = 18446744073709551615 := by rw [IntKind.wrap_u64]; omega
      go_enter Try.func13, Try.ntmps13
      go_wp2
      go_ret2
      refine ⟨ret_two ?_ ?_, rfl⟩
      · omega
      · rw [bor_pos]; omega
    · go_enter Try.func13, Try.ntmps13
      go_wp2
      go_ret2
      refine ⟨ret_two ?_ ?_, rfl⟩
      · omega
      · rw [bor_neg]; omega

/-- The plain mask. -/
theorem rMask (a : Int) (a0 : 0 ≤ a) (a1 : a < 18446744073709551616) (w : World) :
    Calls Try.prog 17 #[.int .u64 a] w fun e w' => e = .returned (.int .u64 (msk a)) ∧ w' = w := by
  have hb := and_one a a0 a1
  by_cases h : a % 2 = 1
  · have h' : (a % 2 == 1) = true := by simpa using h
    go_enter Try.func17, Try.ntmps17
    go_wp2
    go_ret
    exact ⟨ret_one (by unfold msk; omega), rfl⟩
  · have h' : (a % 2 == 1) = false := by simpa using h
    go_enter Try.func17, Try.ntmps17
    go_wp2
    go_ret
    exact ⟨ret_one (by unfold msk; omega), rfl⟩

/-- The plain choice. -/
theorem rSelect (k a b : Int) (k0 : 0 ≤ k) (k1 : k < 18446744073709551616) (w : World) :
    Calls Try.prog 19 #[.int .u64 k, .int .u64 a, .int .u64 b] w fun e w' => e = .returned (.int .u64 (sel k a b)) ∧ w' = w := by
  have hb := and_one k k0 k1
  by_cases h : k % 2 = 1
  · have h' : (k % 2 == 1) = true := by simpa using h
    have hs : sel k a b = a := if_pos h
    rw [hs]
    clear hs
    go_enter Try.func19, Try.ntmps19
    go_wp2
    go_ret
    exact ⟨rfl, rfl⟩
  · have h' : (k % 2 == 1) = false := by simpa using h
    have hs : sel k a b = b := if_neg h
    rw [hs]
    clear hs
    go_enter Try.func19, Try.ntmps19
    go_wp2
    go_ret
    exact ⟨rfl, rfl⟩

/-- 1 or 0. -/
theorem rOne (b : Bool) (w : World) :
    Calls Try.prog 21 #[.bool b] w fun e w' => e = .returned (.int .u64 (if b then 1 else 0)) ∧ w' = w := by
  cases b
  all_goals
    go_enter Try.func21, Try.ntmps21
    go_wp2
    go_ret
    exact ⟨rfl, rfl⟩

end Go.Proofs.Ytaddnmnnpnkahaa
