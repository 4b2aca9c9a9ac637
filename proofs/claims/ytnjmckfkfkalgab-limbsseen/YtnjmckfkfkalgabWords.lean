/- What the functions of package word answer, for any words: sums, differences, products, masks, choices, tests; no condition but that the arguments are words. -/
import Derived.Test.YtnjmckfkfkalgabExt
import Derived.BigQuiet
namespace Go.Proofs.Ytnjmckfkfkalgab
open Go.RowKit

theorem and_one (x : Int) (h0 : 0 ≤ x) (h1 : x < 18446744073709551616) : bits .and .u64 x 1 = x % 2 := and_one_u64 x h0 (by omega)

/-- word.Add. -/
theorem wAdd (a b c : Int) (a0 : 0 ≤ a) (b0 : 0 ≤ b) (c0 : 0 ≤ c) (c1 : c < 18446744073709551616) (w : World) :
    Calls Try.prog 29 #[.int .u64 a, .int .u64 b, .int .u64 c] w fun e w' =>
      e = .returned (.tuple #[.int .u64 ((a + b + c % 2) % 18446744073709551616), .int .u64 ((a + b + c % 2) / 18446744073709551616)]) ∧ w' = w := by
  have hb := and_one c c0 c1
  have k0 : 0 ≤ c % 2 := by omega
  have k1 : c % 2 ≤ 1 := by omega
  go_enter Try.func29, Try.ntmps29
  go_wp2_with (simp only [add64 a b (c % 2) a0 b0 k0 k1])
  go_ret2
  exact ⟨rfl, rfl⟩

/-- word.Sub. -/
theorem wSub (a b c : Int) (a0 : 0 ≤ a) (b0 : 0 ≤ b) (b1 : b < 18446744073709551616) (c0 : 0 ≤ c) (c1 : c < 18446744073709551616) (w : World) :
    Calls Try.prog 26 #[.int .u64 a, .int .u64 b, .int .u64 c] w fun e w' =>
      e = .returned (.tuple #[.int .u64 ((a - b - c % 2) % 18446744073709551616), .int .u64 (bor a (b + c % 2))]) ∧ w' = w := by
  have hb := and_one c c0 c1
  have k0 : 0 ≤ c % 2 := by omega
  have k1 : c % 2 ≤ 1 := by omega
  go_enter Try.func26, Try.ntmps26
  go_wp2_with (simp only [sub64 a b (c % 2) a0 b0 b1 k0 k1])
  go_ret2
  exact ⟨rfl, rfl⟩

/-- A product of two words and two words more are below 2^128. -/
theorem prod_bd (a b : Int) (a0 : 0 ≤ a) (a1 : a < 18446744073709551616) (b0 : 0 ≤ b) (b1 : b < 18446744073709551616) :
    0 ≤ a * b ∧ a * b ≤ 340282366920938463426481119284349108225 :=
  ⟨Int.mul_nonneg a0 b0, (Int.mul_le_mul (c := 18446744073709551615) (d := 18446744073709551615) (by omega) (by omega) b0 (by decide) : a * b ≤ 18446744073709551615 * 18446744073709551615)⟩

/-- All ones for an odd bit, else 0. -/
def msk (x : Int) : Int := x % 2 * 18446744073709551615

/-- word.Mask. -/
theorem wMask (a : Int) (a0 : 0 ≤ a) (a1 : a < 18446744073709551616) (w : World) :
    Calls Try.prog 28 #[.int .u64 a] w fun e w' => e = .returned (.int .u64 (msk a)) ∧ w' = w := by
  have hb := and_one a a0 a1
  go_enter Try.func28, Try.ntmps28
  go_wp2
  go_ret
  refine ⟨ret_one ?_, rfl⟩
  unfold msk
  rw [IntKind.wrap_u64]; omega

/-- a for an odd bit, else b. -/
def sel (k a b : Int) : Int := if k % 2 = 1 then a else b

theorem sel_eq (k a b : Int) (a0 : 0 ≤ a) (a1 : a < 18446744073709551616) (b0 : 0 ≤ b) (b1 : b < 18446744073709551616) :
    bits .xor .u64 b (bits .and .u64 (msk k) (bits .xor .u64 a b)) = sel k a b := by
  obtain ⟨A, rfl⟩ := Int.eq_ofNat_of_zero_le a0
  obtain ⟨B, rfl⟩ := Int.eq_ofNat_of_zero_le b0
  have hx : A ^^^ B < 2 ^ 64 := Nat.xor_lt_two_pow (by omega) (by omega)
  rw [u64_xor_nat A B (by omega) (by omega)]
  unfold sel msk
  have : k % 2 = 0 ∨ k % 2 = 1 := by omega
  rcases this with h | h
  · rw [h]
    have e := u64_and_nat 0 (A ^^^ B) (by omega) (by omega)
    rw [Nat.zero_and] at e
    have e' : bits .and .u64 (0 * 18446744073709551615) ((A ^^^ B : Nat) : Int) = ((0 : Nat) : Int) := e
    rw [e', u64_xor_nat B 0 (by omega) (by omega), Nat.xor_zero]; simp
  · rw [h]
    have e := u64_and_nat 18446744073709551615 (A ^^^ B) (by omega) (by omega)
    rw [Nat.and_comm, show (18446744073709551615 : Nat) = 2 ^ 64 - 1 from rfl, Nat.and_two_pow_sub_one_of_lt_two_pow hx] at e
    have e' : bits .and .u64 (1 * 18446744073709551615) ((A ^^^ B : Nat) : Int) = ((A ^^^ B : Nat) : Int) := e
    rw [e', u64_xor_nat B (A ^^^ B) (by omega) (by omega), Nat.xor_comm A B, ← Nat.xor_assoc, Nat.xor_self, Nat.zero_xor]; simp

/-- word.Select. -/
theorem wSelect (k a b : Int) (k0 : 0 ≤ k) (k1 : k < 18446744073709551616) (a0 : 0 ≤ a) (a1 : a < 18446744073709551616) (b0 : 0 ≤ b) (b1 : b < 18446744073709551616) (w : World) :
    Calls Try.prog 27 #[.int .u64 k, .int .u64 a, .int .u64 b] w fun e w' => e = .returned (.int .u64 (sel k a b)) ∧ w' = w := by
  have hs := sel_eq k a b a0 a1 b0 b1
  go_enter Try.func27, Try.ntmps27
  go_wp2_with (go_at_call 28; refine (wMask k k0 k1 _).mono ?_; rintro e w' ⟨rfl, rfl⟩)
  go_ret
  exact ⟨rfl, rfl⟩

/-- 1, if a is 0, else 0. -/
def zer (a : Int) : Int := if a = 0 then 1 else 0

theorem zer_eq (a : Int) (a0 : 0 ≤ a) (a1 : a < 18446744073709551616) :
    bits .xor .u64 (bits .or .u64 a (IntKind.u64.wrap (-a)) / 9223372036854775808) 1 = zer a := by
  obtain ⟨A, rfl⟩ := Int.eq_ofNat_of_zero_le a0
  unfold zer
  by_cases h : A = 0
  · subst h; decide +kernel
  · have e : IntKind.u64.wrap (-(A : Int)) = ((18446744073709551616 - A : Nat) : Int) := by rw [IntKind.wrap_u64]; omega
    rw [e, u64_or_nat A _ (by omega) (by omega)]
    have hl : A ≤ A ||| (18446744073709551616 - A) := Nat.left_le_or
    have hr : 18446744073709551616 - A ≤ A ||| (18446744073709551616 - A) := Nat.right_le_or
    have hu : A ||| (18446744073709551616 - A) < 2 ^ 64 := Nat.or_lt_two_pow (by omega) (by omega)
    generalize A ||| (18446744073709551616 - A) = B at *
    have hq : (B : Int) / 9223372036854775808 = 1 := by omega
    rw [hq, if_neg (by omega)]; decide +kernel

/-- word.Zero. -/
theorem wZero (a : Int) (a0 : 0 ≤ a) (a1 : a < 18446744073709551616) (w : World) :
    Calls Try.prog 25 #[.int .u64 a] w fun e w' => e = .returned (.int .u64 (zer a)) ∧ w' = w := by
  have hz := zer_eq a a0 a1
  go_enter Try.func25, Try.ntmps25
  go_wp2
  go_ret
  exact ⟨rfl, rfl⟩

/-- 1, if a and b are alike, else 0. -/
def eqw (a b : Int) : Int := if a = b then 1 else 0

theorem zer_xor (a b : Int) (a0 : 0 ≤ a) (a1 : a < 18446744073709551616) (b0 : 0 ≤ b) (b1 : b < 18446744073709551616) :
    0 ≤ bits .xor .u64 a b ∧ bits .xor .u64 a b < 18446744073709551616 ∧ zer (bits .xor .u64 a b) = eqw a b := by
  obtain ⟨A, rfl⟩ := Int.eq_ofNat_of_zero_le a0
  obtain ⟨B, rfl⟩ := Int.eq_ofNat_of_zero_le b0
  have hx : A ^^^ B < 2 ^ 64 := Nat.xor_lt_two_pow (by omega) (by omega)
  rw [u64_xor_nat A B (by omega) (by omega)]
  refine ⟨by omega, by omega, ?_⟩
  unfold zer eqw
  by_cases h : A = B
  · subst h; simp
  · have : A ^^^ B ≠ 0 := fun e => h (by
      have e2 : A ^^^ (A ^^^ B) = A ^^^ 0 := by rw [e]
      rw [← Nat.xor_assoc, Nat.xor_self, Nat.zero_xor, Nat.xor_zero] at e2
      exact e2.symm)
    rw [if_neg (by omega), if_neg (by omega)]

/-- word.Equal. -/
theorem wEqual (a b : Int) (a0 : 0 ≤ a) (a1 : a < 18446744073709551616) (b0 : 0 ≤ b) (b1 : b < 18446744073709551616) (w : World) :
    Calls Try.prog 30 #[.int .u64 a, .int .u64 b] w fun e w' => e = .returned (.int .u64 (eqw a b)) ∧ w' = w := by
  obtain ⟨x0, x1, hx⟩ := zer_xor a b a0 a1 b0 b1
  go_enter Try.func30, Try.ntmps30
  go_wp2_with (go_at_call 25; refine (wZero _ x0 x1 _).mono ?_; rintro e w' ⟨rfl, rfl⟩)
  go_ret
  exact ⟨rfl, rfl⟩
end Go.Proofs.Ytnjmckfkfkalgab
