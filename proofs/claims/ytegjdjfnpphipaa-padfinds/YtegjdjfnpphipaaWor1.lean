/- Melted of: Ext Words. -/
import Derived.Test.YtegjdjfnpphipaaRows
import Derived.WalkKit
import Derived.WalkSpells
import Derived.WalkLawsBesides
import Derived.Shelf.Spec.BitsCarry
import Derived.Shelf.Bits.Mul64
import Derived.Laws.BitsAllLaws
import Derived.BigQuiet

/- What the library's Add64, Sub64 and Mul64 answer at this translation, for any words; condition: the carry or borrow that comes in is at most 1. -/
namespace Go.Proofs.Ytegjdjfnpphipaa
open Go.RowKit

/-- 1, if x is below y, else 0. -/
def bor (x y : Int) : Int := if x < y then 1 else 0

theorem bor_pos {x y : Int} (h : x < y) : bor x y = 1 := if_pos h
theorem bor_neg {x y : Int} (h : ¬ x < y) : bor x y = 0 := if_neg h
theorem bor_bd (x y : Int) : 0 ≤ bor x y ∧ bor x y ≤ 1 := by unfold bor; split <;> omega

/-- The call of Sub64. -/
theorem sub64 (x y c : Int) (hx : 0 ≤ x) (hy : 0 ≤ y) (hy1 : y < 18446744073709551616) (hc0 : 0 ≤ c) (hc : c ≤ 1) (w : World) :
    (callFunc 43 #[.int .u64 x, .int .u64 y, .int .u64 c]).run Try.prog w =
      .ok (.value (.tuple #[.int .u64 ((x - y - c) % 18446744073709551616), .int .u64 (bor x (y + c))])) w := by
  obtain ⟨X, rfl⟩ := Int.eq_ofNat_of_zero_le hx
  obtain ⟨Y, rfl⟩ := Int.eq_ofNat_of_zero_le hy
  obtain ⟨C, rfl⟩ := Int.eq_ofNat_of_zero_le hc0
  rw [run_callFunc_extern Try.func43 (by kernel_rfl) (by kernel_rfl) (by kernel_rfl) (e := sub64Entry) (by kernel_rfl), run_sub64 X Y C (by omega)]
  simp only [Result.andThen]
  have e1 : (((X + 18446744073709551616 - Y - C) % 18446744073709551616 : Nat) : Int) = ((X : Int) - Y - C) % 18446744073709551616 := by omega
  have e2 : ((if X < Y + C then 1 else 0 : Nat) : Int) = bor (X : Int) ((Y : Int) + C) := by
    unfold bor; split <;> split <;> omega
  rw [e1, e2]

theorem sub64_0 (x y : Int) (hx : 0 ≤ x) (hy : 0 ≤ y) (hy1 : y < 18446744073709551616) (w : World) :
    (callFunc 43 #[.int .u64 x, .int .u64 y, .int .u64 0]).run Try.prog w =
      .ok (.value (.tuple #[.int .u64 ((x - y) % 18446744073709551616), .int .u64 (bor x y)])) w := by
  have h := sub64 x y 0 hx hy hy1 (Int.le_refl 0) (by decide) w
  rw [Int.add_zero, Int.sub_zero] at h
  exact h

theorem ret_two {a b c d : Int} (h : a = c) (k : b = d) : Ending.returned (.tuple #[.int .u64 a, .int .u64 b]) = Ending.returned (.tuple #[.int .u64 c, .int .u64 d]) := by rw [h, k]

theorem ret_one {a c : Int} (h : a = c) : Ending.returned (.int .u64 a) = Ending.returned (.int .u64 c) := by rw [h]

/-- The four halves' products under names: what the school method comes to. -/
theorem school (x y : Int) (hx : 0 ≤ x) (hx1 : x < 18446744073709551616) (hy : 0 ≤ y) (hy1 : y < 18446744073709551616) :
    ∃ x0 x1 y0 y1 p q r s : Int, bits .and .u64 x 4294967295 = x0 ∧ x / 4294967296 = x1 ∧ bits .and .u64 y 4294967295 = y0 ∧ y / 4294967296 = y1 ∧
      x0 * y0 = p ∧ x1 * y0 = q ∧ x0 * y1 = r ∧ x1 * y1 = s ∧
      (0 ≤ p ∧ p ≤ 18446744065119617025) ∧ (0 ≤ q ∧ q ≤ 18446744065119617025) ∧ (0 ≤ r ∧ r ≤ 18446744065119617025) ∧ (0 ≤ s ∧ s ≤ 18446744065119617025) ∧
      x * y = s * 18446744073709551616 + (q + r) * 4294967296 + p := by
  obtain ⟨X, rfl⟩ := Int.eq_ofNat_of_zero_le hx
  obtain ⟨Y, rfl⟩ := Int.eq_ofNat_of_zero_le hy
  have bp := Lib.half_mul_le (a := X % 4294967296) (b := Y % 4294967296) (by omega) (by omega)
  have bq := Lib.half_mul_le (a := X / 4294967296) (b := Y % 4294967296) (by omega) (by omega)
  have br := Lib.half_mul_le (a := X % 4294967296) (b := Y / 4294967296) (by omega) (by omega)
  have bs := Lib.half_mul_le (a := X / 4294967296) (b := Y / 4294967296) (by omega) (by omega)
  have e : X * Y = (X / 4294967296) * (Y / 4294967296) * (4294967296 * 4294967296) + ((X / 4294967296) * (Y % 4294967296) + (X % 4294967296) * (Y / 4294967296)) * 4294967296 + (X % 4294967296) * (Y % 4294967296) := by
    rw [← Lib.split_mul, Nat.div_add_mod' X 4294967296, Nat.div_add_mod' Y 4294967296]
  refine ⟨((X % 4294967296 : Nat) : Int), ((X / 4294967296 : Nat) : Int), ((Y % 4294967296 : Nat) : Int), ((Y / 4294967296 : Nat) : Int),
    (((X % 4294967296) * (Y % 4294967296) : Nat) : Int), (((X / 4294967296) * (Y % 4294967296) : Nat) : Int), (((X % 4294967296) * (Y / 4294967296) : Nat) : Int), (((X / 4294967296) * (Y / 4294967296) : Nat) : Int),
    Mul64.maskN X (by omega), Mul64.divN X, Mul64.maskN Y (by omega), Mul64.divN Y, Mul64.mulN _ _, Mul64.mulN _ _, Mul64.mulN _ _, Mul64.mulN _ _, ?_⟩
  rw [Mul64.mulN, e]
  generalize (X % 4294967296) * (Y % 4294967296) = p at *
  generalize (X / 4294967296) * (Y % 4294967296) = q at *
  generalize (X % 4294967296) * (Y / 4294967296) = r at *
  generalize (X / 4294967296) * (Y / 4294967296) = s at *
  omega

theorem mask32 (a : Int) (h0 : 0 ≤ a) (h1 : a < 18446744073709551616) : bits .and .u64 a 4294967295 = a % 4294967296 := by
  obtain ⟨A, rfl⟩ := Int.eq_ofNat_of_zero_le h0
  rw [Mul64.maskN A (by omega)]; omega

end Go.Proofs.Ytegjdjfnpphipaa


/- What the functions of package word answer, for any words: sums, differences, products, masks, choices, tests; no condition but that the arguments are words. -/
namespace Go.Proofs.Ytegjdjfnpphipaa
open Go.RowKit

theorem and_one (x : Int) (h0 : 0 ≤ x) (h1 : x < 18446744073709551616) : bits .and .u64 x 1 = x % 2 := and_one_u64 x h0 (by omega)

/-- A product of two words and two words more are below 2^128. -/
theorem prod_bd (a b : Int) (a0 : 0 ≤ a) (a1 : a < 18446744073709551616) (b0 : 0 ≤ b) (b1 : b < 18446744073709551616) :
    0 ≤ a * b ∧ a * b ≤ 340282366920938463426481119284349108225 :=
  ⟨Int.mul_nonneg a0 b0, (Int.mul_le_mul (c := 18446744073709551615) (d := 18446744073709551615) (by omega) (by omega) b0 (by decide) : a * b ≤ 18446744073709551615 * 18446744073709551615)⟩

/-- All ones for an odd bit, else 0. -/
def msk (x : Int) : Int := x % 2 * 18446744073709551615

/-- word.Mask. -/
theorem wMask (a : Int) (a0 : 0 ≤ a) (a1 : a < 18446744073709551616) (w : World) :
    Calls Try.prog 42 #[.int .u64 a] w fun e w' => e = .returned (.int .u64 (msk a)) ∧ w' = w := by
  have hb := and_one a a0 a1
  go_enter Try.func42, Try.ntmps42
  go_wp2
  go_ret
  refine ⟨ret_one ?_, rfl⟩
  unfold msk
  rw [IntKind.wrap_u64]; omega

/-- word.Less. -/
theorem wLess (a b : Int) (a0 : 0 ≤ a) (b0 : 0 ≤ b) (b1 : b < 18446744073709551616) (w : World) :
    Calls Try.prog 31 #[.int .u64 a, .int .u64 b] w fun e w' => e = .returned (.int .u64 (bor a b)) ∧ w' = w := by
  go_enter Try.func31, Try.ntmps31
  go_wp2_with (simp only [sub64_0 a b a0 b0 b1])
  go_ret
  exact ⟨rfl, rfl⟩

/-- a for an odd bit, else b. -/
def sel (k a b : Int) : Int := if k % 2 = 1 then a else b

theorem sel_eq (k a b : Int) (a0 : 0 ≤ a) (a1 : a < 18446744073709551616) (b0 : 0 ≤ b) (b1 : b < 18446744073709551616) :
    bits .xor .u64 b (bits .and .u64 (msk k) (bits .xor .u64 a b)) = sel k a b := by
  obtain ⟨A, rfl⟩ := Int.eq_ofNat_of_zero_le a0
  obtain ⟨B, rfl⟩ := Int.eq_ofNat_of_zero_le b0
  have hx : A ^^^ B < 2 ^ 64 := Nat.xor_lt_two_pow (by omega) (by omega)
  rw [u64_xor_nat A B (by omega) (by omega)]
  unfold sel msk
  have : k % 2 = 0 ∨ k % 2 = 1 := by omega
  rcases this with h | h
  · rw [h]
    have e := u64_and_nat 0 (A ^^^ B) (by omega) (by omega)
    rw [Nat.zero_and] at e
    have e' : bits .and .u64 (0 * 18446744073709551615) ((A ^^^ B : Nat) : Int) = ((0 : Nat) : Int) := e
    rw [e', u64_xor_nat B 0 (by omega) (by omega), Nat.xor_zero]; simp
  · rw [h]
    have e := u64_and_nat 18446744073709551615 (A ^^^ B) (by omega) (by omega)
    rw [Nat.and_comm, show (18446744073709551615 : Nat) = 2 ^ 64 - 1 from rfl, Nat.and_two_pow_sub_one_of_lt_two_pow hx] at e
    have e' : bits .and .u64 (1 * 18446744073709551615) ((A ^^^ B : Nat) : Int) = ((A ^^^ B : Nat) : Int) := e
    rw [e', u64_xor_nat B (A ^^^ B) (by omega) (by omega), Nat.xor_comm A B, ← Nat.xor_assoc, Nat.xor_self, Nat.zero_xor]; simp

/-- word.Select. -/
theorem wSelect (k a b : Int) (k0 : 0 ≤ k) (k1 : k < 18446744073709551616) (a0 : 0 ≤ a) (a1 : a < 18446744073709551616) (b0 : 0 ≤ b) (b1 : b < 18446744073709551616) (w : World) :
    Calls Try.prog 33 #[.int .u64 k, .int .u64 a, .int .u64 b] w fun e w' => e = .returned (.int .u64 (sel k a b)) ∧ w' = w := by
  have hs := sel_eq k a b a0 a1 b0 b1
  go_enter Try.func33, Try.ntmps33
  go_wp2_with (go_at_call 42; refine (wMask k k0 k1 _).mono ?_; rintro e w' ⟨rfl, rfl⟩)
  go_ret
  exact ⟨rfl, rfl⟩

/-- 1, if a is 0, else 0. -/
def zer (a : Int) : Int := if a = 0 then 1 else 0

theorem zer_eq (a : Int) (a0 : 0 ≤ a) (a1 : a < 18446744073709551616) :
    bits .xor .u64 (bits .or .u64 a (IntKind.u64.wrap (-a)) / 9223372036854775808) 1 = zer a := by
  obtain ⟨A, rfl⟩ := Int.eq_ofNat_of_zero_le a0
  unfold zer
  by_cases h : A = 0
  · subst h; decide +kernel
  · have e : IntKind.u64.wrap (-(A : Int)) = ((18446744073709551616 - A : Nat) : Int) := by rw [IntKind.wrap_u64]; omega
    rw [e, u64_or_nat A _ (by omega) (by omega)]
    have hl : A ≤ A ||| (18446744073709551616 - A) := Nat.left_le_or
    have hr : 18446744073709551616 - A ≤ A ||| (18446744073709551616 - A) := Nat.right_le_or
    have hu : A ||| (18446744073709551616 - A) < 2 ^ 64 := Nat.or_lt_two_pow (by omega) (by omega)
    generalize A ||| (18446744073709551616 - A) = B at *
    have hq : (B : Int) / 9223372036854775808 = 1 := by omega
    rw [hq, if_neg (by omega)]; decide +kernel

/-- word.Zero. -/
theorem wZero (a : Int) (a0 : 0 ≤ a) (a1 : a < 18446744073709551616) (w : World) :
    Calls Try.prog 34 #[.int .u64 a] w fun e w' => e = .returned (.int .u64 (zer a)) ∧ w' = w := by
  have hz := zer_eq a a0 a1
  go_enter Try.func34, Try.ntmps34
  go_wp2
  go_ret
  exact ⟨rfl, rfl⟩

/-- 1, if a and b are alike, else 0. -/
def eqw (a b : Int) : Int := if a = b then 1 else 0

theorem zer_xor (a b : Int) (a0 : 0 ≤ a) (a1 : a < 18446744073709551616) (b0 : 0 ≤ b) (b1 : b < 18446744073709551616) :
    0 ≤ bits .xor .u64 a b ∧ bits .xor .u64 a b < 18446744073709551616 ∧ zer (bits .xor .u64 a b) = eqw a b := by
  obtain ⟨A, rfl⟩ := Int.eq_ofNat_of_zero_le a0
  obtain ⟨B, rfl⟩ := Int.eq_ofNat_of_zero_le b0
  have hx : A ^^^ B < 2 ^ 64 := Nat.xor_lt_two_pow (by omega) (by omega)
  rw [u64_xor_nat A B (by omega) (by omega)]
  refine ⟨by omega, by omega, ?_⟩
  unfold zer eqw
  by_cases h : A = B
  · subst h; simp
  · have : A ^^^ B ≠ 0 := fun e => h (by
      have e2 : A ^^^ (A ^^^ B) = A ^^^ 0 := by rw [e]
      rw [← Nat.xor_assoc, Nat.xor_self, Nat.zero_xor, Nat.xor_zero] at e2
      exact e2.symm)
    rw [if_neg (by omega), if_neg (by omega)]

/-- word.Equal. -/
theorem wEqual (a b : Int) (a0 : 0 ≤ a) (a1 : a < 18446744073709551616) (b0 : 0 ≤ b) (b1 : b < 18446744073709551616) (w : World) :
    Calls Try.prog 32 #[.int .u64 a, .int .u64 b] w fun e w' => e = .returned (.int .u64 (eqw a b)) ∧ w' = w := by
  obtain ⟨x0, x1, hx⟩ := zer_xor a b a0 a1 b0 b1
  go_enter Try.func32, Try.ntmps32
  go_wp2_with (go_at_call 34; refine (wZero _ x0 x1 _).mono ?_; rintro e w' ⟨rfl, rfl⟩)
  go_ret
  exact ⟨rfl, rfl⟩
end Go.Proofs.Ytegjdjfnpphipaa
