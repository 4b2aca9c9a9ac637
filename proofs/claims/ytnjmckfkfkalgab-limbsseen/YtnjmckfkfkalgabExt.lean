/- What the library's Add64, Sub64 and Mul64 answer at this translation, for any words; condition: the carry or borrow that comes in is at most 1. -/
import Derived.Test.YtnjmckfkfkalgabRows
import Derived.WalkKit
import Derived.WalkSpells
import Derived.WalkLawsBesides
import Derived.Shelf.Spec.BitsCarry
import Derived.Shelf.Bits.Mul64
import Derived.Laws.BitsAllLaws
namespace Go.Proofs.Ytnjmckfkfkalgab
open Go.RowKit

/-- 1, if x is below y, else 0. -/
def bor (x y : Int) : Int := if x < y then 1 else 0

theorem bor_pos {x y : Int} (h : x < y) : bor x y = 1 := if_pos h
theorem bor_neg {x y : Int} (h : ¬ x < y) : bor x y = 0 := if_neg h
theorem bor_bd (x y : Int) : 0 ≤ bor x y ∧ bor x y ≤ 1 := by unfold bor; split <;> omega

/-- The call of Add64. -/
theorem add64 (x y c : Int) (hx : 0 ≤ x) (hy : 0 ≤ y) (hc0 : 0 ≤ c) (hc : c ≤ 1) (w : World) :
    (callFunc 38 #[.int .u64 x, .int .u64 y, .int .u64 c]).run Try.prog w =
      .ok (.value (.tuple #[.int .u64 ((x + y + c) % 18446744073709551616), .int .u64 ((x + y + c) / 18446744073709551616)])) w := by
  rw [run_callFunc_extern Try.func38 (by kernel_rfl) (by kernel_rfl) (by kernel_rfl) (e := add64Entry) (by kernel_rfl), run_add64 x y c hx hy hc0 hc]
  simp only [Result.andThen]

theorem add64_0 (x y : Int) (hx : 0 ≤ x) (hy : 0 ≤ y) (w : World) :
    (callFunc 38 #[.int .u64 x, .int .u64 y, .int .u64 0]).run Try.prog w =
      .ok (.value (.tuple #[.int .u64 ((x + y) % 18446744073709551616), .int .u64 ((x + y) / 18446744073709551616)])) w := by
  have h := add64 x y 0 hx hy (Int.le_refl 0) (by decide) w
  rw [Int.add_zero] at h
  exact h
/-- The call of Sub64. -/
theorem sub64 (x y c : Int) (hx : 0 ≤ x) (hy : 0 ≤ y) (hy1 : y < 18446744073709551616) (hc0 : 0 ≤ c) (hc : c ≤ 1) (w : World) :
    (callFunc 37 #[.int .u64 x, .int .u64 y, .int .u64 c]).run Try.prog w =
      .ok (.value (.tuple #[.int .u64 ((x - y - c) % 18446744073709551616), .int .u64 (bor x (y + c))])) w := by
  obtain ⟨X, rfl⟩ := Int.eq_ofNat_of_zero_le hx
  obtain ⟨Y, rfl⟩ := Int.eq_ofNat_of_zero_le hy
  obtain ⟨C, rfl⟩ := Int.eq_ofNat_of_zero_le hc0
  rw [run_callFunc_extern Try.func37 (by kernel_rfl) (by kernel_rfl) (by kernel_rfl) (e := sub64Entry) (by kernel_rfl), run_sub64 X Y C (by omega)]
  simp only [Result.andThen]
  have e1 : (((X + 18446744073709551616 - Y - C) % 18446744073709551616 : Nat) : Int) = ((X : Int) - Y - C) % 18446744073709551616 := by omega
  have e2 : ((if X < Y + C then 1 else 0 : Nat) : Int) = bor (X : Int) ((Y : Int) + C) := by
    unfold bor; split <;> split <;> omega
  rw [e1, e2]

theorem sub64_0 (x y : Int) (hx : 0 ≤ x) (hy : 0 ≤ y) (hy1 : y < 18446744073709551616) (w : World) :
    (callFunc 37 #[.int .u64 x, .int .u64 y, .int .u64 0]).run Try.prog w =
      .ok (.value (.tuple #[.int .u64 ((x - y) % 18446744073709551616), .int .u64 (bor x y)])) w := by
  have h := sub64 x y 0 hx hy hy1 (Int.le_refl 0) (by decide) w
  rw [Int.add_zero, Int.sub_zero] at h
  exact h
theorem ret_two {a b c d : Int} (h : a = c) (k : b = d) : Ending.returned (.tuple #[.int .u64 a, .int .u64 b]) = Ending.returned (.tuple #[.int .u64 c, .int .u64 d]) := by rw [h, k]
theorem ret_one {a c : Int} (h : a = c) : Ending.returned (.int .u64 a) = Ending.returned (.int .u64 c) := by rw [h]

/-- The four halves' products under names: what the school method comes to. -/
theorem school (x y : Int) (hx : 0 ≤ x) (hx1 : x < 18446744073709551616) (hy : 0 ≤ y) (hy1 : y < 18446744073709551616) :
    ∃ x0 x1 y0 y1 p q r s : Int, bits .and .u64 x 4294967295 = x0 ∧ x / 4294967296 = x1 ∧ bits .and .u64 y 4294967295 = y0 ∧ y / 4294967296 = y1 ∧
      x0 * y0 = p ∧ x1 * y0 = q ∧ x0 * y1 = r ∧ x1 * y1 = s ∧
      (0 ≤ p ∧ p ≤ 18446744065119617025) ∧ (0 ≤ q ∧ q ≤ 18446744065119617025) ∧ (0 ≤ r ∧ r ≤ 18446744065119617025) ∧ (0 ≤ s ∧ s ≤ 18446744065119617025) ∧
      x * y = s * 18446744073709551616 + (q + r) * 4294967296 + p := by
  obtain ⟨X, rfl⟩ := Int.eq_ofNat_of_zero_le hx
  obtain ⟨Y, rfl⟩ := Int.eq_ofNat_of_zero_le hy
  have bp := Lib.half_mul_le (a := X % 4294967296) (b := Y % 4294967296) (by omega) (by omega)
  have bq := Lib.half_mul_le (a := X / 4294967296) (b := Y % 4294967296) (by omega) (by omega)
  have br := Lib.half_mul_le (a := X % 4294967296) (b := Y / 4294967296) (by omega) (by omega)
  have bs := Lib.half_mul_le (a := X / 4294967296) (b := Y / 4294967296) (by omega) (by omega)
  have e : X * Y = (X / 4294967296) * (Y / 4294967296) * (4294967296 * 4294967296) + ((X / 4294967296) * (Y % 4294967296) + (X % 4294967296) * (Y / 4294967296)) * 4294967296 + (X % 4294967296) * (Y % 4294967296) := by
    rw [← Lib.split_mul, Nat.div_add_mod' X 4294967296, Nat.div_add_mod' Y 4294967296]
  refine ⟨((X % 4294967296 : Nat) : Int), ((X / 4294967296 : Nat) : Int), ((Y % 4294967296 : Nat) : Int), ((Y / 4294967296 : Nat) : Int),
    (((X % 4294967296) * (Y % 4294967296) : Nat) : Int), (((X / 4294967296) * (Y % 4294967296) : Nat) : Int), (((X % 4294967296) * (Y / 4294967296) : Nat) : Int), (((X / 4294967296) * (Y / 4294967296) : Nat) : Int),
    Mul64.maskN X (by omega), Mul64.divN X, Mul64.maskN Y (by omega), Mul64.divN Y, Mul64.mulN _ _, Mul64.mulN _ _, Mul64.mulN _ _, Mul64.mulN _ _, ?_⟩
  rw [Mul64.mulN, e]
  generalize (X % 4294967296) * (Y % 4294967296) = p at *
  generalize (X / 4294967296) * (Y % 4294967296) = q at *
  generalize (X % 4294967296) * (Y / 4294967296) = r at *
  generalize (X / 4294967296) * (Y / 4294967296) = s at *
  omega

theorem mask32 (a : Int) (h0 : 0 ≤ a) (h1 : a < 18446744073709551616) : bits .and .u64 a 4294967295 = a % 4294967296 := by
  obtain ⟨A, rfl⟩ := Int.eq_ofNat_of_zero_le h0
  rw [Mul64.maskN A (by omega)]; omega

end Go.Proofs.Ytnjmckfkfkalgab
