/- Melted of: MInv Inv1. -/
import Derived.Test.YtiljkgoafknefaaGreatLim1
import Derived.Laws.BitsAllLaws

/- Plain numbers: inverses modulo 2^64, by steps that double the bits and bit by bit. -/
namespace Go.Proofs.YtiljkgoafknefaaGreat

theorem pow_le64 (k : Nat) (h : k ≤ 64) : (2 : Int) ^ k ∣ 18446744073709551616 := by
  have : (18446744073709551616 : Int) = 2 ^ k * 2 ^ (64 - k) := by rw [← Int.pow_add, show k + (64 - k) = 64 by omega]; rfl
  exact ⟨_, this⟩

/-- An odd number's square is 1 modulo 8. -/
theorem inv_start (a : Int) (h : a % 2 = 1) : (2 : Int) ^ 3 ∣ 1 - a * a := by
  obtain ⟨b, rfl⟩ : ∃ b, a = 2 * b + 1 := ⟨a / 2, by omega⟩
  have e : (1 : Int) - (2 * b + 1) * (2 * b + 1) = -4 * (b * (b + 1)) := by
    simp only [Int.mul_add, Int.add_mul, Int.mul_one, Int.one_mul, Int.neg_mul]
    rw [show (2 * b * (2 * b) : Int) = 4 * (b * b) by rw [Int.mul_assoc, Int.mul_left_comm b 2 b]; omega]
    omega
  have hp : ∃ c, b * (b + 1) = 2 * c := by
    rcases Int.emod_two_eq b with h2 | h2
    · obtain ⟨c, rfl⟩ : ∃ c, b = 2 * c := ⟨b / 2, by omega⟩
      exact ⟨c * (2 * c + 1), by rw [Int.mul_assoc]⟩
    · obtain ⟨c, rfl⟩ : ∃ c, b = 2 * c + 1 := ⟨b / 2, by omega⟩
      exact ⟨(2 * c + 1) * (c + 1), by rw [show 2 * c + 1 + 1 = 2 * (c + 1) by omega, ← Int.mul_assoc, Int.mul_comm (2 * c + 1) 2, Int.mul_assoc]⟩
  obtain ⟨c, hc⟩ := hp
  rw [e, hc]
  exact ⟨-c, by omega⟩

/-- What a step makes of the rest: its square, modulo 2^64. -/
theorem inv_step (a x y : Int) (k : Nat) (h : (2 : Int) ^ k ∣ 1 - a * x) (hy : (18446744073709551616 : Int) ∣ y - x * (2 - a * x)) (m : Nat) (hm : m ≤ 2 * k) (hm2 : m ≤ 64) :
    (2 : Int) ^ m ∣ 1 - a * y := by
  have e : 1 - a * y = (1 - a * x) * (1 - a * x) - a * (y - x * (2 - a * x)) := by
    simp only [Int.mul_sub, Int.sub_mul, Int.mul_one, Int.one_mul]
    have h1 : a * (x * 2) = a * x * 2 := by rw [Int.mul_assoc]
    have h2 : a * (x * (a * x)) = a * x * (a * x) := by rw [Int.mul_assoc]
    omega
  rw [e]
  refine Int.dvd_sub ?_ ?_
  · have h1 : (2 : Int) ^ (k + k) ∣ (1 - a * x) * (1 - a * x) := by rw [Int.pow_add]; exact Int.mul_dvd_mul h h
    refine Int.dvd_trans ?_ h1
    exact ⟨2 ^ (k + k - m), by rw [← Int.pow_add]; congr 1; omega⟩
  · exact Int.dvd_trans (Int.dvd_trans (pow_le64 m hm2) hy) (Int.dvd_mul_left _ _)

/-- The wrapped step stands for the step. -/
theorem wrap_step (a x : Int) : (18446744073709551616 : Int) ∣ (x * ((2 - a * x % 18446744073709551616) % 18446744073709551616)) % 18446744073709551616 - x * (2 - a * x) := by
  obtain ⟨t, ht⟩ : ∃ t, (2 - a * x % 18446744073709551616) % 18446744073709551616 = 2 - a * x + 18446744073709551616 * t := ⟨((2 - a * x % 18446744073709551616) % 18446744073709551616 - (2 - a * x)) / 18446744073709551616, by omega⟩
  rw [ht, Int.mul_add, Int.mul_left_comm x 18446744073709551616 t]
  generalize x * (2 - a * x) = p
  generalize x * t = q
  omega

/-- No two words are inverses of one. -/
theorem inv_uniq (a x y : Int) (x0 : 0 ≤ x) (x1 : x < 18446744073709551616) (y0 : 0 ≤ y) (y1 : y < 18446744073709551616)
    (hx : (18446744073709551616 : Int) ∣ 1 - a * x) (hy : (18446744073709551616 : Int) ∣ 1 - a * y) : x = y := by
  have e : x - y = x * (1 - a * y) - y * (1 - a * x) := by
    simp only [Int.mul_sub, Int.mul_one]
    have : x * (a * y) = y * (a * x) := by rw [← Int.mul_assoc, ← Int.mul_assoc, Int.mul_comm x a, Int.mul_comm (a * x) y, Int.mul_comm y a, Int.mul_comm y, Int.mul_assoc, Int.mul_assoc, Int.mul_comm x y]
    omega
  have hd : (18446744073709551616 : Int) ∣ x - y := by
    rw [e]; exact Int.dvd_sub (Int.dvd_trans hy (Int.dvd_mul_left _ _)) (Int.dvd_trans hx (Int.dvd_mul_left _ _))
  omega

theorem dvd_one_sub (a x : Int) : (18446744073709551616 : Int) ∣ 1 - a * x ↔ a * x % 18446744073709551616 = 1 := by
  constructor
  · intro h; omega
  · intro h; omega

/-- Bit by bit: the bit is as wanted already. -/
theorem bit_keep (a x : Int) (k : Nat) (h : (2 : Int) ^ k ∣ 1 - a * x) (t : Int) (ht : (k = 0 ∧ t = 1) ∨ (0 < k ∧ t = 0)) (hb : (a * x / 2 ^ k) % 2 = t) : (2 : Int) ^ (k + 1) ∣ 1 - a * x := by
  have hp : (0 : Int) < 2 ^ k := Int.pow_pos (by decide)
  rcases ht with ⟨rfl, rfl⟩ | ⟨hk, rfl⟩
  · simp at hb ⊢; omega
  · obtain ⟨n, rfl⟩ : ∃ n, k = n + 1 := ⟨k - 1, by omega⟩
    obtain ⟨c, hc⟩ := h
    have e : a * x = 1 + 2 ^ (n + 1) * (-c) := by rw [Int.mul_neg]; omega
    have h1 : (1 : Int) / 2 ^ (n + 1) = 0 := Int.ediv_eq_zero_of_lt (by decide) (by rw [Int.pow_succ]; have : (0 : Int) < 2 ^ n := Int.pow_pos (by decide); omega)
    rw [e, Int.add_mul_ediv_left _ _ (by omega), h1] at hb
    obtain ⟨d, hd⟩ : ∃ d, c = 2 * d := ⟨c / 2, by omega⟩
    rw [hc, hd]
    exact ⟨d, by rw [Int.pow_succ _ (n + 1), Int.mul_assoc]⟩

/-- Bit by bit: the bit is set. -/
theorem bit_set (a x : Int) (k : Nat) (hodd : a % 2 = 1) (h : (2 : Int) ^ k ∣ 1 - a * x) (t : Int) (ht : (k = 0 ∧ t = 1) ∨ (0 < k ∧ t = 0)) (hb : (a * x / 2 ^ k) % 2 ≠ t) : (2 : Int) ^ (k + 1) ∣ 1 - a * (x + 2 ^ k) := by
  apply bit_keep a (x + 2 ^ k) k ?_ t ht ?_
  · rw [Int.mul_add, show 1 - (a * x + a * 2 ^ k) = (1 - a * x) - a * 2 ^ k by omega]
    exact Int.dvd_sub h (Int.dvd_mul_left _ _)
  · have hp : (0 : Int) < 2 ^ k := Int.pow_pos (by decide)
    rw [Int.mul_add, Int.add_mul_ediv_right _ _ (by omega)]
    rcases ht with ⟨_, rfl⟩ | ⟨_, rfl⟩ <;> omega
end Go.Proofs.YtiljkgoafknefaaGreat

/- The plain side of layer 1: the inverse of a word modulo 2^64. -/
namespace Go.Proofs.YtiljkgoafknefaaGreat
open Go.RowKit

/-- x is the inverse of a modulo 2^64, or 0 if a is even. -/
def isInv (a x : Int) : Prop := 0 ≤ x ∧ x < 18446744073709551616 ∧ (a % 2 = 1 → (18446744073709551616 : Int) ∣ 1 - a * x) ∧ (a % 2 = 0 → x = 0)

theorem isInv_uniq {a x y : Int} (hx : isInv a x) (hy : isInv a y) : x = y := by
  obtain ⟨x0, x1, x2, x3⟩ := hx
  obtain ⟨y0, y1, y2, y3⟩ := hy
  have : a % 2 = 0 ∨ a % 2 = 1 := by omega
  rcases this with h | h
  · rw [x3 h, y3 h]
  · exact inv_uniq a x y x0 x1 y0 y1 (x2 h) (y2 h)

/-- 2^i as a word, joined to a word below it. -/
theorem or_pow (x : Int) (k : Nat) (hk : k < 64) (x0 : 0 ≤ x) (x1 : x < 2 ^ k) : bits .or .u64 x (IntKind.u64.wrap (2 ^ k)) = x + 2 ^ k := by
  obtain ⟨X, rfl⟩ := Int.eq_ofNat_of_zero_le x0
  have hlt : (2 : Nat) ^ k ≤ 2 ^ 63 := Nat.pow_le_pow_right (by decide) (by omega)
  have e0 : ((2 ^ k : Nat) : Int) = 2 ^ k := by simp
  have hX : X < 2 ^ k := by rw [← e0] at x1; omega
  have e1 : IntKind.u64.wrap (2 ^ k) = ((2 ^ k : Nat) : Int) := by rw [← e0, IntKind.wrap_u64]; omega
  rw [e1, u64_or_nat X (2 ^ k) (by omega) (by omega), Nat.or_comm, nat_join k (2 ^ k) X (by simp) hX]
  omega

/-- The bit that the plain inverse asks for. -/
theorem bit_of (a x : Int) (k : Nat) (hk : k < 64) : bits .and .u64 (IntKind.u64.wrap (a * x) / 2 ^ k) 1 = a * x / 2 ^ k % 2 := by
  have hp : (0 : Int) < 2 ^ k := Int.pow_pos (by decide)
  have h0 : 0 ≤ IntKind.u64.wrap (a * x) / 2 ^ k := Int.ediv_nonneg (by rw [IntKind.wrap_u64]; omega) (Int.le_of_lt hp)
  have h1 : IntKind.u64.wrap (a * x) / 2 ^ k < 18446744073709551616 := Int.lt_of_le_of_lt (Int.ediv_le_self _ (by rw [IntKind.wrap_u64]; omega)) (by rw [IntKind.wrap_u64]; omega)
  rw [and_one_u64 _ h0 (by omega), IntKind.wrap_u64]
  generalize a * x = p
  obtain ⟨n, hn⟩ : ∃ n, 64 = k + (n + 1) := ⟨63 - k, by omega⟩
  have e : (18446744073709551616 : Int) = 2 ^ k * (2 * 2 ^ n) := by
    rw [show (18446744073709551616 : Int) = 2 ^ 64 from rfl, hn, Int.pow_add, Int.pow_succ, Int.mul_comm (2 ^ n) 2]
  have e2 : p % 18446744073709551616 = p + 2 ^ k * (2 * (2 ^ n * (-(p / 18446744073709551616)))) := by
    have := Int.emod_def p 18446744073709551616
    rw [this]
    have : 2 ^ k * (2 * (2 ^ n * (-(p / 18446744073709551616)))) = -(18446744073709551616 * (p / 18446744073709551616)) := by
      conv => rhs; rw [e]
      rw [Int.mul_neg, Int.mul_neg, Int.mul_neg, Int.mul_assoc, Int.mul_assoc, ← e]
    omega
  rw [e2, Int.add_mul_ediv_left _ _ (by omega)]
  omega

end Go.Proofs.YtiljkgoafknefaaGreat
