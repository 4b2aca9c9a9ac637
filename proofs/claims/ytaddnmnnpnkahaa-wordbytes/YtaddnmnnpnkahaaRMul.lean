/- The plain product, bit by bit, for any words: a b + c + d as its upper and its lower word. -/
import Derived.Test.YtaddnmnnpnkahaaRefs
namespace Go.Proofs.Ytaddnmnnpnkahaa
open Go.RowKit

/-- The plain sum, nothing carried in. -/
theorem rAdd0 (a b : Int) (a0 : 0 ≤ a) (a1 : a < 18446744073709551616) (b0 : 0 ≤ b) (b1 : b < 18446744073709551616) (w : World) :
    Calls Try.prog 11 #[.int .u64 a, .int .u64 b, .int .u64 0] w fun e w' =>
      e = .returned (.tuple #[.int .u64 ((a + b) % 18446744073709551616), .int .u64 ((a + b) / 18446744073709551616)]) ∧ w' = w := by
  have h := rAdd a b 0 a0 a1 b0 b1 (Int.le_refl 0) (by omega) w
  rw [show a + b + 0 % 2 = a + b by omega] at h
  exact h

/-- A bit joined to an even word. -/
theorem or_bit (x y : Int) (x0 : 0 ≤ x) (x1 : x < 9223372036854775808) (y0 : 0 ≤ y) (y1 : y ≤ 1) : bits .or .u64 (x * 2) y = x * 2 + y := by
  obtain ⟨X, rfl⟩ := Int.eq_ofNat_of_zero_le x0
  obtain ⟨Y, rfl⟩ := Int.eq_ofNat_of_zero_le y0
  have h := u64_or_nat (X * 2) Y (by omega) (by omega)
  rw [nat_join 1 (X * 2) Y (by omega) (by omega)] at h
  have e1 : (X : Int) * 2 = ((X * 2 : Nat) : Int) := by omega
  rw [e1, h]; omega

/-- What one round of the product is made of. -/
theorem mul_round (a b H L : Int) (n : Nat) (a0 : 0 ≤ a) (a1 : a < 18446744073709551616) (b0 : 0 ≤ b) (b1 : b < 18446744073709551616) (H0 : 0 ≤ H) (L0 : 0 ≤ L) (L1 : L < 18446744073709551616)
    (h : H * 18446744073709551616 + L = a * (b / 2 ^ (n + 1))) :
    ∃ H' L' : Int, bits .or .u64 (IntKind.u64.wrap (H * 2)) (L / 9223372036854775808) = H' ∧ IntKind.u64.wrap (L * 2) = L' ∧ 0 ≤ H' ∧ 0 ≤ L' ∧ L' < 18446744073709551616 ∧
      ((b / 2 ^ n) % 2 = 0 → H' * 18446744073709551616 + L' = a * (b / 2 ^ n)) ∧
      ((b / 2 ^ n) % 2 = 1 → H' * 18446744073709551616 + L' + a = a * (b / 2 ^ n) ∧ H' + 1 < 18446744073709551616) ∧
      0 ≤ b / 2 ^ n ∧ b / 2 ^ n < 18446744073709551616 := by
  have hpow : (0 : Int) < 2 ^ n := Int.pow_pos (by decide)
  have hq : b / 2 ^ (n + 1) = b / 2 ^ n / 2 := by rw [Int.pow_succ, Int.ediv_ediv_of_nonneg (Int.le_of_lt hpow)]
  have q0 : 0 ≤ b / 2 ^ n := Int.ediv_nonneg b0 (Int.le_of_lt hpow)
  have q1 : b / 2 ^ n ≤ b := Int.ediv_le_self _ b0
  rw [hq] at h
  generalize b / 2 ^ n = q at *
  obtain ⟨r, t, hr, ht0, ht1, rfl⟩ : ∃ r t : Int, q / 2 = r ∧ 0 ≤ t ∧ t ≤ 1 ∧ q = 2 * r + t := ⟨q / 2, q % 2, rfl, by omega, by omega, by omega⟩
  rw [hr] at h
  have hp := Int.mul_le_mul (a := a) (c := 18446744073709551615) (b := r) (d := 9223372036854775807) (by omega) (by omega) (by omega) (by decide)
  have e1 : a * (2 * r + t) = 2 * (a * r) + a * t := by rw [Int.mul_add, ← Int.mul_assoc, Int.mul_comm a 2, Int.mul_assoc]
  rw [e1]
  generalize a * r = p at *
  have hw1 : IntKind.u64.wrap (H * 2) = H * 2 := by rw [IntKind.wrap_u64]; omega
  have hor := or_bit H (L / 9223372036854775808) H0 (by omega) (by omega) (by omega)
  refine ⟨H * 2 + L / 9223372036854775808, L * 2 % 18446744073709551616, by rw [hw1, hor], IntKind.wrap_u64 _, by omega, by omega, by omega, ?_, ?_, by omega, by omega⟩
  · intro h2
    have : t = 0 := by omega
    subst this; omega
  · intro h2
    have : t = 1 := by omega
    subst this; omega

set_option maxHeartbeats 1000000 in
/-- The plain product. -/
theorem rMul (a b c d : Int) (a0 : 0 ≤ a) (a1 : a < 18446744073709551616) (b0 : 0 ≤ b) (b1 : b < 18446744073709551616) (c0 : 0 ≤ c) (c1 : c < 18446744073709551616) (d0 : 0 ≤ d) (d1 : d < 18446744073709551616) (w : World) :
    Calls Try.prog 15 #[.int .u64 a, .int .u64 b, .int .u64 c, .int .u64 d] w fun e w' =>
      e = .returned (.tuple #[.int .u64 ((a * b + c + d) / 18446744073709551616), .int .u64 ((a * b + c + d) % 18446744073709551616)]) ∧ w' = w := by
  go_enter Try.func15, Try.ntmps15
  go_wp2_with (fail)
  go_loop [10, 11, 12] (fun hi lo i => ∃ (H L : Int) (k : Nat), k ≤ 64 ∧ hi = .int .u64 H ∧ lo = .int .u64 L ∧ i = .int .i64 ((k : Int) - 1) ∧ 0 ≤ H ∧ 0 ≤ L ∧ L < 18446744073709551616 ∧ H * 18446744073709551616 + L = a * (b / 2 ^ k)) (fun _ _ i => (intOf i + 1).toNat)
  case atStart => exact ⟨0, 0, 64, by omega, rfl, rfl, rfl, by omega, by omega, by omega, by rw [show b / 2 ^ 64 = 0 by omega]; omega⟩
  case round =>
    obtain ⟨H, L, k, hk, rfl, rfl, rfl, H0, L0, L1, hrel⟩ := hrel
    by_cases hp : 0 < k
    · obtain ⟨n, rfl⟩ : ∃ n, k = n + 1 := ⟨k - 1, by omega⟩
      obtain ⟨H', L', e1, e2, H0', L0', L1', r0, r1, q0, q1⟩ := mul_round a b H L n a0 a1 b0 b1 H0 L0 L1 hrel
      have HR : Hid (((b / 2 ^ n) % 2 = 0 → H' * 18446744073709551616 + L' = a * (b / 2 ^ n)) ∧ ((b / 2 ^ n) % 2 = 1 → H' * 18446744073709551616 + L' + a = a * (b / 2 ^ n) ∧ H' + 1 < 18446744073709551616)) := ⟨r0, r1⟩
      clear hrel r0 r1
      have hand := and_one (b / 2 ^ n) q0 q1
      have hpar : b / 2 ^ n % 2 = 0 ∨ b / 2 ^ n % 2 = 1 := by omega
      clear q0 q1
      rcases hpar with ht | ht
      · have HT : Hid (b / 2 ^ n % 2 = 0) := ht
        have hb : (bits .and .u64 (b / 2 ^ n) 1 == 1) = false := by rw [hand, ht]; rfl
        clear hand ht
        go_wp2_with (fail)
        go_round
        case rel => exact ⟨H', L', n, by omega, rfl, rfl, by go_num, H0', L0', L1', HR.out.1 HT.out⟩
        case measure => simp [intOf]
      · have HT : Hid (b / 2 ^ n % 2 = 1) := ht
        have hb : (bits .and .u64 (b / 2 ^ n) 1 == 1) = true := by rw [hand, ht]; rfl
        clear hand ht
        have hH := (HR.out.2 HT.out).2
        go_wp2_with (go_at_call 11; refine (rAdd0 L' a L0' L1' a0 a1 _).mono ?_; rintro e w' ⟨rfl, rfl⟩)
        go_round
        case rel => exact ⟨H' + (L' + a) / 18446744073709551616, (L' + a) % 18446744073709551616, n, by omega, rfl, rfl, by go_num, by omega, by omega, by omega, by have := (HR.out.2 HT.out).1; omega⟩
        case measure => simp [intOf]
    · obtain rfl : k = 0 := by omega
      have hp := prod_bd a b a0 a1 b0 b1
      rw [show b / 2 ^ 0 = b by simp] at hrel
      generalize hab : a * b = p at *
      have HAB : Hid (a * b = p) := hab
      clear hab
      have HR : Hid (H * 18446744073709551616 + L = p) := hrel
      have hH : H ≤ 18446744073709551614 := by omega
      clear hrel
      go_wp2_with fail
      refine (rAdd0 L c L0 L1 c0 c1 _).mono ?_
      rintro e w' ⟨rfl, rfl⟩
      go_wp2_with fail
      refine (rAdd0 ((L + c) % 18446744073709551616) d (by omega) (by omega) d0 d1 _).mono ?_
      rintro e w' ⟨rfl, rfl⟩
      go_wp2
      go_ret2
      have := HR.out
      refine ⟨ret_two ?_ ?_, rfl⟩
      · rw [IntKind.wrap_u64, HAB.out]; omega
      · rw [HAB.out]; omega
end Go.Proofs.Ytaddnmnnpnkahaa
