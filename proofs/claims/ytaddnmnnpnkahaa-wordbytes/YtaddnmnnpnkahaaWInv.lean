/- What word.Inverse and the plain inverse answer, for any word, and that the statements' first test (the document's examples) passes. -/
import Derived.Test.YtaddnmnnpnkahaaRMul
import Derived.Test.YtaddnmnnpnkahaaMInv
namespace Go.Proofs.Ytaddnmnnpnkahaa
open Go.RowKit

/-- x is the inverse of a modulo 2^64, or 0 if a is even. -/
def isInv (a x : Int) : Prop := 0 ≤ x ∧ x < 18446744073709551616 ∧ (a % 2 = 1 → (18446744073709551616 : Int) ∣ 1 - a * x) ∧ (a % 2 = 0 → x = 0)

theorem isInv_uniq {a x y : Int} (hx : isInv a x) (hy : isInv a y) : x = y := by
  obtain ⟨x0, x1, x2, x3⟩ := hx
  obtain ⟨y0, y1, y2, y3⟩ := hy
  have : a % 2 = 0 ∨ a % 2 = 1 := by omega
  rcases this with h | h
  · rw [x3 h, y3 h]
  · exact inv_uniq a x y x0 x1 y0 y1 (x2 h) (y2 h)

theorem and_msk (x a : Int) (x0 : 0 ≤ x) (x1 : x < 18446744073709551616) : bits .and .u64 x (msk a) = if a % 2 = 1 then x else 0 := by
  obtain ⟨X, rfl⟩ := Int.eq_ofNat_of_zero_le x0
  unfold msk
  have : a % 2 = 0 ∨ a % 2 = 1 := by omega
  rcases this with h | h
  · rw [h, if_neg (by decide)]
    have e := u64_and_nat X 0 (by omega) (by omega)
    rw [Nat.and_zero] at e
    exact e
  · rw [h, if_pos rfl]
    have e := u64_and_nat X 18446744073709551615 (by omega) (by omega)
    rw [show (18446744073709551615 : Nat) = 2 ^ 64 - 1 from rfl, Nat.and_two_pow_sub_one_of_lt_two_pow (by omega)] at e
    exact e

set_option maxHeartbeats 1000000 in
/-- word.Inverse. -/
theorem wInverse (a : Int) (a0 : 0 ≤ a) (a1 : a < 18446744073709551616) (w : World) :
    Calls Try.prog 24 #[.int .u64 a] w fun e w' => (∃ x, e = .returned (.int .u64 x) ∧ isInv a x) ∧ w' = w := by
  go_enter Try.func24, Try.ntmps24
  go_wp2_with (fail)
  go_loop [3, 5] (fun x i => ∃ (X : Int) (k : Nat), k ≤ 5 ∧ x = .int .u64 X ∧ i = .int .i64 (k : Int) ∧ 0 ≤ X ∧ X < 18446744073709551616 ∧ Hid (a % 2 = 1 → (2 : Int) ^ (min 64 (3 * 2 ^ k)) ∣ 1 - a * X)) (fun _ i => (5 - intOf i).toNat)
  case atStart => exact ⟨a, 0, by omega, rfl, rfl, a0, a1, inv_start a⟩
  case round =>
    obtain ⟨X, k, hk, rfl, rfl, X0, X1, HX⟩ := hrel
    by_cases hp : k < 5
    · go_wp2_with (fail)
      go_round
      case rel =>
        refine ⟨_, k + 1, by omega, rfl, by go_num, ?_, ?_, ?_⟩
        · rw [IntKind.wrap_u64]; omega
        · rw [IntKind.wrap_u64]; omega
        · intro h
          have h1 := HX.out h
          simp only [IntKind.wrap_u64]
          exact inv_step a X _ _ h1 (wrap_step a X) _ (by rw [Nat.pow_succ]; omega) (by omega)
      case measure => simp [intOf]; omega
    · obtain rfl : k = 5 := by omega
      obtain ⟨Y, hY, hi⟩ : ∃ Y, bits .and .u64 X (msk a) = Y ∧ isInv a Y := by
        refine ⟨_, and_msk X a X0 X1, ?_⟩
        have : a % 2 = 0 ∨ a % 2 = 1 := by omega
        rcases this with h | h
        · rw [if_neg (by omega)]
          exact ⟨by omega, by omega, by omega, fun _ => rfl⟩
        · rw [if_pos h]
          exact ⟨X0, X1, HX.out, by omega⟩
      have HI : Hid (isInv a Y) := hi
      clear hi
      go_wp2_with (go_at_call 16; refine (wMask a a0 a1 _).mono ?_; rintro e w' ⟨rfl, rfl⟩)
      go_ret
      exact ⟨⟨Y, rfl, HI.out⟩, rfl⟩

/-- 2^i as a word, joined to a word below it. -/
theorem or_pow (x : Int) (k : Nat) (hk : k < 64) (x0 : 0 ≤ x) (x1 : x < 2 ^ k) : bits .or .u64 x (IntKind.u64.wrap (2 ^ k)) = x + 2 ^ k := by
  obtain ⟨X, rfl⟩ := Int.eq_ofNat_of_zero_le x0
  have hlt : (2 : Nat) ^ k ≤ 2 ^ 63 := Nat.pow_le_pow_right (by decide) (by omega)
  have e0 : ((2 ^ k : Nat) : Int) = 2 ^ k := by simp
  have hX : X < 2 ^ k := by rw [← e0] at x1; omega
  have e1 : IntKind.u64.wrap (2 ^ k) = ((2 ^ k : Nat) : Int) := by rw [← e0, IntKind.wrap_u64]; omega
  rw [e1, u64_or_nat X (2 ^ k) (by omega) (by omega), Nat.or_comm, nat_join k (2 ^ k) X (by simp) hX]
  omega

/-- The bit that the plain inverse asks for. -/
theorem bit_of (a x : Int) (k : Nat) (hk : k < 64) : bits .and .u64 (IntKind.u64.wrap (a * x) / 2 ^ k) 1 = a * x / 2 ^ k % 2 := by
  have hp : (0 : Int) < 2 ^ k := Int.pow_pos (by decide)
  have h0 : 0 ≤ IntKind.u64.wrap (a * x) / 2 ^ k := Int.ediv_nonneg (by rw [IntKind.wrap_u64]; omega) (Int.le_of_lt hp)
  have h1 : IntKind.u64.wrap (a * x) / 2 ^ k < 18446744073709551616 := Int.lt_of_le_of_lt (Int.ediv_le_self _ (by rw [IntKind.wrap_u64]; omega)) (by rw [IntKind.wrap_u64]; omega)
  rw [and_one _ h0 h1, IntKind.wrap_u64]
  generalize a * x = p
  obtain ⟨n, hn⟩ : ∃ n, 64 = k + (n + 1) := ⟨63 - k, by omega⟩
  have e : (18446744073709551616 : Int) = 2 ^ k * (2 * 2 ^ n) := by
    rw [show (18446744073709551616 : Int) = 2 ^ 64 from rfl, hn, Int.pow_add, Int.pow_succ, Int.mul_comm (2 ^ n) 2]
  have e2 : p % 18446744073709551616 = p + 2 ^ k * (2 * (2 ^ n * (-(p / 18446744073709551616)))) := by
    have := Int.emod_def p 18446744073709551616
    rw [this]
    have : 2 ^ k * (2 * (2 ^ n * (-(p / 18446744073709551616)))) = -(18446744073709551616 * (p / 18446744073709551616)) := by
      conv => rhs; rw [e]
      rw [Int.mul_neg, Int.mul_neg, Int.mul_neg, Int.mul_assoc, Int.mul_assoc, ← e]
    omega
  rw [e2, Int.add_mul_ediv_left _ _ (by omega)]
  omega

set_option maxHeartbeats 1000000 in
/-- The plain inverse. -/
theorem rInverse (a : Int) (a0 : 0 ≤ a) (a1 : a < 18446744073709551616) (w : World) :
    Calls Try.prog 25 #[.int .u64 a] w fun e w' => (∃ x, e = .returned (.int .u64 x) ∧ isInv a x) ∧ w' = w := by
  have : a % 2 = 0 ∨ a % 2 = 1 := by omega
  rcases this with h | h
  · have h' : (a % 2 == 0) = true := by simpa using h
    have HI : Hid (isInv a 0) := ⟨by omega, by omega, by omega, fun _ => rfl⟩
    clear h
    go_enter Try.func25, Try.ntmps25
    go_wp2_with (fail)
    go_ret
    exact ⟨⟨0, rfl, HI.out⟩, rfl⟩
  · have h' : (a % 2 == 0) = false := by rw [h]; rfl
    have HO : Hid (a % 2 = 1) := h
    clear h
    go_enter Try.func25, Try.ntmps25
    go_wp2_with (fail)
    go_loop [3, 4] (fun x i => ∃ (X : Int) (k : Nat), k ≤ 64 ∧ x = .int .u64 X ∧ i = .int .i64 (k : Int) ∧ 0 ≤ X ∧ X < 2 ^ k ∧ Hid ((2 : Int) ^ k ∣ 1 - a * X)) (fun _ i => (64 - intOf i).toNat)
    case atStart => exact ⟨0, 0, by omega, rfl, rfl, by omega, by simp, ⟨1 - a * 0, by simp⟩⟩
    case round =>
      obtain ⟨X, k, hk, rfl, rfl, X0, X1, HX⟩ := hrel
      by_cases hp : k < 64
      · by_cases hz : k = 0
        · subst hz
          obtain rfl : X = 0 := by simp at X1; omega
          have ht : (bits .and .u64 (IntKind.u64.wrap (a * 0)) 1 != 1) = true := by rw [Int.mul_zero]; decide +kernel
          have hor : bits .or .u64 0 1 = 1 := by decide +kernel
          have hd : Hid ((2 : Int) ^ 1 ∣ 1 - a * 1) := bit_set a 0 0 HO.out HX.out 1 (Or.inl ⟨rfl, rfl⟩) (by simp)
          go_wp2_with (go_at_call 21; refine (rOne _ _).mono ?_; rintro e w' ⟨rfl, rfl⟩)
          go_round
          case rel => exact ⟨1, 1, by omega, rfl, rfl, by omega, by decide, hd⟩
          case measure => simp [intOf]
        · have hz' : ((k : Int) == 0) = false := by simp; omega
          have HX1 : Hid (X < 2 ^ k) := X1
          have hB := bit_of a X k hp
          have hor := or_pow X k hp X0 X1
          have hpw : (0 : Int) < 2 ^ k := Int.pow_pos (by decide)
          have hpk : Hid ((0 : Int) < 2 ^ k) := hpw
          clear X1 hpw
          have hpar : a * X / 2 ^ k % 2 = 0 ∨ a * X / 2 ^ k % 2 = 1 := by omega
          rcases hpar with hq | hq
          · have ht : (bits .and .u64 (IntKind.u64.wrap (a * X) / 2 ^ k) 1 != 0) = false := by rw [hB, hq]; rfl
            have hd : Hid ((2 : Int) ^ (k + 1) ∣ 1 - a * X) := bit_keep a X k HX.out 0 (Or.inr ⟨by omega, rfl⟩) hq
            clear hB hq hor
            go_wp2_with (go_at_call 21; refine (rOne _ _).mono ?_; rintro e w' ⟨rfl, rfl⟩)
            go_round
            case rel => exact ⟨X, k + 1, by omega, rfl, by go_num, X0, by have := HX1.out; have := hpk.out; rw [Int.pow_succ]; omega, hd⟩
            case measure => simp [intOf]; omega
          · have ht : (bits .and .u64 (IntKind.u64.wrap (a * X) / 2 ^ k) 1 != 0) = true := by rw [hB, hq]; rfl
            have hd : Hid ((2 : Int) ^ (k + 1) ∣ 1 - a * (X + 2 ^ k)) := bit_set a X k HO.out HX.out 0 (Or.inr ⟨by omega, rfl⟩) (by omega)
            clear hB hq
            go_wp2_with (go_at_call 21; refine (rOne _ _).mono ?_; rintro e w' ⟨rfl, rfl⟩)
            go_round
            case rel => exact ⟨X + 2 ^ k, k + 1, by omega, rfl, by go_num, by have := hpk.out; omega, by have := HX1.out; have := hpk.out; rw [Int.pow_succ]; omega, hd⟩
            case measure => simp [intOf]; omega
      · obtain rfl : k = 64 := by omega
        have HI : Hid (isInv a X) := ⟨X0, X1, fun _ => HX.out, fun h => by have := HO.out; omega⟩
        clear X1
        go_wp2_with (fail)
        go_ret
        exact ⟨⟨X, rfl, HI.out⟩, rfl⟩

end Go.Proofs.Ytaddnmnnpnkahaa
