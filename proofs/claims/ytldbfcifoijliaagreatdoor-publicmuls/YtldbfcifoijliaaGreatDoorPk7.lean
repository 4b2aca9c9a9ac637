/- Put together of: Wor1 Lim1. -/
import Derived.Test.YtldbfcifoijliaaGreatDoorPk1
import Derived.Test.YtldbfcifoijliaaGreatDoorPk3
import Derived.Test.YtldbfcifoijliaaGreatDoorPk6
import Derived.Test.YtldbfcifoijliaaGreatDoorRows
import Derived.WalkKit
import Derived.WalkSpells
import Derived.WalkLawsBesides
import Derived.Shelf.Spec.BitsCarry
import Derived.Shelf.Bits.Mul64
import Derived.Laws.BitsAllLaws
import Derived.BigQuiet
import Derived.Deep.RegionWith

/- Melted of: Ext Words. -/

/- What the library's Add64, Sub64 and Mul64 answer at this translation, for any words; condition: the carry or borrow that comes in is at most 1. -/
namespace Go.Proofs.YtldbfcifoijliaaGreatDoor
open Go.RowKit

/-- 1, if x is below y, else 0. -/
def bor (x y : Int) : Int := if x < y then 1 else 0

/-- The call of Add64. -/
theorem add64 (x y c : Int) (hx : 0 ≤ x) (hy : 0 ≤ y) (hc0 : 0 ≤ c) (hc : c ≤ 1) (w : World) :
    (callFunc 130 #[.int .u64 x, .int .u64 y, .int .u64 c]).run Tryz.prog w =
      .ok (.value (.tuple #[.int .u64 ((x + y + c) % 18446744073709551616), .int .u64 ((x + y + c) / 18446744073709551616)])) w := by
  rw [run_callFunc_extern Tryz.func130 (by kernel_rfl) (by kernel_rfl) (by kernel_rfl) (e := add64Entry) (by kernel_rfl), run_add64 x y c hx hy hc0 hc]
  simp only [Result.andThen]

theorem add64_0 (x y : Int) (hx : 0 ≤ x) (hy : 0 ≤ y) (w : World) :
    (callFunc 130 #[.int .u64 x, .int .u64 y, .int .u64 0]).run Tryz.prog w =
      .ok (.value (.tuple #[.int .u64 ((x + y) % 18446744073709551616), .int .u64 ((x + y) / 18446744073709551616)])) w := by
  have h := add64 x y 0 hx hy (Int.le_refl 0) (by decide) w
  rw [Int.add_zero] at h
  exact h
/-- The call of Sub64. -/
theorem sub64 (x y c : Int) (hx : 0 ≤ x) (hy : 0 ≤ y) (hy1 : y < 18446744073709551616) (hc0 : 0 ≤ c) (hc : c ≤ 1) (w : World) :
    (callFunc 132 #[.int .u64 x, .int .u64 y, .int .u64 c]).run Tryz.prog w =
      .ok (.value (.tuple #[.int .u64 ((x - y - c) % 18446744073709551616), .int .u64 (bor x (y + c))])) w := by
  obtain ⟨X, rfl⟩ := Int.eq_ofNat_of_zero_le hx
  obtain ⟨Y, rfl⟩ := Int.eq_ofNat_of_zero_le hy
  obtain ⟨C, rfl⟩ := Int.eq_ofNat_of_zero_le hc0
  rw [run_callFunc_extern Tryz.func132 (by kernel_rfl) (by kernel_rfl) (by kernel_rfl) (e := sub64Entry) (by kernel_rfl), run_sub64 X Y C (by omega)]
  simp only [Result.andThen]
  have e1 : (((X + 18446744073709551616 - Y - C) % 18446744073709551616 : Nat) : Int) = ((X : Int) - Y - C) % 18446744073709551616 := by omega
  have e2 : ((if X < Y + C then 1 else 0 : Nat) : Int) = bor (X : Int) ((Y : Int) + C) := by
    unfold bor; split <;> split <;> omega
  rw [e1, e2]

theorem sub64_0 (x y : Int) (hx : 0 ≤ x) (hy : 0 ≤ y) (hy1 : y < 18446744073709551616) (w : World) :
    (callFunc 132 #[.int .u64 x, .int .u64 y, .int .u64 0]).run Tryz.prog w =
      .ok (.value (.tuple #[.int .u64 ((x - y) % 18446744073709551616), .int .u64 (bor x y)])) w := by
  have h := sub64 x y 0 hx hy hy1 (Int.le_refl 0) (by decide) w
  rw [Int.add_zero, Int.sub_zero] at h
  exact h
theorem ret_two {a b c d : Int} (h : a = c) (k : b = d) : Ending.returned (.tuple #[.int .u64 a, .int .u64 b]) = Ending.returned (.tuple #[.int .u64 c, .int .u64 d]) := by rw [h, k]
theorem ret_one {a c : Int} (h : a = c) : Ending.returned (.int .u64 a) = Ending.returned (.int .u64 c) := by rw [h]

/-- The four halves' products under names: what the school method comes to. -/
theorem school (x y : Int) (hx : 0 ≤ x) (hx1 : x < 18446744073709551616) (hy : 0 ≤ y) (hy1 : y < 18446744073709551616) :
    ∃ x0 x1 y0 y1 p q r s : Int, bits .and .u64 x 4294967295 = x0 ∧ x / 4294967296 = x1 ∧ bits .and .u64 y 4294967295 = y0 ∧ y / 4294967296 = y1 ∧
      x0 * y0 = p ∧ x1 * y0 = q ∧ x0 * y1 = r ∧ x1 * y1 = s ∧
      (0 ≤ p ∧ p ≤ 18446744065119617025) ∧ (0 ≤ q ∧ q ≤ 18446744065119617025) ∧ (0 ≤ r ∧ r ≤ 18446744065119617025) ∧ (0 ≤ s ∧ s ≤ 18446744065119617025) ∧
      x * y = s * 18446744073709551616 + (q + r) * 4294967296 + p := by
  obtain ⟨X, rfl⟩ := Int.eq_ofNat_of_zero_le hx
  obtain ⟨Y, rfl⟩ := Int.eq_ofNat_of_zero_le hy
  have bp := Lib.half_mul_le (a := X % 4294967296) (b := Y % 4294967296) (by omega) (by omega)
  have bq := Lib.half_mul_le (a := X / 4294967296) (b := Y % 4294967296) (by omega) (by omega)
  have br := Lib.half_mul_le (a := X % 4294967296) (b := Y / 4294967296) (by omega) (by omega)
  have bs := Lib.half_mul_le (a := X / 4294967296) (b := Y / 4294967296) (by omega) (by omega)
  have e : X * Y = (X / 4294967296) * (Y / 4294967296) * (4294967296 * 4294967296) + ((X / 4294967296) * (Y % 4294967296) + (X % 4294967296) * (Y / 4294967296)) * 4294967296 + (X % 4294967296) * (Y % 4294967296) := by
    rw [← Lib.split_mul, Nat.div_add_mod' X 4294967296, Nat.div_add_mod' Y 4294967296]
  refine ⟨((X % 4294967296 : Nat) : Int), ((X / 4294967296 : Nat) : Int), ((Y % 4294967296 : Nat) : Int), ((Y / 4294967296 : Nat) : Int),
    (((X % 4294967296) * (Y % 4294967296) : Nat) : Int), (((X / 4294967296) * (Y % 4294967296) : Nat) : Int), (((X % 4294967296) * (Y / 4294967296) : Nat) : Int), (((X / 4294967296) * (Y / 4294967296) : Nat) : Int),
    Mul64.maskN X (by omega), Mul64.divN X, Mul64.maskN Y (by omega), Mul64.divN Y, Mul64.mulN _ _, Mul64.mulN _ _, Mul64.mulN _ _, Mul64.mulN _ _, ?_⟩
  rw [Mul64.mulN, e]
  generalize (X % 4294967296) * (Y % 4294967296) = p at *
  generalize (X / 4294967296) * (Y % 4294967296) = q at *
  generalize (X % 4294967296) * (Y / 4294967296) = r at *
  generalize (X / 4294967296) * (Y / 4294967296) = s at *
  omega

theorem mask32 (a : Int) (h0 : 0 ≤ a) (h1 : a < 18446744073709551616) : bits .and .u64 a 4294967295 = a % 4294967296 := by
  obtain ⟨A, rfl⟩ := Int.eq_ofNat_of_zero_le h0
  rw [Mul64.maskN A (by omega)]; omega

set_option maxHeartbeats 1000000 in
/-- Mul64, any words. -/
theorem mul64_any (x y : Int) (hx : 0 ≤ x) (hx1 : x < 18446744073709551616) (hy : 0 ≤ y) (hy1 : y < 18446744073709551616) (w : World) :
    Calls Tryz.prog 135 #[.int .u64 x, .int .u64 y] w fun e w' => e = .returned (.tuple #[.int .u64 (x * y / 18446744073709551616), .int .u64 (x * y % 18446744073709551616)]) ∧ w' = w := by
  obtain ⟨x0, x1, y0, y1, p, q, r, s, h1, h2, h3, h4, h5, h6, h7, h8, ⟨p0, p1⟩, ⟨q0, q1⟩, ⟨r0, r1⟩, ⟨s0, s1⟩, hxy⟩ := school x y hx hx1 hy hy1
  have hm := mask32 (q + p / 4294967296) (by omega) (by omega)
  have HXY : Hid (x * y = s * 18446744073709551616 + (q + r) * 4294967296 + p) := hxy
  clear hxy
  go_enter Tryz.func135, Tryz.ntmps135
  go_wp2
  go_ret2
  refine ⟨ret_two ?_ ?_, rfl⟩
  · rw [HXY.out]; omega
  · rw [HXY.out, IntKind.wrap_u64]
end Go.Proofs.YtldbfcifoijliaaGreatDoor

/- What the functions of package word answer, for any words: sums, differences, products, masks, choices, tests; no condition but that the arguments are words. -/
namespace Go.Proofs.YtldbfcifoijliaaGreatDoor
open Go.RowKit

theorem and_one (x : Int) (h0 : 0 ≤ x) (h1 : x < 18446744073709551616) : bits .and .u64 x 1 = x % 2 := and_one_u64 x h0 (by omega)

/-- word.Add. -/
theorem wAdd (a b c : Int) (a0 : 0 ≤ a) (b0 : 0 ≤ b) (c0 : 0 ≤ c) (c1 : c < 18446744073709551616) (w : World) :
    Calls Tryz.prog 119 #[.int .u64 a, .int .u64 b, .int .u64 c] w fun e w' =>
      e = .returned (.tuple #[.int .u64 ((a + b + c % 2) % 18446744073709551616), .int .u64 ((a + b + c % 2) / 18446744073709551616)]) ∧ w' = w := by
  have hb := and_one c c0 c1
  have k0 : 0 ≤ c % 2 := by omega
  have k1 : c % 2 ≤ 1 := by omega
  go_enter Tryz.func119, Tryz.ntmps119
  go_wp2_with (simp only [add64 a b (c % 2) a0 b0 k0 k1])
  go_ret2
  exact ⟨rfl, rfl⟩

/-- word.Sub. -/
theorem wSub (a b c : Int) (a0 : 0 ≤ a) (b0 : 0 ≤ b) (b1 : b < 18446744073709551616) (c0 : 0 ≤ c) (c1 : c < 18446744073709551616) (w : World) :
    Calls Tryz.prog 122 #[.int .u64 a, .int .u64 b, .int .u64 c] w fun e w' =>
      e = .returned (.tuple #[.int .u64 ((a - b - c % 2) % 18446744073709551616), .int .u64 (bor a (b + c % 2))]) ∧ w' = w := by
  have hb := and_one c c0 c1
  have k0 : 0 ≤ c % 2 := by omega
  have k1 : c % 2 ≤ 1 := by omega
  go_enter Tryz.func122, Tryz.ntmps122
  go_wp2_with (simp only [sub64 a b (c % 2) a0 b0 b1 k0 k1])
  go_ret2
  exact ⟨rfl, rfl⟩

/-- A product of two words and two words more are below 2^128. -/
theorem prod_bd (a b : Int) (a0 : 0 ≤ a) (a1 : a < 18446744073709551616) (b0 : 0 ≤ b) (b1 : b < 18446744073709551616) :
    0 ≤ a * b ∧ a * b ≤ 340282366920938463426481119284349108225 :=
  ⟨Int.mul_nonneg a0 b0, (Int.mul_le_mul (c := 18446744073709551615) (d := 18446744073709551615) (by omega) (by omega) b0 (by decide) : a * b ≤ 18446744073709551615 * 18446744073709551615)⟩

theorem mul64_named (a b p : Int) (a0 : 0 ≤ a) (a1 : a < 18446744073709551616) (b0 : 0 ≤ b) (b1 : b < 18446744073709551616) (h : Hid (a * b = p)) (w : World) :
    Calls Tryz.prog 135 #[.int .u64 a, .int .u64 b] w fun e w' => e = .returned (.tuple #[.int .u64 (p / 18446744073709551616), .int .u64 (p % 18446744073709551616)]) ∧ w' = w := by
  rw [← h.out]; exact mul64_any a b a0 a1 b0 b1 w

set_option maxHeartbeats 1000000 in
/-- word.Mul. -/
theorem wMul (a b c d : Int) (a0 : 0 ≤ a) (a1 : a < 18446744073709551616) (b0 : 0 ≤ b) (b1 : b < 18446744073709551616) (c0 : 0 ≤ c) (c1 : c < 18446744073709551616) (d0 : 0 ≤ d) (d1 : d < 18446744073709551616) (w : World) :
    Calls Tryz.prog 129 #[.int .u64 a, .int .u64 b, .int .u64 c, .int .u64 d] w fun e w' =>
      e = .returned (.tuple #[.int .u64 ((a * b + c + d) / 18446744073709551616), .int .u64 ((a * b + c + d) % 18446744073709551616)]) ∧ w' = w := by
  have hp := prod_bd a b a0 a1 b0 b1
  obtain ⟨p, hab⟩ : ∃ p, a * b = p := ⟨_, rfl⟩
  rw [hab] at hp ⊢
  have HM : Hid (a * b = p) := hab
  clear hab
  obtain ⟨p0, p1⟩ := hp
  go_enter Tryz.func129, Tryz.ntmps129
  go_wp2_with (first | (go_at_call 135; refine (mul64_named a b p a0 a1 b0 b1 HM _).mono ?_; rintro e w' ⟨rfl, rfl⟩) | simp only [add64_0 (p % 18446744073709551616) c (by omega) c0] | simp only [add64_0 ((p + c) % 18446744073709551616) d (by omega) d0])
  go_ret2
  refine ⟨ret_two ?_ ?_, rfl⟩ <;> omega

/-- All ones for an odd bit, else 0. -/
def msk (x : Int) : Int := x % 2 * 18446744073709551615

/-- word.Mask. -/
theorem wMask (a : Int) (a0 : 0 ≤ a) (a1 : a < 18446744073709551616) (w : World) :
    Calls Tryz.prog 90 #[.int .u64 a] w fun e w' => e = .returned (.int .u64 (msk a)) ∧ w' = w := by
  have hb := and_one a a0 a1
  go_enter Tryz.func90, Tryz.ntmps90
  go_wp2
  go_ret
  refine ⟨ret_one ?_, rfl⟩
  unfold msk
  rw [IntKind.wrap_u64]; omega

/-- 1, if a is 0, else 0. -/
def zer (a : Int) : Int := if a = 0 then 1 else 0

theorem zer_eq (a : Int) (a0 : 0 ≤ a) (a1 : a < 18446744073709551616) :
    bits .xor .u64 (bits .or .u64 a (IntKind.u64.wrap (-a)) / 9223372036854775808) 1 = zer a := by
  obtain ⟨A, rfl⟩ := Int.eq_ofNat_of_zero_le a0
  unfold zer
  by_cases h : A = 0
  · subst h; decide +kernel
  · have e : IntKind.u64.wrap (-(A : Int)) = ((18446744073709551616 - A : Nat) : Int) := by rw [IntKind.wrap_u64]; omega
    rw [e, u64_or_nat A _ (by omega) (by omega)]
    have hl : A ≤ A ||| (18446744073709551616 - A) := Nat.left_le_or
    have hr : 18446744073709551616 - A ≤ A ||| (18446744073709551616 - A) := Nat.right_le_or
    have hu : A ||| (18446744073709551616 - A) < 2 ^ 64 := Nat.or_lt_two_pow (by omega) (by omega)
    generalize A ||| (18446744073709551616 - A) = B at *
    have hq : (B : Int) / 9223372036854775808 = 1 := by omega
    rw [hq, if_neg (by omega)]; decide +kernel

/-- word.Zero. -/
theorem wZero (a : Int) (a0 : 0 ≤ a) (a1 : a < 18446744073709551616) (w : World) :
    Calls Tryz.prog 123 #[.int .u64 a] w fun e w' => e = .returned (.int .u64 (zer a)) ∧ w' = w := by
  have hz := zer_eq a a0 a1
  go_enter Tryz.func123, Tryz.ntmps123
  go_wp2
  go_ret
  exact ⟨rfl, rfl⟩

end Go.Proofs.YtldbfcifoijliaaGreatDoor


/- Melted of: LimA One1 Ref4A Ref4B Ref4C LimB. -/

/- Package limbs: common and what it hands out: the greatest length, and numbers brought to it. -/
namespace Go.Proofs.YtldbfcifoijliaaGreatDoor
open Go.RowKit

/-- The greatest of n lengths. -/
def maxOf (L : Nat → Nat) : Nat → Nat
  | 0 => 0
  | n + 1 => max (maxOf L n) (L n)

/-- n slices in a row, at ao. -/
def Slots (w : World) (ao : Option Addr) (n : Nat) (A : Nat → Option Addr) (L C : Nat → Nat) : Prop :=
  ∀ i, i < n → ∃ b off, ao = some ⟨b, off, none⟩ ∧ w.cell? ⟨b, off + i, none⟩ = some (.slice (A i) (L i) (C i))

set_option maxRecDepth 20000 in
set_option maxHeartbeats 1000000 in
/-- common. -/
theorem lCommon (ao : Option Addr) (n cap : Nat) (A : Nat → Option Addr) (L C : Nat → Nat) (w : World) (hn : n ≤ 1000000000) (hc : Slots w ao n A L C) :
    Calls Tryz.prog 121 #[.slice ao n cap] w fun e w' => e = .returned (.tuple #[.int .i64 (maxOf L n : Nat), .func (.func 131) #[] #[.pointer (some ⟨w.heap.size, 0, none⟩)]]) ∧ w' = w.alloc (.cells #[.int .i64 (maxOf L n : Nat)] 3) := by
  have hmf : ∀ (fn : Fn) (first cap : Array Value) (w : World), (Instr.makeFunc fn first cap).run Tryz.prog w = .ok (.func fn first cap) w := fun _ _ _ _ => rfl
  have HC : Hid (Slots w ao n A L C) := hc
  clear hc
  go_enter Tryz.func121, Tryz.ntmps121
  go_wp2_with fail
  go_loopw [9] (fun i wr => ∃ (k m : Nat), k ≤ n ∧ i = .int .i64 (k : Int) ∧ wr = w.alloc (.cells #[.int .i64 (m : Int)] 3) ∧ Hid (m = maxOf L k)) (fun i _ => ((n : Int) - intOf i).toNat)
  case atStart => exact ⟨0, 0, Nat.zero_le _, rfl, rfl, rfl⟩
  case round =>
    obtain ⟨k, m, hk, rfl, rfl, hm⟩ := hrel
    by_cases hkn : k < n
    · have hk1 : (k : Int) < (n : Int) := by omega
      obtain ⟨b, off, rfl, hcell⟩ := HC.out k hkn
      obtain ⟨ao, hao⟩ : ∃ ao, ao = A k := ⟨_, rfl⟩
      obtain ⟨len, hlen⟩ : ∃ len, len = L k := ⟨_, rfl⟩
      obtain ⟨cp, hcap⟩ : ∃ cap, cap = C k := ⟨_, rfl⟩
      rw [← hao, ← hlen, ← hcap] at hcell
      have HLen : Hid (len = L k) := hlen
      have hcell' := ((Kept.refl Nought w).alloc (.cells #[.int .i64 (m : Int)] 3)).cellN hcell
      clear hao hlen hcap HC
      go_wp2_with fail
      go_roundw
      case rel => exact ⟨k + 1, max m len, by omega, by go_num, by rw [show ((max m len : Nat) : Int) = max (m : Int) (len : Int) by omega], by unfold Hid; rw [maxOf, ← hm.out, ← HLen.out]⟩
      case measure => simp [intOf]; omega
    · have hk1 : ¬ (k : Int) < (n : Int) := by omega
      have e : k = n := by omega
      subst e
      go_wp2_with fail
      go_ret2
      rw [hm.out]
      exact ⟨rfl, rfl⟩

/-- The cells of a number, as copy wants them. -/
theorem Row.source {k : IntKind} {w : World} {ao : Option Addr} {L cap : Nat} {xs : List Nat} (h : Row k w (.slice ao L cap) xs) {W : World} (hk : Kept Nought w W) (hp : 0 < (xs.map fun z : Nat => Value.int k (z : Int)).length) :
    ∃ ad, ao = some ad ∧ ∀ j u, (xs.map fun z : Nat => Value.int k (z : Int))[j]? = some u → W.cell? (ad.add j) = some u := by
  obtain ⟨ao', n, cap', e, hL, _, _, _, g4⟩ := h.open
  simp only [Value.slice.injEq] at e
  obtain ⟨rfl, rfl, rfl⟩ := e
  rw [List.length_map] at hp
  have hl := hL.out
  obtain ⟨b, off, rfl, _⟩ := g4 0 (by omega)
  refine ⟨_, rfl, fun j u hu => ?_⟩
  have hj : j < xs.length := by
    have := (List.getElem?_eq_some_iff.1 hu).1
    simpa using this
  obtain ⟨b', off', e, hc⟩ := (g4 j (by omega)).grew hk
  simp only [Option.some.injEq, Addr.mk.injEq] at e
  obtain ⟨rfl, rfl, _⟩ := e
  rw [List.getElem?_map, List.getElem?_eq_getElem hj] at hu
  rw [show (⟨b, off, none⟩ : Addr).add j = ⟨b, off + j, none⟩ by simp [Addr.add], hc, ← hu, List.getD_eq_getElem?_getD, List.getElem?_eq_getElem hj]
  rfl

theorem ints_one (k : IntKind) (xs : List Nat) : ∀ u ∈ xs.map (fun z : Nat => Value.int k (z : Int)), u.oneCell' = true := by
  intro u hu
  obtain ⟨z, _, rfl⟩ := List.mem_map.1 hu
  rfl

set_option maxRecDepth 20000 in
set_option maxHeartbeats 1000000 in
/-- What common hands out: a number brought to the length. -/
theorem lFitN (o : Tr) (v : Value) (xs : List Nat) (n g : Nat) (w : World) (ht : TrIn w o) (h : RowT w o v xs) (hd : Digs 18446744073709551616 xs) (hl : xs.length ≤ n) (hn : n ≤ 1000000000) (hg : w.heap[g]? = some (.cells #[.int .i64 (n : Nat)] 3 (0, 0))) :
    Calls Tryz.prog 131 #[v, .pointer (some ⟨g, 0, none⟩)] w fun e w' => ∃ v', e = .returned v' ∧ RowT w' o v' (digs 18446744073709551616 (val 18446744073709551616 xs) n) ∧ Kept Nought w w' ∧ (v' = v ∨ ∀ b, v'.ownBlock = some b → w.heap.size ≤ b) := by
  obtain ⟨i0, hi0, hz0, hz1, hz2⟩ := info_parts Tryz.info24
  have hb : w.cell? ⟨g, 0, none⟩ = some (.int .i64 (n : Nat)) := (cell_of_row w g 0 _ _ _ hg).trans rfl
  rw [fill_digs hd rfl hl]
  obtain ⟨ao, q, cap, rfl, hL, _, _, _, _⟩ := h.1.open
  by_cases he : q = n
  · have he' : (q : Int) = (n : Int) := by omega
    rw [show n - xs.length = 0 by rw [hL.out]; omega, List.replicate_zero, List.append_nil]
    have H : Hid (RowT w o (.slice ao q cap) xs) := h
    clear h hg hd
    go_enter Tryz.func131, Tryz.ntmps131
    go_wp2
    go_ret
    exact ⟨_, rfl, H.out, Kept.refl _ _, .inl rfl⟩
  · have he' : ¬ (q : Int) = (n : Int) := by omega
    have HS : Hid (∀ W, Kept Nought w W → 0 < (xs.map fun z : Nat => Value.int .u64 (z : Int)).length → ∃ ad, ao = some ad ∧ ∀ j u, (xs.map fun z : Nat => Value.int .u64 (z : Int))[j]? = some u → W.cell? (ad.add j) = some u) := fun W hk hp => h.1.source hk hp
    have HO := toHid (ints_one .u64 xs)
    have HLC : Hid ((xs.map fun z : Nat => Value.int .u64 (z : Int)).length = q) := by unfold Hid; rw [List.length_map]; exact hL.out
    obtain ⟨CS, hCS⟩ : ∃ CS, CS = xs.map (fun z : Nat => Value.int .u64 (z : Int)) := ⟨_, rfl⟩
    rw [← hCS] at HS HO HLC
    have HCS : Hid (CS = xs.map (fun z : Nat => Value.int .u64 (z : Int))) := hCS
    have hq : q ≤ n := by rw [← hL.out]; exact hl
    have HT : Hid (TrIn w o) := ht
    clear hCS h hg hd ht hl
    go_enter Tryz.func131, Tryz.ntmps131
    go_wp2_with (at_make; refine wpList_make_full _ rfl _ _ 23 rfl w.heap.size 24 i0 _ 1 Tryz.underlying23 hi0 hz0 hz1 _ _ _ _ n rfl rfl rfl rfl (by rw [hz2]; omega) (by unfold maxLen; omega) (Nat.le_refl _) ?_; intro w1 ho1 hg1; rw [zeros_map] at ho1; have k1 := grown_kept hg1; obtain ⟨w2, hrun, hb2, k2⟩ := run_copy_part (P := Tryz.prog) 23 23 3 24 w.heap.size 0 n n (some ⟨w.heap.size, 0, none⟩) ao q cap _ 24 CS Tryz.underlying23 (by rw [hi0]; simp [hz1]) (own_block ho1) (by rw [HLC.out]; exact (Nat.min_eq_left hq).symm) (fun hp => ⟨rfl, HS.out _ k1 hp⟩) (by have := HLC.out; simp; omega) HO.out; have HB2 : Hid _ := hb2; clear hb2 ho1 hg1)
    go_ret
    have hfin := HB2.out
    rw [HCS.out, splice_fill] at hfin
    have kk := kept_new k1 k2 (Nat.le_refl _)
    exact ⟨_, rfl, own_rowT (base := w.heap.size) (own_of_block hfin (by simp [hL.out]; omega) (by unfold maxLen; omega) (Nat.le_refl _)) (by simp [hL.out]; omega) (HT.out.grew kk), kk, .inr (fun b hb => by simp [Value.ownBlock] at hb; omega)⟩

theorem lFit (o : Tr) (v : Value) (xs : List Nat) (n g : Nat) (w : World) (ht : TrIn w o) (h : RowT w o v xs) (hd : Digs 18446744073709551616 xs) (hl : xs.length ≤ n) (hn : n ≤ 1000000000) (hg : w.heap[g]? = some (.cells #[.int .i64 (n : Nat)] 3 (0, 0))) :
    Calls Tryz.prog 131 #[v, .pointer (some ⟨g, 0, none⟩)] w fun e w' => ∃ v', e = .returned v' ∧ RowT w' o v' (digs 18446744073709551616 (val 18446744073709551616 xs) n) ∧ Kept Nought w w' := by
  refine (lFitN o v xs n g w ht h hd hl hn hg).mono ?_
  rintro e w' ⟨v', rfl, hr, hk, _⟩
  exact ⟨v', rfl, hr, hk⟩

end Go.Proofs.YtldbfcifoijliaaGreatDoor

/- The plain side of layer 1: 1 or 0 of a test. -/
namespace Go.Proofs.YtldbfcifoijliaaGreatDoor
open Go.RowKit

/-- One, for a test. -/
def oneN (b : Bool) : Nat := if b = true then 1 else 0

end Go.Proofs.YtldbfcifoijliaaGreatDoor

/- The plain side of layer 4 (package sconceref04): sums, differences, tests, choices of any numbers. -/
namespace Go.Proofs.YtldbfcifoijliaaGreatDoor
open Go.RowKit

end Go.Proofs.YtldbfcifoijliaaGreatDoor

/- The plain side of layer 4: differences, tests, choices. -/
namespace Go.Proofs.YtldbfcifoijliaaGreatDoor
open Go.RowKit

/-- What is left, modulo 2^(64 n). -/
def subN (A B n : Nat) : Nat := if A < B then A + 2 ^ (64 * n) - B else A - B

end Go.Proofs.YtldbfcifoijliaaGreatDoor

/- The plain side of layer 4: 0, choices, sums and differences if a bit is 1, one bit up and down. -/
namespace Go.Proofs.YtldbfcifoijliaaGreatDoor
open Go.RowKit

/-- Which of two a bit selects. -/
def selN (bit A B : Nat) : Nat := if bit % 2 = 1 then A else B

end Go.Proofs.YtldbfcifoijliaaGreatDoor

/- Package limbs: AddIf, and with it Add: what they answer and write down, for any numbers. -/
namespace Go.Proofs.YtldbfcifoijliaaGreatDoor
open Go.RowKit

/-- common, of two numbers. -/
theorem common2 (ao bo : Option Addr) (L M cap dap : Nat) (w : World) :
    Calls Tryz.prog 121 #[.slice (some ⟨w.heap.size, 0, none⟩) 2 2] (w.alloc (.cells #[.slice ao L cap, .slice bo M dap] 23)) fun e w' => ∃ g, e = .returned (.tuple #[.int .i64 (max L M : Nat), .func (.func 131) #[] #[.pointer (some ⟨g, 0, none⟩)]]) ∧ w'.heap[g]? = some (.cells #[.int .i64 (max L M : Nat)] 3 (0, 0)) ∧ w.heap.size ≤ g ∧ Kept Nought w w' := by
  have hn := new2 w (.slice ao L cap) (.slice bo M dap) 23
  refine (lCommon (some ⟨w.heap.size, 0, none⟩) 2 2 (fun i => if i = 0 then ao else bo) (fun i => if i = 0 then L else M) (fun i => if i = 0 then cap else dap) _ (by omega) ?_).mono ?_
  · intro i hi
    refine ⟨_, _, rfl, ?_⟩
    rw [Nat.zero_add, World.ownsRow.cellAt hn i (by omega)]
    have : i = 0 ∨ i = 1 := by omega
    rcases this with rfl | rfl <;> rfl
  · rintro e w' ⟨rfl, rfl⟩
    have hm : maxOf (fun i => if i = 0 then L else M) 2 = max L M := by simp [maxOf]
    rw [hm]
    exact ⟨_, rfl, heap_alloc_new _ _, by simp, ((Kept.refl Nought w).alloc _).alloc _⟩

theorem wAddN (x y c : Nat) (hx : x < 18446744073709551616) (hy : y < 18446744073709551616) (hc : c ≤ 1) (w : World) :
    Calls Tryz.prog 119 #[.int .u64 (x : Nat), .int .u64 (y : Nat), .int .u64 (c : Nat)] w fun e w' => ∃ z c' : Nat, e = .returned (.tuple #[.int .u64 (z : Nat), .int .u64 (c' : Nat)]) ∧ z < 18446744073709551616 ∧ c' ≤ 1 ∧ z + 18446744073709551616 * c' = x + y + c ∧ w' = w := by
  refine (wAdd (x : Int) (y : Int) (c : Int) (by omega) (by omega) (by omega) (by omega) w).mono ?_
  rintro e w' ⟨rfl, rfl⟩
  refine ⟨(x + y + c) % 18446744073709551616, (x + y + c) / 18446744073709551616, ret_two ?_ ?_, Nat.mod_lt _ (by omega), by omega, by omega, rfl⟩ <;> omega

theorem wSubN (x y c : Nat) (hx : x < 18446744073709551616) (hy : y < 18446744073709551616) (hc : c ≤ 1) (w : World) :
    Calls Tryz.prog 122 #[.int .u64 (x : Nat), .int .u64 (y : Nat), .int .u64 (c : Nat)] w fun e w' => ∃ z c' : Nat, e = .returned (.tuple #[.int .u64 (z : Nat), .int .u64 (c' : Nat)]) ∧ z < 18446744073709551616 ∧ c' ≤ 1 ∧ z + y + c = x + 18446744073709551616 * c' ∧ w' = w := by
  refine (wSub (x : Int) (y : Int) (c : Int) (by omega) (by omega) (by omega) (by omega) (by omega) w).mono ?_
  rintro e w' ⟨rfl, rfl⟩
  unfold bor
  by_cases h : (x : Int) < (y : Int) + (c : Int) % 2
  · rw [if_pos h]
    refine ⟨x + 18446744073709551616 - (y + c), 1, ret_two ?_ ?_, by omega, by omega, by omega, rfl⟩ <;> omega
  · rw [if_neg h]
    refine ⟨x - (y + c), 0, ret_two ?_ ?_, by omega, by omega, by omega, rfl⟩ <;> omega

theorem and_msk (y bit : Nat) (hy : y < 18446744073709551616) : bits .and .u64 (y : Int) (msk (bit : Int)) = ((y * (bit % 2) : Nat) : Int) := by
  unfold msk
  have : bit % 2 = 0 ∨ bit % 2 = 1 := by omega
  rcases this with h | h
  · rw [show (bit : Int) % 2 = 0 by omega, h]
    have e := u64_and_nat y 0 (by omega) (by omega)
    rw [Nat.and_zero] at e
    exact e
  · rw [show (bit : Int) % 2 = 1 by omega, h]
    have e := u64_and_nat y 18446744073709551615 (by omega) (by omega)
    rw [show (18446744073709551615 : Nat) = 2 ^ 64 - 1 from rfl, Nat.and_two_pow_sub_one_of_lt_two_pow (by omega)] at e
    rw [Nat.mul_one]
    exact e

theorem mod_succ (B X k : Nat) : X % B ^ (k + 1) = X % B ^ k + B ^ k * dig B X k := by rw [dig, Nat.pow_succ, Nat.mod_mul]

theorem dig_bit (B Y bit k : Nat) : dig B (Y * (bit % 2)) k = dig B Y k * (bit % 2) := by
  have : bit % 2 = 0 ∨ bit % 2 = 1 := by omega
  rcases this with h | h <;> rw [h] <;> simp [dig]

theorem subT_step {B X Y k c z c' : Nat} {os : List Nat} (hl : os.length = k) (h : val B os + Y % B ^ k = X % B ^ k + B ^ k * c) (hz : z + dig B Y k + c = dig B X k + B * c') :
    val B (os ++ [z]) + Y % B ^ (k + 1) = X % B ^ (k + 1) + B ^ (k + 1) * c' := by
  rw [val_snoc, hl, mod_succ, mod_succ, Nat.pow_succ, Nat.mul_assoc]
  have e : B ^ k * (z + dig B Y k + c) = B ^ k * (dig B X k + B * c') := by rw [hz]
  rw [Nat.mul_add, Nat.mul_add, Nat.mul_add] at e
  omega

theorem set_snoc (os : List Nat) (n k z : Nat) (hl : os.length = k) (h : k < n) : (os ++ List.replicate (n - k) 0).set k z = (os ++ [z]) ++ List.replicate (n - (k + 1)) 0 := by
  rw [List.set_append_right _ _ (by omega), hl, Nat.sub_self, show n - k = (n - (k + 1)) + 1 by omega, List.replicate_succ]
  simp

theorem B64 (n : Nat) : (18446744073709551616 : Nat) ^ n = 2 ^ (64 * n) := by rw [Nat.pow_mul]

/-- A row that is being filled: the first k cells stand, the others are noughts. -/
theorem fill_cell {w : World} {base g n k : Nat} {t : TypeId} {os : List Nat} (h : OwnN .u64 t w base (.slice (some ⟨g, 0, none⟩) n n) n (os ++ List.replicate (n - k) 0)) (hl : os.length = k) (hk : k < n) : w.cell? ⟨g, k, none⟩ = some (.int .u64 0) := by
  rw [World.ownsRow.cellAt h k (by omega), List.getElem?_map, List.getElem?_append_right (by omega), hl, Nat.sub_self, List.getElem?_replicate, if_pos (by omega)]
  rfl

theorem Slots.grew {w w' : World} {ao : Option Addr} {n : Nat} {A : Nat → Option Addr} {L C : Nat → Nat} (h : Slots w ao n A L C) (k : Kept Nought w w') : Slots w' ao n A L C := by
  intro i hi
  obtain ⟨b, off, rfl, hc⟩ := h i hi
  exact ⟨b, off, rfl, k.cellN hc⟩

end Go.Proofs.YtldbfcifoijliaaGreatDoor

