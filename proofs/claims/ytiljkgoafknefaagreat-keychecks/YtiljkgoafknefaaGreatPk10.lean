/- Put together of: Div1. -/
import Derived.Test.YtiljkgoafknefaaGreatPk1
import Derived.Test.YtiljkgoafknefaaGreatPk9

/- Melted of: DivA DvA DvB. -/

/- Division of two words by one, and the guess of a quotient's word: plain mathematics, over no program. -/
namespace Go.Proofs.YtiljkgoafknefaaGreat

/-- A guess of a quotient's digit that is not too small: by the divisor's upper digit, corrected by its lower one. -/
structure Gss (B U u y1 y0 q r : Nat) : Prop where
  eq : q * y1 + r = U
  ge : (U * B + u) / (y1 * B + y0) ≤ q
  le : q ≤ B + 1

theorem mul_split (q y1 y0 B : Nat) : (y1 * B + y0) * q = q * y1 * B + q * y0 := by
  rw [Nat.add_mul, Nat.mul_comm (y1 * B) q, ← Nat.mul_assoc, Nat.mul_comm y0 q]

/-- The first guess. -/
theorem Gss.start {B U u y1 y0 : Nat} (hB : 0 < B) (hu : u < B) (h1 : B ≤ 2 * y1) (h0 : y0 < B) (hU : U < y1 * B + y0) : Gss B U u y1 y0 (U / y1) (U % y1) := by
  have hy1 : 0 < y1 := by omega
  refine ⟨by rw [Nat.mul_comm]; exact Nat.div_add_mod U y1, ?_, ?_⟩
  · have e : (U * B + u) / (y1 * B) = U / y1 := by
      rw [Nat.mul_comm y1 B, ← Nat.div_div_eq_div_mul, Nat.mul_comm U B, Nat.mul_add_div hB, Nat.div_eq_of_lt hu, Nat.add_zero]
    rw [← e]
    exact Nat.div_le_div_left (by omega) (Nat.mul_pos hy1 hB)
  · have h2 : U / y1 < B + 2 := by
      rw [Nat.div_lt_iff_lt_mul hy1, Nat.add_mul, Nat.mul_comm B y1]
      omega
    omega

theorem quot_lt {B U u Y : Nat} (hu : u < B) (hU : U < Y) : (U * B + u) / Y < B := by
  rw [Nat.div_lt_iff_lt_mul (by omega)]
  have : (U + 1) * B ≤ Y * B := Nat.mul_le_mul_right _ hU
  rw [Nat.add_mul, Nat.one_mul] at this
  rw [Nat.mul_comm B Y]
  omega

theorem quot_eq {q A Y : Nat} (hY : 0 < Y) (h1 : A / Y ≤ q) (h2 : Y * q ≤ A) : q = A / Y := by
  have h3 : q ≤ A / Y := (Nat.le_div_iff_mul_le hY).2 (by rw [Nat.mul_comm]; exact h2)
  omega

/-- A guess that passes the test is right. -/
theorem Gss.stop {B U u y1 y0 q r : Nat} (g : Gss B U u y1 y0 q r) (hY : 0 < y1 * B + y0) (ht : q * y0 ≤ B * r + u) : q = (U * B + u) / (y1 * B + y0) := by
  refine quot_eq hY g.ge ?_
  rw [mul_split, ← g.eq, Nat.add_mul, Nat.mul_comm r B]
  omega

/-- A guess that does not is too great by one at least. -/
theorem Gss.next {B U u y1 y0 q r : Nat} (g : Gss B U u y1 y0 q r) (hu : u < B) (hU : U < y1 * B + y0) (ht : B ≤ q ∨ B * r + u < q * y0) : 0 < q ∧ Gss B U u y1 y0 (q - 1) (r + y1) := by
  have hlt : (U * B + u) / (y1 * B + y0) < q := by
    rcases ht with h | h
    · exact Nat.lt_of_lt_of_le (quot_lt hu hU) h
    · rw [Nat.div_lt_iff_lt_mul (by omega), Nat.mul_comm q, mul_split, ← g.eq, Nat.add_mul, Nat.mul_comm r B]
      omega
  have hq : 0 < q := Nat.lt_of_le_of_lt (Nat.zero_le _) hlt
  refine ⟨hq, ?_, Nat.le_sub_one_of_lt hlt, by have := g.le; omega⟩
  obtain ⟨p, rfl⟩ : ∃ p, q = p + 1 := ⟨q - 1, by omega⟩
  have := g.eq
  rw [Nat.add_mul, Nat.one_mul] at this
  rw [Nat.add_sub_cancel]; omega

/-- A guess whose rest has grown over a digit passes the test. -/
theorem Gss.over {B u y0 q r : Nat} (hq : q ≤ B) (h0 : y0 < B) (hr : B ≤ r) : q * y0 ≤ B * r + u := by
  have h1 : q * y0 ≤ B * B := Nat.le_trans (Nat.mul_le_mul_right _ hq) (Nat.mul_le_mul_left _ (by omega))
  have h2 : B * B ≤ B * r := Nat.mul_le_mul_left _ hr
  omega

theorem quot_rest (A Y : Nat) : A / Y * Y + A % Y = A := by rw [Nat.mul_comm]; exact Nat.div_add_mod A Y

/-- Two digits of a quotient, one behind the other. -/
theorem two_digits {B U u v Y q1 q0 : Nat} (hY : 0 < Y) (h1 : q1 = (U * B + u) / Y) (h0 : q0 = ((U * B + u) % Y * B + v) / Y) :
    q1 * B + q0 = ((U * B + u) * B + v) / Y ∧ ((U * B + u) % Y * B + v) % Y = ((U * B + u) * B + v) % Y := by
  have e := Nat.div_add_mod (U * B + u) Y
  have e2 : (U * B + u) * B + v = Y * (q1 * B) + ((U * B + u) % Y * B + v) := by
    have : (U * B + u) * B = (Y * ((U * B + u) / Y) + (U * B + u) % Y) * B := by rw [e]
    rw [this, Nat.add_mul, ← h1, Nat.mul_assoc]
    omega
  refine ⟨?_, ?_⟩
  · rw [e2, Nat.mul_add_div hY, ← h0]
  · rw [e2, Nat.mul_add_mod]

/-- What is shifted up to divide is shifted down again. -/
theorem shift_div {M y p : Nat} (hp : 0 < p) : (M * p) / (y * p) = M / y ∧ (M * p) % (y * p) / p = M % y := by
  refine ⟨Nat.mul_div_mul_right _ _ hp, ?_⟩
  rw [Nat.mul_mod_mul_right, Nat.mul_div_cancel _ hp]

/-- The guess by three digits and two: right, or one too great. -/
theorem knuth_top {B b U V ul vl U3 V2 : Nat} (hU : U = U3 * b + ul) (hul : ul < b) (hV : V = V2 * b + vl) (hvl : vl < b) (hV2 : B ≤ V2) (hB : 0 < B) (hQ : U3 / V2 ≤ B) :
    U / V ≤ U3 / V2 ∧ U3 / V2 ≤ U / V + 1 := by
  have hb : 0 < b := by omega
  have hV2p : 0 < V2 := by omega
  have hVp : 0 < V := by
    have : 1 * 1 ≤ V2 * b := Nat.mul_le_mul hV2p hb
    omega
  refine ⟨?_, ?_⟩
  · have e : U / (V2 * b) = U3 / V2 := by
      rw [Nat.mul_comm V2 b, ← Nat.div_div_eq_div_mul, hU, Nat.mul_comm U3 b, Nat.mul_add_div hb, Nat.div_eq_of_lt hul, Nat.add_zero]
    rw [← e]
    exact Nat.div_le_div_left (by omega) (Nat.mul_pos hV2p hb)
  · generalize hQq : U3 / V2 = Q at *
    rcases Nat.eq_zero_or_pos Q with h | h
    · rw [h]; exact Nat.zero_le _
    · obtain ⟨p, rfl⟩ : ∃ p, Q = p + 1 := ⟨Q - 1, by omega⟩
      have h3 : V2 * (p + 1) ≤ U3 := by rw [← hQq]; exact Nat.mul_div_le U3 V2
      have : p ≤ U / V := by
        rw [Nat.le_div_iff_mul_le hVp, hV, hU, Nat.mul_add]
        have h4 : p * vl ≤ p * b := Nat.mul_le_mul_left _ (by omega)
        have h5 : p * b ≤ V2 * b := Nat.mul_le_mul_right _ (by omega)
        have h6 : V2 * (p + 1) * b ≤ U3 * b := Nat.mul_le_mul_right _ h3
        rw [Nat.mul_add, Nat.mul_one, Nat.add_mul] at h6
        have h7 : p * (V2 * b) = V2 * p * b := by rw [← Nat.mul_assoc, Nat.mul_comm p V2]
        omega
      exact Nat.succ_le_succ this

/-- The greatest digit as a guess, where the highest digits are alike. -/
theorem knuth_full {B b U V ul vl U1 V1 : Nat} (hU : U = U1 * b + ul) (hV : V = V1 * b + vl) (hvl : vl < b) (hUV : U < V * B) (hV1 : B ≤ 2 * V1) (hB : 2 ≤ B) (h : V1 * B ≤ U1) :
    U / V ≤ B - 1 ∧ B - 1 ≤ U / V + 1 := by
  have hVp : 0 < V := by
    rcases Nat.eq_zero_or_pos V with h | h
    · rw [h] at hUV; omega
    · exact h
  refine ⟨?_, ?_⟩
  · have : U / V < B := (Nat.div_lt_iff_lt_mul hVp).2 (by rw [Nat.mul_comm]; exact hUV)
    omega
  · obtain ⟨c, rfl⟩ : ∃ c, B = c + 2 := ⟨B - 2, by omega⟩
    have : c ≤ U / V := by
      rw [Nat.le_div_iff_mul_le hVp, hV, hU, Nat.mul_add]
      have h1 : V1 * (c + 2) * b ≤ U1 * b := Nat.mul_le_mul_right _ h
      have h2 : c * vl ≤ c * b := Nat.mul_le_mul_left _ (by omega)
      have h3 : (c + 2) * b ≤ 2 * V1 * b := Nat.mul_le_mul_right _ hV1
      rw [Nat.mul_add, Nat.add_mul] at h1
      rw [Nat.add_mul] at h3
      have h4 : c * (V1 * b) = V1 * c * b := by rw [← Nat.mul_assoc, Nat.mul_comm c V1]
      have h5 : V1 * 2 * b = 2 * V1 * b := by rw [Nat.mul_comm V1 2]
      omega
    exact Nat.succ_le_succ this

end Go.Proofs.YtiljkgoafknefaaGreat

/- bits.LeadingZeros64, Div64, Rem64: what they answer, for any words. -/
namespace Go.Proofs.YtiljkgoafknefaaGreat
open Go.RowKit

set_option maxHeartbeats 400000 in
/-- LeadingZeros64. -/
theorem bLz (y : Nat) (hy : y < 18446744073709551616) (w : World) :
    Calls Tryz.prog 132 #[.int .u64 (y : Nat)] w fun e w' => e = .returned (.int .i64 (64 - blen y : Nat)) ∧ w' = w := by
  have hB64 : blen y ≤ 64 := (blen_le y 64).2 hy
  have hLen := Any.bits_Len64 l129 (y : Int) w (by omega) (by omega)
  rw [show ((y : Int).toNat) = y from rfl, bitLen_blen y hy] at hLen
  generalize blen y = M at *
  go_enter Tryz.func132, Tryz.ntmps132
  go_wp2_with fail
  refine hLen.mono ?_
  rintro e w' ⟨rfl, rfl⟩
  go_wp2
  go_ret
  refine ⟨?_, rfl⟩
  simp
  omega

theorem and_low (x : Nat) (h : x < 18446744073709551616) : bits .and .u64 (x : Int) 4294967295 = ((x % 4294967296 : Nat) : Int) := by
  have e := u64_and_nat x 4294967295 (by omega) (by omega)
  rw [show (4294967295 : Nat) = 2 ^ 32 - 1 from rfl, Nat.and_two_pow_sub_one_eq_mod] at e
  exact e

theorem or_shift (hi lo s : Nat) (hs : s ≤ 64) (h1 : hi * 2 ^ s < 18446744073709551616) (h2 : lo < 18446744073709551616) : bits .or .u64 (IntKind.u64.wrap ((hi : Int) * 2 ^ s)) ((lo : Int) / 2 ^ (64 - s)) = ((hi * 2 ^ s + lo / 2 ^ (64 - s) : Nat) : Int) := by
  have e1 : (hi : Int) * 2 ^ s = ((hi * 2 ^ s : Nat) : Int) := by simp
  have e2 : (lo : Int) / 2 ^ (64 - s) = ((lo / 2 ^ (64 - s) : Nat) : Int) := by simp
  have h3 : lo / 2 ^ (64 - s) < 2 ^ s := by
    rw [Nat.div_lt_iff_lt_mul (Nat.pow_pos (by omega)), ← Nat.pow_add, show s + (64 - s) = 64 by omega]
    exact h2
  have h4 : lo / 2 ^ (64 - s) ≤ lo := Nat.div_le_self _ _
  rw [e1, e2, IntKind.wrap_u64]
  have e3 : ((hi * 2 ^ s : Nat) : Int) % 18446744073709551616 = ((hi * 2 ^ s : Nat) : Int) := by omega
  rw [e3, u64_or_nat _ _ (by omega) (by omega), Nat.mul_comm hi (2 ^ s), ← Nat.two_pow_add_eq_or_of_lt h3]

/-- What a word is that was reckoned over its top. -/
theorem over_sub {P U t R : Nat} (h : P + R = U * 4294967296 + t) (hR : R < 18446744073709551616) :
    ∃ a1 a2 a3 : Nat, IntKind.u64.wrap ((U : Int) * 4294967296) = (a1 : Int) ∧ IntKind.u64.wrap ((a1 : Int) + (t : Int)) = (a2 : Int) ∧ IntKind.u64.wrap (P : Int) = (a3 : Int) ∧ IntKind.u64.wrap ((a2 : Int) - (a3 : Int)) = (R : Int) := by
  refine ⟨U * 4294967296 % 18446744073709551616, (U * 4294967296 + t) % 18446744073709551616, P % 18446744073709551616, ?_, ?_, ?_, ?_⟩ <;> rw [IntKind.wrap_u64] <;> omega

theorem lz_facts {y : Nat} (h0 : 0 < y) (hy : y < 18446744073709551616) : 64 - blen y ≤ 63 ∧ y * 2 ^ (64 - blen y) < 18446744073709551616 ∧ 9223372036854775808 ≤ y * 2 ^ (64 - blen y) := by
  have hB64 : blen y ≤ 64 := (blen_le y 64).2 hy
  have h1 : ¬ blen y ≤ 0 := fun h => by have := (blen_le y 0).1 h; omega
  have h2 := (blen_le y (blen y)).1 (Nat.le_refl _)
  have h3 : ¬ y < 2 ^ (blen y - 1) := fun h => by have := (blen_le y (blen y - 1)).2 h; omega
  refine ⟨by omega, ?_, ?_⟩
  · have : y * 2 ^ (64 - blen y) < 2 ^ blen y * 2 ^ (64 - blen y) := Nat.mul_lt_mul_of_pos_right h2 (Nat.pow_pos (by omega))
    rwa [← Nat.pow_add, show blen y + (64 - blen y) = 64 by omega] at this
  · have : 2 ^ (blen y - 1) * 2 ^ (64 - blen y) ≤ y * 2 ^ (64 - blen y) := Nat.mul_le_mul_right _ (by omega)
    rwa [← Nat.pow_add, show blen y - 1 + (64 - blen y) = 63 by omega] at this

set_option maxRecDepth 20000 in
set_option maxHeartbeats 2000000 in
/-- Div64, where the upper word is 0. -/
theorem bDiv0 (lo y : Nat) (hl : lo < 18446744073709551616) (h0 : 0 < y) (w : World) :
    Calls Tryz.prog 158 #[.int .u64 0, .int .u64 (lo : Nat), .int .u64 (y : Nat)] w fun e w' => e = .returned (.tuple #[.int .u64 (lo / y : Nat), .int .u64 (lo % y : Nat)]) ∧ ∃ m, w' = w.drewN m := by
  have g1 : ((y : Int) == 0) = false := by simp; omega
  have g2 : ¬ (y : Int) ≤ 0 := by omega
  have g3 : ¬ (y : Int) = 0 := by omega
  obtain ⟨Q, hQ⟩ : ∃ Q, Q = lo / y := ⟨_, rfl⟩
  obtain ⟨R, hR⟩ : ∃ R, R = lo % y := ⟨_, rfl⟩
  have hq := Nat.div_le_self lo y
  have e1 : IntKind.u64.wrap ((lo : Int) / (y : Int)) = (Q : Int) := by
    rw [show (lo : Int) / (y : Int) = ((lo / y : Nat) : Int) by simp, ← hQ, IntKind.wrap_u64]
    omega
  have e2 : (lo : Int) % (y : Int) = (R : Int) := by rw [hR]; simp
  rw [← hQ, ← hR]
  clear hQ hR hq
  go_enter Tryz.func158, Tryz.ntmps158
  go_wp2
  go_region
  all_goals
    go_wp2
    go_ret2
    refine ⟨?_, 1, rfl⟩
    show Ending.returned (.tuple #[.int .u64 (Q : Int), .int .u64 ((lo : Int) % (y : Int))]) = _
    rw [e2]

set_option maxRecDepth 200000 in
set_option maxHeartbeats 4000000 in
/-- Div64, where it is not. -/
theorem bDiv1 (hi lo y : Nat) (hl : lo < 18446744073709551616) (hy : y < 18446744073709551616) (h0 : 0 < hi) (hlt : hi < y) (w : World) :
    Calls Tryz.prog 158 #[.int .u64 (hi : Nat), .int .u64 (lo : Nat), .int .u64 (y : Nat)] w fun e w' => e = .returned (.tuple #[.int .u64 ((hi * 18446744073709551616 + lo) / y : Nat), .int .u64 ((hi * 18446744073709551616 + lo) % y : Nat)]) ∧ ∃ m, w' = w.drewN m := by
  have g1 : ((y : Int) == 0) = false := by simp; omega
  have g2 : ¬ (y : Int) ≤ (hi : Int) := by omega
  have g3 : ((hi : Int) == 0) = false := by simp; omega
  have hZ := bLz y hy
  obtain ⟨f1, f2, f3⟩ := lz_facts (y := y) (by omega) hy
  generalize 64 - blen y = s at *
  obtain ⟨Y, hY⟩ : ∃ Y, Y = y * 2 ^ s := ⟨_, rfl⟩
  have e1 : IntKind.u64.wrap ((y : Int) * 2 ^ s) = (Y : Int) := by
    rw [show (y : Int) * 2 ^ s = ((y * 2 ^ s : Nat) : Int) by simp, ← hY, IntKind.wrap_u64]
    omega
  have hps : 0 < 2 ^ s := Nat.pow_pos (by omega)
  have hhs : hi * 2 ^ s < y * 2 ^ s := Nat.mul_lt_mul_of_pos_right hlt hps
  rw [← hY] at f2 f3 hhs
  obtain ⟨U, hU⟩ : ∃ U, U = hi * 2 ^ s + lo / 2 ^ (64 - s) := ⟨_, rfl⟩
  obtain ⟨T, hT⟩ : ∃ T, T = lo * 2 ^ s % 18446744073709551616 := ⟨_, rfl⟩
  have eU : bits .or .u64 (IntKind.u64.wrap ((hi : Int) * 2 ^ s)) ((lo : Int) / 2 ^ (64 - s)) = (U : Int) := by rw [hU]; exact or_shift hi lo s (by omega) (by omega) hl
  have eT : IntKind.u64.wrap ((lo : Int) * 2 ^ s) = (T : Int) := by
    rw [show (lo : Int) * 2 ^ s = ((lo * 2 ^ s : Nat) : Int) by simp, IntKind.wrap_u64]
    omega
  have hN : (hi * 18446744073709551616 + lo) * 2 ^ s = U * 18446744073709551616 + T := by
    have h5 : lo / 2 ^ (64 - s) = lo * 2 ^ s / 18446744073709551616 := by
      rw [show (18446744073709551616 : Nat) = 2 ^ (64 - s) * 2 ^ s by rw [← Nat.pow_add, show 64 - s + s = 64 by omega], Nat.mul_div_mul_right _ _ hps]
    rw [hU, h5, hT, Nat.add_mul, Nat.add_mul, Nat.mul_right_comm hi 18446744073709551616]
    generalize lo * 2 ^ s = z
    omega
  have hUY : U < Y := by
    have h6 : (hi * 18446744073709551616 + lo) * 2 ^ s < (y * 18446744073709551616) * 2 ^ s := Nat.mul_lt_mul_of_pos_right (by omega) hps
    rw [hN, Nat.mul_right_comm, ← hY] at h6
    omega
  have hTb : T < 18446744073709551616 := by rw [hT]; exact Nat.mod_lt _ (by omega)
  obtain ⟨QQ, hQQ⟩ : ∃ QQ, QQ = (hi * 18446744073709551616 + lo) / y := ⟨_, rfl⟩
  obtain ⟨RR, hRR⟩ : ∃ RR, RR = (hi * 18446744073709551616 + lo) % y := ⟨_, rfl⟩
  obtain ⟨d1, d2⟩ := shift_div (M := hi * 18446744073709551616 + lo) (y := y) hps
  rw [hN, ← hY, ← hQQ] at d1
  rw [hN, ← hY, ← hRR] at d2
  rw [← hQQ, ← hRR]
  have hQQb : QQ < 18446744073709551616 := by
    rw [hQQ, Nat.div_lt_iff_lt_mul (by omega)]
    have : (hi + 1) * 18446744073709551616 ≤ y * 18446744073709551616 := Nat.mul_le_mul_right _ hlt
    omega
  have D1 := toHid d1
  have D2 := toHid d2
  obtain ⟨y1, hy1⟩ : ∃ y1, y1 = Y / 4294967296 := ⟨_, rfl⟩
  obtain ⟨y0, hy0⟩ : ∃ y0, y0 = Y % 4294967296 := ⟨_, rfl⟩
  obtain ⟨t1, ht1⟩ : ∃ t1, t1 = T / 4294967296 := ⟨_, rfl⟩
  obtain ⟨t0, ht0⟩ : ∃ t0, t0 = T % 4294967296 := ⟨_, rfl⟩
  have e2 : (Y : Int) / 4294967296 = (y1 : Int) := by omega
  have e3 : bits .and .u64 (Y : Int) 4294967295 = (y0 : Int) := by rw [hy0]; exact and_low Y f2
  have e4 : (T : Int) / 4294967296 = (t1 : Int) := by omega
  have e5 : bits .and .u64 (T : Int) 4294967295 = (t0 : Int) := by rw [ht0]; exact and_low T hTb
  have g4 : ¬ (y1 : Int) = 0 := by omega
  have b1 : y1 < 4294967296 := by omega
  have b1' : 2147483648 ≤ y1 := by omega
  have b0 : y0 < 4294967296 := by omega
  have c1 : t1 < 4294967296 := by omega
  have c0 : t0 < 4294967296 := by omega
  have HYY : Hid (y1 * 4294967296 + y0 = Y) := by unfold Hid; omega
  have HTT : Hid (U * 18446744073709551616 + T = (U * 4294967296 + t1) * 4294967296 + t0) := by unfold Hid; omega
  have HUY := toHid hUY
  have HS : Hid (0 < 2 ^ s) := hps
  have hUb : U < 18446744073709551616 := by omega
  obtain ⟨R1, hR1⟩ : ∃ R1, R1 = (U * 4294967296 + t1) % Y := ⟨_, rfl⟩
  obtain ⟨R2, hR2⟩ : ∃ R2, R2 = (R1 * 4294967296 + t0) % Y := ⟨_, rfl⟩
  have hR1Y : R1 < Y := by rw [hR1]; exact Nat.mod_lt _ (by omega)
  have hR2Y : R2 < Y := by rw [hR2]; exact Nat.mod_lt _ (by omega)
  have HR1 := toHid hR1
  have HR2 := toHid hR2
  have eRR : (R2 : Int) / 2 ^ s = (RR : Int) := by
    have := (two_digits (B := 4294967296) (U := U) (u := t1) (v := t0) (Y := Y) (by omega) rfl rfl).2
    rw [← hR1, ← hR2, ← HTT.out] at this
    rw [← this] at d2
    rw [show (R2 : Int) / 2 ^ s = ((R2 / 2 ^ s : Nat) : Int) by simp, d2]
  clear hy1 hy0 ht1 ht0 hU hT hN hTb hhs hQQ hRR hY d1 d2 hps hR1 hR2 hUY
  obtain ⟨Q1, hQ1⟩ : ∃ q, q = U / y1 := ⟨_, rfl⟩
  obtain ⟨M1, hM1⟩ : ∃ q, q = Q1 * y1 := ⟨_, rfl⟩
  obtain ⟨r1, hr1⟩ : ∃ q, q = U % y1 := ⟨_, rfl⟩
  have zQ1 : IntKind.u64.wrap ((U : Int) / (y1 : Int)) = (Q1 : Int) := by
    have := Nat.div_le_self U y1
    rw [← hQ1] at this
    rw [show (U : Int) / (y1 : Int) = ((U / y1 : Nat) : Int) by simp, ← hQ1, IntKind.wrap_u64]
    omega
  have yQ1 := quot_rest U y1
  rw [← hQ1, ← hM1, ← hr1] at yQ1
  have zM1 : IntKind.u64.wrap ((Q1 : Int) * (y1 : Int)) = (M1 : Int) := by
    rw [show (Q1 : Int) * (y1 : Int) = ((Q1 * y1 : Nat) : Int) by simp, ← hM1, IntKind.wrap_u64]
    omega
  have zr1 : IntKind.u64.wrap ((U : Int) - (M1 : Int)) = (r1 : Int) := by
    rw [IntKind.wrap_u64]; omega
  have xr1 : r1 < y1 := by rw [hr1]; exact Nat.mod_lt _ (by omega)
  have GQ1 : Hid (Gss 4294967296 U t1 y1 y0 Q1 r1) := by
    unfold Hid
    rw [hQ1, hr1]
    exact Gss.start (by omega) (by omega) (by omega) b0 (by rw [HYY.out]; exact HUY.out)
  clear hQ1 hr1 hM1 yQ1
  go_enter Tryz.func158, Tryz.ntmps158
  go_wp2_with fail
  refine (hZ _).mono ?_
  rintro e w' ⟨rfl, rfl⟩
  clear hZ
  go_wp2_with fail
  go_loop [15, 16] (fun a b => ∃ q r : Nat, a = .int .u64 (q : Int) ∧ b = .int .u64 (r : Int) ∧ r < 4294967296 ∧ Hid (Gss 4294967296 U t1 y1 y0 q r)) (fun a _ => (intOf a).toNat)
  case atStart => exact ⟨Q1, r1, rfl, rfl, by omega, GQ1⟩
  case round =>
    clear GQ1
    obtain ⟨q, r, rfl, rfl, hrb, hG⟩ := hrel
    have hqb := hG.out.le
    by_cases hq : q < 4294967296
    · have k1 : ¬ (4294967296 : Int) ≤ (q : Int) := by omega
      obtain ⟨qy, hqy⟩ : ∃ qy, qy = q * y0 := ⟨_, rfl⟩
      have hqyb : qy ≤ 4294967295 * 4294967295 := by rw [hqy]; exact Nat.mul_le_mul (by omega) (by omega)
      have k2 : IntKind.u64.wrap ((q : Int) * (y0 : Int)) = (qy : Int) := by
        rw [show (q : Int) * (y0 : Int) = ((q * y0 : Nat) : Int) by simp, ← hqy, IntKind.wrap_u64]
        omega
      obtain ⟨br, hbr⟩ : ∃ br, br = 4294967296 * r := ⟨_, rfl⟩
      have k3 : IntKind.u64.wrap (4294967296 * (r : Int)) = (br : Int) := by rw [IntKind.wrap_u64]; omega
      obtain ⟨bt, hbt⟩ : ∃ bt, bt = br + t1 := ⟨_, rfl⟩
      have k4 : IntKind.u64.wrap ((br : Int) + (t1 : Int)) = (bt : Int) := by rw [IntKind.wrap_u64]; omega
      by_cases hc : bt < qy
      · have k5 : (bt : Int) < (qy : Int) := by omega
        obtain ⟨hq0, hG2⟩ := hG.out.next (by omega) (by rw [HYY.out]; exact HUY.out) (.inr (by rw [← hqy, ← hbr, ← hbt]; exact hc))
        have HG2 := toHid hG2
        obtain ⟨q', hq'⟩ : ∃ q', q = q' + 1 := ⟨q - 1, by omega⟩
        rw [show q - 1 = q' by omega] at HG2
        have hqb' : q' ≤ 4294967296 := by omega
        have k8 : IntKind.u64.wrap ((q : Int) - 1) = (q' : Int) := by rw [IntKind.wrap_u64]; omega
        have HQ := toHid hq'
        clear hq'
        clear hG hG2 hqy hbr hbt hqyb hqb hq0 hq 
        obtain ⟨r2, hr2⟩ : ∃ r2, r2 = r + y1 := ⟨_, rfl⟩
        have k6 : IntKind.u64.wrap ((r : Int) + (y1 : Int)) = (r2 : Int) := by rw [IntKind.wrap_u64]; omega
        rw [← hr2] at HG2
        by_cases hov : r2 < 4294967296
        · have k7 : ¬ (4294967296 : Int) ≤ (r2 : Int) := by omega
          clear hr2
          go_wp2_with fail
          go_round
          case rel => exact ⟨q', r2, rfl, rfl, hov, HG2⟩
          case measure => have := HQ.out; simp [intOf]; omega
        · have k7 : (4294967296 : Int) ≤ (r2 : Int) := by omega
          have hq2 := HG2.out.stop (by rw [HYY.out]; omega) (Gss.over (by omega) b0 (by omega))
          rw [HYY.out] at hq2
          clear hr2 HG2
          have hp1 := quot_rest (U * 4294967296 + t1) Y
          rw [← hq2, ← HR1.out] at hp1
          obtain ⟨p1, hp1e⟩ : ∃ p1, p1 = q' * Y := ⟨_, rfl⟩
          rw [← hp1e] at hp1
          obtain ⟨a1, a2, a3, m1, m2, m3, m4⟩ := over_sub hp1 (by omega)
          have m3' : IntKind.u64.wrap ((q' : Int) * (Y : Int)) = (a3 : Int) := by rw [← m3, hp1e]; try simp
          have HQA := toHid hq2
          clear hp1 hp1e m3 hq2
          obtain ⟨Q0, hQ0⟩ : ∃ q, q = R1 / y1 := ⟨_, rfl⟩
          obtain ⟨M0, hM0⟩ : ∃ q, q = Q0 * y1 := ⟨_, rfl⟩
          obtain ⟨r0, hr0⟩ : ∃ q, q = R1 % y1 := ⟨_, rfl⟩
          have zQ0 : IntKind.u64.wrap ((R1 : Int) / (y1 : Int)) = (Q0 : Int) := by
            have := Nat.div_le_self R1 y1
            rw [← hQ0] at this
            rw [show (R1 : Int) / (y1 : Int) = ((R1 / y1 : Nat) : Int) by simp, ← hQ0, IntKind.wrap_u64]
            omega
          have yQ0 := quot_rest R1 y1
          rw [← hQ0, ← hM0, ← hr0] at yQ0
          have zM0 : IntKind.u64.wrap ((Q0 : Int) * (y1 : Int)) = (M0 : Int) := by
            rw [show (Q0 : Int) * (y1 : Int) = ((Q0 * y1 : Nat) : Int) by simp, ← hM0, IntKind.wrap_u64]
            omega
          have zr0 : IntKind.u64.wrap ((R1 : Int) - (M0 : Int)) = (r0 : Int) := by
            rw [IntKind.wrap_u64]; omega
          have xr0 : r0 < y1 := by rw [hr0]; exact Nat.mod_lt _ (by omega)
          have GQ0 : Hid (Gss 4294967296 R1 t0 y1 y0 Q0 r0) := by
            unfold Hid
            rw [hQ0, hr0]
            exact Gss.start (by omega) (by omega) (by omega) b0 (by rw [HYY.out]; exact hR1Y)
          clear hQ0 hr0 hM0 yQ0
          go_wp2_with fail
          generalize q' = qa at *
          go_loop [18, 16] (fun a b => ∃ q r : Nat, a = .int .u64 (q : Int) ∧ b = .int .u64 (r : Int) ∧ r < 4294967296 ∧ Hid (Gss 4294967296 R1 t0 y1 y0 q r)) (fun a _ => (intOf a).toNat)
          case atStart => exact ⟨Q0, r0, rfl, rfl, by omega, GQ0⟩
          case round =>
            clear GQ0
            obtain ⟨q, r, rfl, rfl, hrb, hG⟩ := hrel
            have hqb := hG.out.le
            by_cases hq : q < 4294967296
            · have k1 : ¬ (4294967296 : Int) ≤ (q : Int) := by omega
              obtain ⟨qy, hqy⟩ : ∃ qy, qy = q * y0 := ⟨_, rfl⟩
              have hqyb : qy ≤ 4294967295 * 4294967295 := by rw [hqy]; exact Nat.mul_le_mul (by omega) (by omega)
              have k2 : IntKind.u64.wrap ((q : Int) * (y0 : Int)) = (qy : Int) := by
                rw [show (q : Int) * (y0 : Int) = ((q * y0 : Nat) : Int) by simp, ← hqy, IntKind.wrap_u64]
                omega
              obtain ⟨br, hbr⟩ : ∃ br, br = 4294967296 * r := ⟨_, rfl⟩
              have k3 : IntKind.u64.wrap (4294967296 * (r : Int)) = (br : Int) := by rw [IntKind.wrap_u64]; omega
              obtain ⟨bt, hbt⟩ : ∃ bt, bt = br + t0 := ⟨_, rfl⟩
              have k4 : IntKind.u64.wrap ((br : Int) + (t0 : Int)) = (bt : Int) := by rw [IntKind.wrap_u64]; omega
              by_cases hc : bt < qy
              · have k5 : (bt : Int) < (qy : Int) := by omega
                obtain ⟨hq0, hG2⟩ := hG.out.next (by omega) (by rw [HYY.out]; exact hR1Y) (.inr (by rw [← hqy, ← hbr, ← hbt]; exact hc))
                have HG2 := toHid hG2
                obtain ⟨q', hq'⟩ : ∃ q', q = q' + 1 := ⟨q - 1, by omega⟩
                rw [show q - 1 = q' by omega] at HG2
                have hqb' : q' ≤ 4294967296 := by omega
                have k8 : IntKind.u64.wrap ((q : Int) - 1) = (q' : Int) := by rw [IntKind.wrap_u64]; omega
                have HQ := toHid hq'
                clear hq'
                clear hG hG2 hqy hbr hbt hqyb hqb hq0 hq 
                obtain ⟨r2, hr2⟩ : ∃ r2, r2 = r + y1 := ⟨_, rfl⟩
                have k6 : IntKind.u64.wrap ((r : Int) + (y1 : Int)) = (r2 : Int) := by rw [IntKind.wrap_u64]; omega
                rw [← hr2] at HG2
                by_cases hov : r2 < 4294967296
                · have k7 : ¬ (4294967296 : Int) ≤ (r2 : Int) := by omega
                  clear hr2
                  go_wp2_with fail
                  go_round
                  case rel => exact ⟨q', r2, rfl, rfl, hov, HG2⟩
                  case measure => have := HQ.out; simp [intOf]; omega
                · have k7 : (4294967296 : Int) ≤ (r2 : Int) := by omega
                  have hq2 := HG2.out.stop (by rw [HYY.out]; omega) (Gss.over (by omega) b0 (by omega))
                  rw [HYY.out] at hq2
                  clear hr2 HG2
                  have hp0 := quot_rest (R1 * 4294967296 + t0) Y
                  rw [← hq2, ← HR2.out] at hp0
                  obtain ⟨p0, hp0e⟩ : ∃ p0, p0 = q' * Y := ⟨_, rfl⟩
                  rw [← hp0e] at hp0
                  obtain ⟨a1', a2', a3', n1, n2, n3, n4⟩ := over_sub hp0 (by omega)
                  have n3' : IntKind.u64.wrap ((q' : Int) * (Y : Int)) = (a3' : Int) := by rw [← n3, hp0e]; try simp
                  have hfin := (two_digits (B := 4294967296) (U := U) (u := t1) (v := t0) (Y := Y) (q0 := q') (by omega) HQA.out (by rw [← HR1.out]; exact hq2)).1
                  rw [← HTT.out, D1.out] at hfin
                  obtain ⟨qs, hqs⟩ : ∃ qs, qs = qa * 4294967296 := ⟨_, rfl⟩
                  have n5 : IntKind.u64.wrap ((qa : Int) * 4294967296) = (qs : Int) := by rw [IntKind.wrap_u64]; omega
                  have n6 : IntKind.u64.wrap ((qs : Int) + (q' : Int)) = (QQ : Int) := by rw [IntKind.wrap_u64]; omega
                  clear hp0 hp0e hq2 hfin hqs n3
                  go_wp2_with fail
                  go_ret2
                  exact ⟨rfl, 0, rfl⟩
              · have k5 : ¬ (bt : Int) < (qy : Int) := by omega
                have hq2 := hG.out.stop (by rw [HYY.out]; omega) (by rw [← hqy, ← hbr, ← hbt]; omega)
                rw [HYY.out] at hq2
                clear hG hqy hbr hbt hqyb hqb
                have hp0 := quot_rest (R1 * 4294967296 + t0) Y
                rw [← hq2, ← HR2.out] at hp0
                obtain ⟨p0, hp0e⟩ : ∃ p0, p0 = q * Y := ⟨_, rfl⟩
                rw [← hp0e] at hp0
                obtain ⟨a1', a2', a3', n1, n2, n3, n4⟩ := over_sub hp0 (by omega)
                have n3' : IntKind.u64.wrap ((q : Int) * (Y : Int)) = (a3' : Int) := by rw [← n3, hp0e]; try simp
                have hfin := (two_digits (B := 4294967296) (U := U) (u := t1) (v := t0) (Y := Y) (q0 := q) (by omega) HQA.out (by rw [← HR1.out]; exact hq2)).1
                rw [← HTT.out, D1.out] at hfin
                obtain ⟨qs, hqs⟩ : ∃ qs, qs = qa * 4294967296 := ⟨_, rfl⟩
                have n5 : IntKind.u64.wrap ((qa : Int) * 4294967296) = (qs : Int) := by rw [IntKind.wrap_u64]; omega
                have n6 : IntKind.u64.wrap ((qs : Int) + (q : Int)) = (QQ : Int) := by rw [IntKind.wrap_u64]; omega
                clear hp0 hp0e hq2 hfin hqs n3
                go_wp2_with fail
                go_ret2
                exact ⟨rfl, 0, rfl⟩
            · have k1 : (4294967296 : Int) ≤ (q : Int) := by omega
              obtain ⟨hq0, hG2⟩ := hG.out.next (by omega) (by rw [HYY.out]; exact hR1Y) (.inl (by omega))
              have HG2 := toHid hG2
              obtain ⟨q', hq'⟩ : ∃ q', q = q' + 1 := ⟨q - 1, by omega⟩
              rw [show q - 1 = q' by omega] at HG2
              have hqb' : q' ≤ 4294967296 := by omega
              have k8 : IntKind.u64.wrap ((q : Int) - 1) = (q' : Int) := by rw [IntKind.wrap_u64]; omega
              have HQ := toHid hq'
              clear hq'
              clear hG hG2 hqb hq0
              obtain ⟨r2, hr2⟩ : ∃ r2, r2 = r + y1 := ⟨_, rfl⟩
              have k6 : IntKind.u64.wrap ((r : Int) + (y1 : Int)) = (r2 : Int) := by rw [IntKind.wrap_u64]; omega
              rw [← hr2] at HG2
              by_cases hov : r2 < 4294967296
              · have k7 : ¬ (4294967296 : Int) ≤ (r2 : Int) := by omega
                clear hr2
                go_wp2_with fail
                go_round
                case rel => exact ⟨q', r2, rfl, rfl, hov, HG2⟩
                case measure => have := HQ.out; simp [intOf]; omega
              · have k7 : (4294967296 : Int) ≤ (r2 : Int) := by omega
                have hq2 := HG2.out.stop (by rw [HYY.out]; omega) (Gss.over (by omega) b0 (by omega))
                rw [HYY.out] at hq2
                clear hr2 HG2
                have hp0 := quot_rest (R1 * 4294967296 + t0) Y
                rw [← hq2, ← HR2.out] at hp0
                obtain ⟨p0, hp0e⟩ : ∃ p0, p0 = q' * Y := ⟨_, rfl⟩
                rw [← hp0e] at hp0
                obtain ⟨a1', a2', a3', n1, n2, n3, n4⟩ := over_sub hp0 (by omega)
                have n3' : IntKind.u64.wrap ((q' : Int) * (Y : Int)) = (a3' : Int) := by rw [← n3, hp0e]; try simp
                have hfin := (two_digits (B := 4294967296) (U := U) (u := t1) (v := t0) (Y := Y) (q0 := q') (by omega) HQA.out (by rw [← HR1.out]; exact hq2)).1
                rw [← HTT.out, D1.out] at hfin
                obtain ⟨qs, hqs⟩ : ∃ qs, qs = qa * 4294967296 := ⟨_, rfl⟩
                have n5 : IntKind.u64.wrap ((qa : Int) * 4294967296) = (qs : Int) := by rw [IntKind.wrap_u64]; omega
                have n6 : IntKind.u64.wrap ((qs : Int) + (q' : Int)) = (QQ : Int) := by rw [IntKind.wrap_u64]; omega
                clear hp0 hp0e hq2 hfin hqs n3
                go_wp2_with fail
                go_ret2
                exact ⟨rfl, 0, rfl⟩
      · have k5 : ¬ (bt : Int) < (qy : Int) := by omega
        have hq2 := hG.out.stop (by rw [HYY.out]; omega) (by rw [← hqy, ← hbr, ← hbt]; omega)
        rw [HYY.out] at hq2
        clear hG hqy hbr hbt hqyb hqb
        have hp1 := quot_rest (U * 4294967296 + t1) Y
        rw [← hq2, ← HR1.out] at hp1
        obtain ⟨p1, hp1e⟩ : ∃ p1, p1 = q * Y := ⟨_, rfl⟩
        rw [← hp1e] at hp1
        obtain ⟨a1, a2, a3, m1, m2, m3, m4⟩ := over_sub hp1 (by omega)
        have m3' : IntKind.u64.wrap ((q : Int) * (Y : Int)) = (a3 : Int) := by rw [← m3, hp1e]; try simp
        have HQA := toHid hq2
        clear hp1 hp1e m3 hq2
        obtain ⟨Q0, hQ0⟩ : ∃ q, q = R1 / y1 := ⟨_, rfl⟩
        obtain ⟨M0, hM0⟩ : ∃ q, q = Q0 * y1 := ⟨_, rfl⟩
        obtain ⟨r0, hr0⟩ : ∃ q, q = R1 % y1 := ⟨_, rfl⟩
        have zQ0 : IntKind.u64.wrap ((R1 : Int) / (y1 : Int)) = (Q0 : Int) := by
          have := Nat.div_le_self R1 y1
          rw [← hQ0] at this
          rw [show (R1 : Int) / (y1 : Int) = ((R1 / y1 : Nat) : Int) by simp, ← hQ0, IntKind.wrap_u64]
          omega
        have yQ0 := quot_rest R1 y1
        rw [← hQ0, ← hM0, ← hr0] at yQ0
        have zM0 : IntKind.u64.wrap ((Q0 : Int) * (y1 : Int)) = (M0 : Int) := by
          rw [show (Q0 : Int) * (y1 : Int) = ((Q0 * y1 : Nat) : Int) by simp, ← hM0, IntKind.wrap_u64]
          omega
        have zr0 : IntKind.u64.wrap ((R1 : Int) - (M0 : Int)) = (r0 : Int) := by
          rw [IntKind.wrap_u64]; omega
        have xr0 : r0 < y1 := by rw [hr0]; exact Nat.mod_lt _ (by omega)
        have GQ0 : Hid (Gss 4294967296 R1 t0 y1 y0 Q0 r0) := by
          unfold Hid
          rw [hQ0, hr0]
          exact Gss.start (by omega) (by omega) (by omega) b0 (by rw [HYY.out]; exact hR1Y)
        clear hQ0 hr0 hM0 yQ0
        go_wp2_with fail
        generalize q = qa at *
        go_loop [18, 16] (fun a b => ∃ q r : Nat, a = .int .u64 (q : Int) ∧ b = .int .u64 (r : Int) ∧ r < 4294967296 ∧ Hid (Gss 4294967296 R1 t0 y1 y0 q r)) (fun a _ => (intOf a).toNat)
        case atStart => exact ⟨Q0, r0, rfl, rfl, by omega, GQ0⟩
        case round =>
          clear GQ0
          obtain ⟨q, r, rfl, rfl, hrb, hG⟩ := hrel
          have hqb := hG.out.le
          by_cases hq : q < 4294967296
          · have k1 : ¬ (4294967296 : Int) ≤ (q : Int) := by omega
            obtain ⟨qy, hqy⟩ : ∃ qy, qy = q * y0 := ⟨_, rfl⟩
            have hqyb : qy ≤ 4294967295 * 4294967295 := by rw [hqy]; exact Nat.mul_le_mul (by omega) (by omega)
            have k2 : IntKind.u64.wrap ((q : Int) * (y0 : Int)) = (qy : Int) := by
              rw [show (q : Int) * (y0 : Int) = ((q * y0 : Nat) : Int) by simp, ← hqy, IntKind.wrap_u64]
              omega
            obtain ⟨br, hbr⟩ : ∃ br, br = 4294967296 * r := ⟨_, rfl⟩
            have k3 : IntKind.u64.wrap (4294967296 * (r : Int)) = (br : Int) := by rw [IntKind.wrap_u64]; omega
            obtain ⟨bt, hbt⟩ : ∃ bt, bt = br + t0 := ⟨_, rfl⟩
            have k4 : IntKind.u64.wrap ((br : Int) + (t0 : Int)) = (bt : Int) := by rw [IntKind.wrap_u64]; omega
            by_cases hc : bt < qy
            · have k5 : (bt : Int) < (qy : Int) := by omega
              obtain ⟨hq0, hG2⟩ := hG.out.next (by omega) (by rw [HYY.out]; exact hR1Y) (.inr (by rw [← hqy, ← hbr, ← hbt]; exact hc))
              have HG2 := toHid hG2
              obtain ⟨q', hq'⟩ : ∃ q', q = q' + 1 := ⟨q - 1, by omega⟩
              rw [show q - 1 = q' by omega] at HG2
              have hqb' : q' ≤ 4294967296 := by omega
              have k8 : IntKind.u64.wrap ((q : Int) - 1) = (q' : Int) := by rw [IntKind.wrap_u64]; omega
              have HQ := toHid hq'
              clear hq'
              clear hG hG2 hqy hbr hbt hqyb hqb hq0 hq 
              obtain ⟨r2, hr2⟩ : ∃ r2, r2 = r + y1 := ⟨_, rfl⟩
              have k6 : IntKind.u64.wrap ((r : Int) + (y1 : Int)) = (r2 : Int) := by rw [IntKind.wrap_u64]; omega
              rw [← hr2] at HG2
              by_cases hov : r2 < 4294967296
              · have k7 : ¬ (4294967296 : Int) ≤ (r2 : Int) := by omega
                clear hr2
                go_wp2_with fail
                go_round
                case rel => exact ⟨q', r2, rfl, rfl, hov, HG2⟩
                case measure => have := HQ.out; simp [intOf]; omega
              · have k7 : (4294967296 : Int) ≤ (r2 : Int) := by omega
                have hq2 := HG2.out.stop (by rw [HYY.out]; omega) (Gss.over (by omega) b0 (by omega))
                rw [HYY.out] at hq2
                clear hr2 HG2
                have hp0 := quot_rest (R1 * 4294967296 + t0) Y
                rw [← hq2, ← HR2.out] at hp0
                obtain ⟨p0, hp0e⟩ : ∃ p0, p0 = q' * Y := ⟨_, rfl⟩
                rw [← hp0e] at hp0
                obtain ⟨a1', a2', a3', n1, n2, n3, n4⟩ := over_sub hp0 (by omega)
                have n3' : IntKind.u64.wrap ((q' : Int) * (Y : Int)) = (a3' : Int) := by rw [← n3, hp0e]; try simp
                have hfin := (two_digits (B := 4294967296) (U := U) (u := t1) (v := t0) (Y := Y) (q0 := q') (by omega) HQA.out (by rw [← HR1.out]; exact hq2)).1
                rw [← HTT.out, D1.out] at hfin
                obtain ⟨qs, hqs⟩ : ∃ qs, qs = qa * 4294967296 := ⟨_, rfl⟩
                have n5 : IntKind.u64.wrap ((qa : Int) * 4294967296) = (qs : Int) := by rw [IntKind.wrap_u64]; omega
                have n6 : IntKind.u64.wrap ((qs : Int) + (q' : Int)) = (QQ : Int) := by rw [IntKind.wrap_u64]; omega
                clear hp0 hp0e hq2 hfin hqs n3
                go_wp2_with fail
                go_ret2
                exact ⟨rfl, 0, rfl⟩
            · have k5 : ¬ (bt : Int) < (qy : Int) := by omega
              have hq2 := hG.out.stop (by rw [HYY.out]; omega) (by rw [← hqy, ← hbr, ← hbt]; omega)
              rw [HYY.out] at hq2
              clear hG hqy hbr hbt hqyb hqb
              have hp0 := quot_rest (R1 * 4294967296 + t0) Y
              rw [← hq2, ← HR2.out] at hp0
              obtain ⟨p0, hp0e⟩ : ∃ p0, p0 = q * Y := ⟨_, rfl⟩
              rw [← hp0e] at hp0
              obtain ⟨a1', a2', a3', n1, n2, n3, n4⟩ := over_sub hp0 (by omega)
              have n3' : IntKind.u64.wrap ((q : Int) * (Y : Int)) = (a3' : Int) := by rw [← n3, hp0e]; try simp
              have hfin := (two_digits (B := 4294967296) (U := U) (u := t1) (v := t0) (Y := Y) (q0 := q) (by omega) HQA.out (by rw [← HR1.out]; exact hq2)).1
              rw [← HTT.out, D1.out] at hfin
              obtain ⟨qs, hqs⟩ : ∃ qs, qs = qa * 4294967296 := ⟨_, rfl⟩
              have n5 : IntKind.u64.wrap ((qa : Int) * 4294967296) = (qs : Int) := by rw [IntKind.wrap_u64]; omega
              have n6 : IntKind.u64.wrap ((qs : Int) + (q : Int)) = (QQ : Int) := by rw [IntKind.wrap_u64]; omega
              clear hp0 hp0e hq2 hfin hqs n3
              go_wp2_with fail
              go_ret2
              exact ⟨rfl, 0, rfl⟩
          · have k1 : (4294967296 : Int) ≤ (q : Int) := by omega
            obtain ⟨hq0, hG2⟩ := hG.out.next (by omega) (by rw [HYY.out]; exact hR1Y) (.inl (by omega))
            have HG2 := toHid hG2
            obtain ⟨q', hq'⟩ : ∃ q', q = q' + 1 := ⟨q - 1, by omega⟩
            rw [show q - 1 = q' by omega] at HG2
            have hqb' : q' ≤ 4294967296 := by omega
            have k8 : IntKind.u64.wrap ((q : Int) - 1) = (q' : Int) := by rw [IntKind.wrap_u64]; omega
            have HQ := toHid hq'
            clear hq'
            clear hG hG2 hqb hq0
            obtain ⟨r2, hr2⟩ : ∃ r2, r2 = r + y1 := ⟨_, rfl⟩
            have k6 : IntKind.u64.wrap ((r : Int) + (y1 : Int)) = (r2 : Int) := by rw [IntKind.wrap_u64]; omega
            rw [← hr2] at HG2
            by_cases hov : r2 < 4294967296
            · have k7 : ¬ (4294967296 : Int) ≤ (r2 : Int) := by omega
              clear hr2
              go_wp2_with fail
              go_round
              case rel => exact ⟨q', r2, rfl, rfl, hov, HG2⟩
              case measure => have := HQ.out; simp [intOf]; omega
            · have k7 : (4294967296 : Int) ≤ (r2 : Int) := by omega
              have hq2 := HG2.out.stop (by rw [HYY.out]; omega) (Gss.over (by omega) b0 (by omega))
              rw [HYY.out] at hq2
              clear hr2 HG2
              have hp0 := quot_rest (R1 * 4294967296 + t0) Y
              rw [← hq2, ← HR2.out] at hp0
              obtain ⟨p0, hp0e⟩ : ∃ p0, p0 = q' * Y := ⟨_, rfl⟩
              rw [← hp0e] at hp0
              obtain ⟨a1', a2', a3', n1, n2, n3, n4⟩ := over_sub hp0 (by omega)
              have n3' : IntKind.u64.wrap ((q' : Int) * (Y : Int)) = (a3' : Int) := by rw [← n3, hp0e]; try simp
              have hfin := (two_digits (B := 4294967296) (U := U) (u := t1) (v := t0) (Y := Y) (q0 := q') (by omega) HQA.out (by rw [← HR1.out]; exact hq2)).1
              rw [← HTT.out, D1.out] at hfin
              obtain ⟨qs, hqs⟩ : ∃ qs, qs = qa * 4294967296 := ⟨_, rfl⟩
              have n5 : IntKind.u64.wrap ((qa : Int) * 4294967296) = (qs : Int) := by rw [IntKind.wrap_u64]; omega
              have n6 : IntKind.u64.wrap ((qs : Int) + (q' : Int)) = (QQ : Int) := by rw [IntKind.wrap_u64]; omega
              clear hp0 hp0e hq2 hfin hqs n3
              go_wp2_with fail
              go_ret2
              exact ⟨rfl, 0, rfl⟩
    · have k1 : (4294967296 : Int) ≤ (q : Int) := by omega
      obtain ⟨hq0, hG2⟩ := hG.out.next (by omega) (by rw [HYY.out]; exact HUY.out) (.inl (by omega))
      have HG2 := toHid hG2
      obtain ⟨q', hq'⟩ : ∃ q', q = q' + 1 := ⟨q - 1, by omega⟩
      rw [show q - 1 = q' by omega] at HG2
      have hqb' : q' ≤ 4294967296 := by omega
      have k8 : IntKind.u64.wrap ((q : Int) - 1) = (q' : Int) := by rw [IntKind.wrap_u64]; omega
      have HQ := toHid hq'
      clear hq'
      clear hG hG2 hqb hq0
      obtain ⟨r2, hr2⟩ : ∃ r2, r2 = r + y1 := ⟨_, rfl⟩
      have k6 : IntKind.u64.wrap ((r : Int) + (y1 : Int)) = (r2 : Int) := by rw [IntKind.wrap_u64]; omega
      rw [← hr2] at HG2
      by_cases hov : r2 < 4294967296
      · have k7 : ¬ (4294967296 : Int) ≤ (r2 : Int) := by omega
        clear hr2
        go_wp2_with fail
        go_round
        case rel => exact ⟨q', r2, rfl, rfl, hov, HG2⟩
        case measure => have := HQ.out; simp [intOf]; omega
      · have k7 : (4294967296 : Int) ≤ (r2 : Int) := by omega
        have hq2 := HG2.out.stop (by rw [HYY.out]; omega) (Gss.over (by omega) b0 (by omega))
        rw [HYY.out] at hq2
        clear hr2 HG2
        have hp1 := quot_rest (U * 4294967296 + t1) Y
        rw [← hq2, ← HR1.out] at hp1
        obtain ⟨p1, hp1e⟩ : ∃ p1, p1 = q' * Y := ⟨_, rfl⟩
        rw [← hp1e] at hp1
        obtain ⟨a1, a2, a3, m1, m2, m3, m4⟩ := over_sub hp1 (by omega)
        have m3' : IntKind.u64.wrap ((q' : Int) * (Y : Int)) = (a3 : Int) := by rw [← m3, hp1e]; try simp
        have HQA := toHid hq2
        clear hp1 hp1e m3 hq2
        obtain ⟨Q0, hQ0⟩ : ∃ q, q = R1 / y1 := ⟨_, rfl⟩
        obtain ⟨M0, hM0⟩ : ∃ q, q = Q0 * y1 := ⟨_, rfl⟩
        obtain ⟨r0, hr0⟩ : ∃ q, q = R1 % y1 := ⟨_, rfl⟩
        have zQ0 : IntKind.u64.wrap ((R1 : Int) / (y1 : Int)) = (Q0 : Int) := by
          have := Nat.div_le_self R1 y1
          rw [← hQ0] at this
          rw [show (R1 : Int) / (y1 : Int) = ((R1 / y1 : Nat) : Int) by simp, ← hQ0, IntKind.wrap_u64]
          omega
        have yQ0 := quot_rest R1 y1
        rw [← hQ0, ← hM0, ← hr0] at yQ0
        have zM0 : IntKind.u64.wrap ((Q0 : Int) * (y1 : Int)) = (M0 : Int) := by
          rw [show (Q0 : Int) * (y1 : Int) = ((Q0 * y1 : Nat) : Int) by simp, ← hM0, IntKind.wrap_u64]
          omega
        have zr0 : IntKind.u64.wrap ((R1 : Int) - (M0 : Int)) = (r0 : Int) := by
          rw [IntKind.wrap_u64]; omega
        have xr0 : r0 < y1 := by rw [hr0]; exact Nat.mod_lt _ (by omega)
        have GQ0 : Hid (Gss 4294967296 R1 t0 y1 y0 Q0 r0) := by
          unfold Hid
          rw [hQ0, hr0]
          exact Gss.start (by omega) (by omega) (by omega) b0 (by rw [HYY.out]; exact hR1Y)
        clear hQ0 hr0 hM0 yQ0
        go_wp2_with fail
        generalize q' = qa at *
        go_loop [18, 16] (fun a b => ∃ q r : Nat, a = .int .u64 (q : Int) ∧ b = .int .u64 (r : Int) ∧ r < 4294967296 ∧ Hid (Gss 4294967296 R1 t0 y1 y0 q r)) (fun a _ => (intOf a).toNat)
        case atStart => exact ⟨Q0, r0, rfl, rfl, by omega, GQ0⟩
        case round =>
          clear GQ0
          obtain ⟨q, r, rfl, rfl, hrb, hG⟩ := hrel
          have hqb := hG.out.le
          by_cases hq : q < 4294967296
          · have k1 : ¬ (4294967296 : Int) ≤ (q : Int) := by omega
            obtain ⟨qy, hqy⟩ : ∃ qy, qy = q * y0 := ⟨_, rfl⟩
            have hqyb : qy ≤ 4294967295 * 4294967295 := by rw [hqy]; exact Nat.mul_le_mul (by omega) (by omega)
            have k2 : IntKind.u64.wrap ((q : Int) * (y0 : Int)) = (qy : Int) := by
              rw [show (q : Int) * (y0 : Int) = ((q * y0 : Nat) : Int) by simp, ← hqy, IntKind.wrap_u64]
              omega
            obtain ⟨br, hbr⟩ : ∃ br, br = 4294967296 * r := ⟨_, rfl⟩
            have k3 : IntKind.u64.wrap (4294967296 * (r : Int)) = (br : Int) := by rw [IntKind.wrap_u64]; omega
            obtain ⟨bt, hbt⟩ : ∃ bt, bt = br + t0 := ⟨_, rfl⟩
            have k4 : IntKind.u64.wrap ((br : Int) + (t0 : Int)) = (bt : Int) := by rw [IntKind.wrap_u64]; omega
            by_cases hc : bt < qy
            · have k5 : (bt : Int) < (qy : Int) := by omega
              obtain ⟨hq0, hG2⟩ := hG.out.next (by omega) (by rw [HYY.out]; exact hR1Y) (.inr (by rw [← hqy, ← hbr, ← hbt]; exact hc))
              have HG2 := toHid hG2
              obtain ⟨q', hq'⟩ : ∃ q', q = q' + 1 := ⟨q - 1, by omega⟩
              rw [show q - 1 = q' by omega] at HG2
              have hqb' : q' ≤ 4294967296 := by omega
              have k8 : IntKind.u64.wrap ((q : Int) - 1) = (q' : Int) := by rw [IntKind.wrap_u64]; omega
              have HQ := toHid hq'
              clear hq'
              clear hG hG2 hqy hbr hbt hqyb hqb hq0 hq 
              obtain ⟨r2, hr2⟩ : ∃ r2, r2 = r + y1 := ⟨_, rfl⟩
              have k6 : IntKind.u64.wrap ((r : Int) + (y1 : Int)) = (r2 : Int) := by rw [IntKind.wrap_u64]; omega
              rw [← hr2] at HG2
              by_cases hov : r2 < 4294967296
              · have k7 : ¬ (4294967296 : Int) ≤ (r2 : Int) := by omega
                clear hr2
                go_wp2_with fail
                go_round
                case rel => exact ⟨q', r2, rfl, rfl, hov, HG2⟩
                case measure => have := HQ.out; simp [intOf]; omega
              · have k7 : (4294967296 : Int) ≤ (r2 : Int) := by omega
                have hq2 := HG2.out.stop (by rw [HYY.out]; omega) (Gss.over (by omega) b0 (by omega))
                rw [HYY.out] at hq2
                clear hr2 HG2
                have hp0 := quot_rest (R1 * 4294967296 + t0) Y
                rw [← hq2, ← HR2.out] at hp0
                obtain ⟨p0, hp0e⟩ : ∃ p0, p0 = q' * Y := ⟨_, rfl⟩
                rw [← hp0e] at hp0
                obtain ⟨a1', a2', a3', n1, n2, n3, n4⟩ := over_sub hp0 (by omega)
                have n3' : IntKind.u64.wrap ((q' : Int) * (Y : Int)) = (a3' : Int) := by rw [← n3, hp0e]; try simp
                have hfin := (two_digits (B := 4294967296) (U := U) (u := t1) (v := t0) (Y := Y) (q0 := q') (by omega) HQA.out (by rw [← HR1.out]; exact hq2)).1
                rw [← HTT.out, D1.out] at hfin
                obtain ⟨qs, hqs⟩ : ∃ qs, qs = qa * 4294967296 := ⟨_, rfl⟩
                have n5 : IntKind.u64.wrap ((qa : Int) * 4294967296) = (qs : Int) := by rw [IntKind.wrap_u64]; omega
                have n6 : IntKind.u64.wrap ((qs : Int) + (q' : Int)) = (QQ : Int) := by rw [IntKind.wrap_u64]; omega
                clear hp0 hp0e hq2 hfin hqs n3
                go_wp2_with fail
                go_ret2
                exact ⟨rfl, 0, rfl⟩
            · have k5 : ¬ (bt : Int) < (qy : Int) := by omega
              have hq2 := hG.out.stop (by rw [HYY.out]; omega) (by rw [← hqy, ← hbr, ← hbt]; omega)
              rw [HYY.out] at hq2
              clear hG hqy hbr hbt hqyb hqb
              have hp0 := quot_rest (R1 * 4294967296 + t0) Y
              rw [← hq2, ← HR2.out] at hp0
              obtain ⟨p0, hp0e⟩ : ∃ p0, p0 = q * Y := ⟨_, rfl⟩
              rw [← hp0e] at hp0
              obtain ⟨a1', a2', a3', n1, n2, n3, n4⟩ := over_sub hp0 (by omega)
              have n3' : IntKind.u64.wrap ((q : Int) * (Y : Int)) = (a3' : Int) := by rw [← n3, hp0e]; try simp
              have hfin := (two_digits (B := 4294967296) (U := U) (u := t1) (v := t0) (Y := Y) (q0 := q) (by omega) HQA.out (by rw [← HR1.out]; exact hq2)).1
              rw [← HTT.out, D1.out] at hfin
              obtain ⟨qs, hqs⟩ : ∃ qs, qs = qa * 4294967296 := ⟨_, rfl⟩
              have n5 : IntKind.u64.wrap ((qa : Int) * 4294967296) = (qs : Int) := by rw [IntKind.wrap_u64]; omega
              have n6 : IntKind.u64.wrap ((qs : Int) + (q : Int)) = (QQ : Int) := by rw [IntKind.wrap_u64]; omega
              clear hp0 hp0e hq2 hfin hqs n3
              go_wp2_with fail
              go_ret2
              exact ⟨rfl, 0, rfl⟩
          · have k1 : (4294967296 : Int) ≤ (q : Int) := by omega
            obtain ⟨hq0, hG2⟩ := hG.out.next (by omega) (by rw [HYY.out]; exact hR1Y) (.inl (by omega))
            have HG2 := toHid hG2
            obtain ⟨q', hq'⟩ : ∃ q', q = q' + 1 := ⟨q - 1, by omega⟩
            rw [show q - 1 = q' by omega] at HG2
            have hqb' : q' ≤ 4294967296 := by omega
            have k8 : IntKind.u64.wrap ((q : Int) - 1) = (q' : Int) := by rw [IntKind.wrap_u64]; omega
            have HQ := toHid hq'
            clear hq'
            clear hG hG2 hqb hq0
            obtain ⟨r2, hr2⟩ : ∃ r2, r2 = r + y1 := ⟨_, rfl⟩
            have k6 : IntKind.u64.wrap ((r : Int) + (y1 : Int)) = (r2 : Int) := by rw [IntKind.wrap_u64]; omega
            rw [← hr2] at HG2
            by_cases hov : r2 < 4294967296
            · have k7 : ¬ (4294967296 : Int) ≤ (r2 : Int) := by omega
              clear hr2
              go_wp2_with fail
              go_round
              case rel => exact ⟨q', r2, rfl, rfl, hov, HG2⟩
              case measure => have := HQ.out; simp [intOf]; omega
            · have k7 : (4294967296 : Int) ≤ (r2 : Int) := by omega
              have hq2 := HG2.out.stop (by rw [HYY.out]; omega) (Gss.over (by omega) b0 (by omega))
              rw [HYY.out] at hq2
              clear hr2 HG2
              have hp0 := quot_rest (R1 * 4294967296 + t0) Y
              rw [← hq2, ← HR2.out] at hp0
              obtain ⟨p0, hp0e⟩ : ∃ p0, p0 = q' * Y := ⟨_, rfl⟩
              rw [← hp0e] at hp0
              obtain ⟨a1', a2', a3', n1, n2, n3, n4⟩ := over_sub hp0 (by omega)
              have n3' : IntKind.u64.wrap ((q' : Int) * (Y : Int)) = (a3' : Int) := by rw [← n3, hp0e]; try simp
              have hfin := (two_digits (B := 4294967296) (U := U) (u := t1) (v := t0) (Y := Y) (q0 := q') (by omega) HQA.out (by rw [← HR1.out]; exact hq2)).1
              rw [← HTT.out, D1.out] at hfin
              obtain ⟨qs, hqs⟩ : ∃ qs, qs = qa * 4294967296 := ⟨_, rfl⟩
              have n5 : IntKind.u64.wrap ((qa : Int) * 4294967296) = (qs : Int) := by rw [IntKind.wrap_u64]; omega
              have n6 : IntKind.u64.wrap ((qs : Int) + (q' : Int)) = (QQ : Int) := by rw [IntKind.wrap_u64]; omega
              clear hp0 hp0e hq2 hfin hqs n3
              go_wp2_with fail
              go_ret2
              exact ⟨rfl, 0, rfl⟩

end Go.Proofs.YtiljkgoafknefaaGreat

/- bits.Div64, Rem64, at any words. -/
namespace Go.Proofs.YtiljkgoafknefaaGreat
open Go.RowKit

theorem bDiv (hi lo y : Nat) (hl : lo < 18446744073709551616) (hy : y < 18446744073709551616) (hlt : hi < y) (w : World) :
    Calls Tryz.prog 158 #[.int .u64 (hi : Nat), .int .u64 (lo : Nat), .int .u64 (y : Nat)] w fun e w' => e = .returned (.tuple #[.int .u64 ((hi * 18446744073709551616 + lo) / y : Nat), .int .u64 ((hi * 18446744073709551616 + lo) % y : Nat)]) ∧ ∃ m, w' = w.drewN m := by
  rcases Nat.eq_zero_or_pos hi with h | h
  · subst h
    have := bDiv0 lo y hl (by omega) w
    simpa using this
  · exact bDiv1 hi lo y hl hy h hlt w

end Go.Proofs.YtiljkgoafknefaaGreat

