/- Division of two words by one, and the guess of a quotient's word: plain mathematics, over no program. -/
import Derived.Test.YtcdeankllgpnfaaBase1
namespace Go.Proofs.Ytcdeankllgpnfaa

/-- A guess of a quotient's digit that is not too small: by the divisor's upper digit, corrected by its lower one. -/
structure Gss (B U u y1 y0 q r : Nat) : Prop where
  eq : q * y1 + r = U
  ge : (U * B + u) / (y1 * B + y0) ≤ q
  le : q ≤ B + 1

theorem mul_split (q y1 y0 B : Nat) : (y1 * B + y0) * q = q * y1 * B + q * y0 := by
  rw [Nat.add_mul, Nat.mul_comm (y1 * B) q, ← Nat.mul_assoc, Nat.mul_comm y0 q]

/-- The first guess. -/
theorem Gss.start {B U u y1 y0 : Nat} (hB : 0 < B) (hu : u < B) (h1 : B ≤ 2 * y1) (h0 : y0 < B) (hU : U < y1 * B + y0) : Gss B U u y1 y0 (U / y1) (U % y1) := by
  have hy1 : 0 < y1 := by omega
  refine ⟨by rw [Nat.mul_comm]; exact Nat.div_add_mod U y1, ?_, ?_⟩
  · have e : (U * B + u) / (y1 * B) = U / y1 := by
      rw [Nat.mul_comm y1 B, ← Nat.div_div_eq_div_mul, Nat.mul_comm U B, Nat.mul_add_div hB, Nat.div_eq_of_lt hu, Nat.add_zero]
    rw [← e]
    exact Nat.div_le_div_left (by omega) (Nat.mul_pos hy1 hB)
  · have h2 : U / y1 < B + 2 := by
      rw [Nat.div_lt_iff_lt_mul hy1, Nat.add_mul, Nat.mul_comm B y1]
      omega
    omega

theorem quot_lt {B U u Y : Nat} (hu : u < B) (hU : U < Y) : (U * B + u) / Y < B := by
  rw [Nat.div_lt_iff_lt_mul (by omega)]
  have : (U + 1) * B ≤ Y * B := Nat.mul_le_mul_right _ hU
  rw [Nat.add_mul, Nat.one_mul] at this
  rw [Nat.mul_comm B Y]
  omega

theorem quot_eq {q A Y : Nat} (hY : 0 < Y) (h1 : A / Y ≤ q) (h2 : Y * q ≤ A) : q = A / Y := by
  have h3 : q ≤ A / Y := (Nat.le_div_iff_mul_le hY).2 (by rw [Nat.mul_comm]; exact h2)
  omega

/-- A guess that passes the test is right. -/
theorem Gss.stop {B U u y1 y0 q r : Nat} (g : Gss B U u y1 y0 q r) (hY : 0 < y1 * B + y0) (ht : q * y0 ≤ B * r + u) : q = (U * B + u) / (y1 * B + y0) := by
  refine quot_eq hY g.ge ?_
  rw [mul_split, ← g.eq, Nat.add_mul, Nat.mul_comm r B]
  omega

/-- A guess that does not is too great by one at least. -/
theorem Gss.next {B U u y1 y0 q r : Nat} (g : Gss B U u y1 y0 q r) (hu : u < B) (hU : U < y1 * B + y0) (ht : B ≤ q ∨ B * r + u < q * y0) : 0 < q ∧ Gss B U u y1 y0 (q - 1) (r + y1) := by
  have hlt : (U * B + u) / (y1 * B + y0) < q := by
    rcases ht with h | h
    · exact Nat.lt_of_lt_of_le (quot_lt hu hU) h
    · rw [Nat.div_lt_iff_lt_mul (by omega), Nat.mul_comm q, mul_split, ← g.eq, Nat.add_mul, Nat.mul_comm r B]
      omega
  have hq : 0 < q := Nat.lt_of_le_of_lt (Nat.zero_le _) hlt
  refine ⟨hq, ?_, Nat.le_sub_one_of_lt hlt, by have := g.le; omega⟩
  obtain ⟨p, rfl⟩ : ∃ p, q = p + 1 := ⟨q - 1, by omega⟩
  have := g.eq
  rw [Nat.add_mul, Nat.one_mul] at this
  rw [Nat.add_sub_cancel]; omega

/-- A guess whose rest has grown over a digit passes the test. -/
theorem Gss.over {B u y0 q r : Nat} (hq : q ≤ B) (h0 : y0 < B) (hr : B ≤ r) : q * y0 ≤ B * r + u := by
  have h1 : q * y0 ≤ B * B := Nat.le_trans (Nat.mul_le_mul_right _ hq) (Nat.mul_le_mul_left _ (by omega))
  have h2 : B * B ≤ B * r := Nat.mul_le_mul_left _ hr
  omega

theorem quot_rest (A Y : Nat) : A / Y * Y + A % Y = A := by rw [Nat.mul_comm]; exact Nat.div_add_mod A Y

/-- Two digits of a quotient, one behind the other. -/
theorem two_digits {B U u v Y q1 q0 : Nat} (hY : 0 < Y) (h1 : q1 = (U * B + u) / Y) (h0 : q0 = ((U * B + u) % Y * B + v) / Y) :
    q1 * B + q0 = ((U * B + u) * B + v) / Y ∧ ((U * B + u) % Y * B + v) % Y = ((U * B + u) * B + v) % Y := by
  have e := Nat.div_add_mod (U * B + u) Y
  have e2 : (U * B + u) * B + v = Y * (q1 * B) + ((U * B + u) % Y * B + v) := by
    have : (U * B + u) * B = (Y * ((U * B + u) / Y) + (U * B + u) % Y) * B := by rw [e]
    rw [this, Nat.add_mul, ← h1, Nat.mul_assoc]
    omega
  refine ⟨?_, ?_⟩
  · rw [e2, Nat.mul_add_div hY, ← h0]
  · rw [e2, Nat.mul_add_mod]

/-- What is shifted up to divide is shifted down again. -/
theorem shift_div {M y p : Nat} (hp : 0 < p) : (M * p) / (y * p) = M / y ∧ (M * p) % (y * p) / p = M % y := by
  refine ⟨Nat.mul_div_mul_right _ _ hp, ?_⟩
  rw [Nat.mul_mod_mul_right, Nat.mul_div_cancel _ hp]

/-- The guess by three digits and two: right, or one too great. -/
theorem knuth_top {B b U V ul vl U3 V2 : Nat} (hU : U = U3 * b + ul) (hul : ul < b) (hV : V = V2 * b + vl) (hvl : vl < b) (hV2 : B ≤ V2) (hB : 0 < B) (hQ : U3 / V2 ≤ B) :
    U / V ≤ U3 / V2 ∧ U3 / V2 ≤ U / V + 1 := by
  have hb : 0 < b := by omega
  have hV2p : 0 < V2 := by omega
  have hVp : 0 < V := by
    have : 1 * 1 ≤ V2 * b := Nat.mul_le_mul hV2p hb
    omega
  refine ⟨?_, ?_⟩
  · have e : U / (V2 * b) = U3 / V2 := by
      rw [Nat.mul_comm V2 b, ← Nat.div_div_eq_div_mul, hU, Nat.mul_comm U3 b, Nat.mul_add_div hb, Nat.div_eq_of_lt hul, Nat.add_zero]
    rw [← e]
    exact Nat.div_le_div_left (by omega) (Nat.mul_pos hV2p hb)
  · generalize hQq : U3 / V2 = Q at *
    rcases Nat.eq_zero_or_pos Q with h | h
    · rw [h]; exact Nat.zero_le _
    · obtain ⟨p, rfl⟩ : ∃ p, Q = p + 1 := ⟨Q - 1, by omega⟩
      have h3 : V2 * (p + 1) ≤ U3 := by rw [← hQq]; exact Nat.mul_div_le U3 V2
      have : p ≤ U / V := by
        rw [Nat.le_div_iff_mul_le hVp, hV, hU, Nat.mul_add]
        have h4 : p * vl ≤ p * b := Nat.mul_le_mul_left _ (by omega)
        have h5 : p * b ≤ V2 * b := Nat.mul_le_mul_right _ (by omega)
        have h6 : V2 * (p + 1) * b ≤ U3 * b := Nat.mul_le_mul_right _ h3
        rw [Nat.mul_add, Nat.mul_one, Nat.add_mul] at h6
        have h7 : p * (V2 * b) = V2 * p * b := by rw [← Nat.mul_assoc, Nat.mul_comm p V2]
        omega
      exact Nat.succ_le_succ this

/-- The greatest digit as a guess, where the highest digits are alike. -/
theorem knuth_full {B b U V ul vl U1 V1 : Nat} (hU : U = U1 * b + ul) (hV : V = V1 * b + vl) (hvl : vl < b) (hUV : U < V * B) (hV1 : B ≤ 2 * V1) (hB : 2 ≤ B) (h : V1 * B ≤ U1) :
    U / V ≤ B - 1 ∧ B - 1 ≤ U / V + 1 := by
  have hVp : 0 < V := by
    rcases Nat.eq_zero_or_pos V with h | h
    · rw [h] at hUV; omega
    · exact h
  refine ⟨?_, ?_⟩
  · have : U / V < B := (Nat.div_lt_iff_lt_mul hVp).2 (by rw [Nat.mul_comm]; exact hUV)
    omega
  · obtain ⟨c, rfl⟩ : ∃ c, B = c + 2 := ⟨B - 2, by omega⟩
    have : c ≤ U / V := by
      rw [Nat.le_div_iff_mul_le hVp, hV, hU, Nat.mul_add]
      have h1 : V1 * (c + 2) * b ≤ U1 * b := Nat.mul_le_mul_right _ h
      have h2 : c * vl ≤ c * b := Nat.mul_le_mul_left _ (by omega)
      have h3 : (c + 2) * b ≤ 2 * V1 * b := Nat.mul_le_mul_right _ hV1
      rw [Nat.mul_add, Nat.add_mul] at h1
      rw [Nat.add_mul] at h3
      have h4 : c * (V1 * b) = V1 * c * b := by rw [← Nat.mul_assoc, Nat.mul_comm c V1]
      have h5 : V1 * 2 * b = 2 * V1 * b := by rw [Nat.mul_comm V1 2]
      omega
    exact Nat.succ_le_succ this

end Go.Proofs.Ytcdeankllgpnfaa
