/- Numbers of layer 10: behind so many of the document's steps g is 0 and f is the greatest divisor, or less than 0 by as much. What a round from d = 1 to d = 1 makes of f and g lies in a polygon that shrinks. -/
import Derived.Test.YtamkkmifbajdfaaBase1
namespace Go.Proofs.Ytamkkmifbajdfaa

/-- The polygon's sides: a F + b G is at most T. -/
def nrm : List (Int × Int) := [(-30, -22), (-23, -34), (-5, -62), (9, -76), (14, -79), (29, -85), (32, -74), (35, -56), (41, -12), (41, 0), (30, 22), (23, 34), (5, 62), (-9, 76), (-14, 79), (-29, 85), (-32, 74), (-35, 56), (-41, 12), (-41, 0)]

def crs (a b : Int × Int) : Int := a.1 * b.2 - a.2 * b.1

/-- A bound that two neighbouring sides give. -/
def dom (t : Int × Int) (B : Int) : Bool := (nrm.zip (nrm.drop 1 ++ nrm.take 1)).any fun p => decide (0 < crs p.1 p.2) && decide (0 ≤ crs t p.2) && decide (0 ≤ crs p.1 t) && decide (crs t p.2 + crs p.1 t ≤ crs p.1 p.2 * B)

def InK (T F G : Int) : Prop := ∀ n ∈ nrm, n.1 * F + n.2 * G ≤ T

theorem dom_ok {t : Int × Int} {B T F G : Int} (hT : 0 ≤ T) (h : dom t B = true) (hk : InK T F G) : t.1 * F + t.2 * G ≤ B * T := by
  unfold dom at h
  rw [List.any_eq_true] at h
  obtain ⟨⟨n1, n2⟩, hm, hp⟩ := h
  simp only [Bool.and_eq_true, decide_eq_true_eq] at hp
  obtain ⟨⟨⟨h1, h2⟩, h3⟩, h4⟩ := hp
  have m1 : n1 ∈ nrm := (List.of_mem_zip hm).1
  have m2 : n2 ∈ nrm := by
    have := (List.of_mem_zip hm).2
    rw [List.mem_append] at this
    rcases this with h | h
    · exact List.mem_of_mem_drop h
    · exact List.mem_of_mem_take h
  have e : crs n1 n2 * (t.1 * F + t.2 * G) = crs t n2 * (n1.1 * F + n1.2 * G) + crs n1 t * (n2.1 * F + n2.2 * G) := by
    unfold crs
    grind
  have a1 := Int.mul_le_mul_of_nonneg_left (hk n1 m1) h2
  have a2 := Int.mul_le_mul_of_nonneg_left (hk n2 m2) h3
  have a3 := Int.mul_le_mul_of_nonneg_right h4 hT
  rw [Int.add_mul] at a3
  have : crs n1 n2 * (t.1 * F + t.2 * G) ≤ crs n1 n2 * (B * T) := by
    rw [e, ← Int.mul_assoc]
    omega
  exact Int.le_of_mul_le_mul_left this h1

theorem dom_F : dom (41, 0) 1 = true ∧ dom (-41, 0) 1 = true ∧ dom (0, 67) 1 = true ∧ dom (0, -67) 1 = true := by decide +kernel

/-- What a round of weight e asks, at q. -/
def rndT (e : Nat) (q : Int) (n : Int × Int) : Int × Int := (17 ^ e * (-(2 ^ (e - 1)) * n.2), 17 ^ e * (n.1 * 2 ^ (e + 1) + n.2 * q))

theorem rnd_small : ∀ e ∈ [1, 2, 3, 4, 5, 6, 7], ∀ n ∈ nrm, dom (rndT e 1 n) (42 ^ e) = true ∧ dom (rndT e (2 ^ (e + 1) - 1) n) (42 ^ e) = true := by decide +kernel

theorem nrm_small : ∀ n ∈ nrm, (-85 ≤ n.2 ∧ n.2 ≤ 85) ∧ (n.1 + n.2 ≤ 114 ∧ n.1 - n.2 ≤ 114 ∧ -n.1 + n.2 ≤ 114 ∧ -n.1 - n.2 ≤ 114) := by decide +kernel

theorem mul_bd {x y X Y : Int} (h1 : -X ≤ x) (h2 : x ≤ X) (h3 : -Y ≤ y) (h4 : y ≤ Y) : x * y ≤ X * Y := by
  have e1 : x.natAbs ≤ X.toNat := by omega
  have e2 : y.natAbs ≤ Y.toNat := by omega
  have h := Nat.mul_le_mul e1 e2
  rw [← Int.natAbs_mul] at h
  have hX : (X.toNat : Int) = X := by omega
  have hY : (Y.toNat : Int) = Y := by omega
  have : ((x * y).natAbs : Int) ≤ ((X.toNat * Y.toNat : Nat) : Int) := by exact_mod_cast h
  rw [Int.natCast_mul, hX, hY] at this
  have := Int.le_natAbs (a := x * y)
  omega

theorem e_large (k : Nat) : (24391 : Int) * 17 ^ (8 + k) ≤ 5494 * 21 ^ (8 + k) := by
  induction k with
  | zero => decide
  | succ k ih =>
    rw [← Nat.add_assoc, Int.pow_succ, Int.pow_succ]
    have : (0 : Int) < 17 ^ (8 + k) := Int.pow_pos (by omega)
    have : (0 : Int) < 21 ^ (8 + k) := Int.pow_pos (by omega)
    omega

/-- A round of weight e: its side n. -/
theorem key_in {e : Nat} {q T F G : Int} (he : 1 ≤ e) (hq1 : 1 ≤ q) (hq2 : q ≤ 2 ^ (e + 1) - 1) (hT : 0 ≤ T) (hk : InK T F G) {n : Int × Int} (hn : n ∈ nrm) : 17 ^ e * (-(2 ^ (e - 1)) * n.2 * F + (n.1 * 2 ^ (e + 1) + n.2 * q) * G) ≤ 42 ^ e * T := by
  by_cases h7 : e ≤ 7
  · have hm : e ∈ [1, 2, 3, 4, 5, 6, 7] := by
      have : e = 1 ∨ e = 2 ∨ e = 3 ∨ e = 4 ∨ e = 5 ∨ e = 6 ∨ e = 7 := by omega
      simpa using this
    obtain ⟨d1, d2⟩ := rnd_small e hm n hn
    have a1 := dom_ok hT d1 hk
    have a2 := dom_ok hT d2 hk
    unfold rndT at a1 a2
    dsimp only at a1 a2
    generalize (2 : Int) ^ (e + 1) = Q at *
    generalize (2 : Int) ^ (e - 1) = P at *
    generalize (17 : Int) ^ e = A at *
    generalize (42 : Int) ^ e * T = Z at *
    obtain ⟨a, b⟩ := n
    dsimp only at *
    rcases Int.lt_or_le 2 Q with h | h
    · have b1 := Int.mul_le_mul_of_nonneg_left a1 (show 0 ≤ Q - 1 - q by omega)
      have b2 := Int.mul_le_mul_of_nonneg_left a2 (show 0 ≤ q - 1 by omega)
      have e1 : (Q - 2) * (A * (-P * b * F + (a * Q + b * q) * G)) = (Q - 1 - q) * (A * (-P * b) * F + A * (a * Q + b * 1) * G) + (q - 1) * (A * (-P * b) * F + A * (a * Q + b * (Q - 1)) * G) := by grind
      have e2 : (Q - 2) * Z = (Q - 1 - q) * Z + (q - 1) * Z := by grind
      refine Int.le_of_mul_le_mul_left (a := Q - 2) ?_ (by omega)
      rw [e1, e2]
      exact Int.add_le_add b1 b2
    · obtain rfl : q = 1 := by omega
      have e1 : A * (-P * b * F + (a * Q + b * 1) * G) = A * (-P * b) * F + A * (a * Q + b * 1) * G := by grind
      rw [e1]
      exact a1
  · obtain ⟨k, rfl⟩ : ∃ k, e = 8 + k := ⟨e - 8, by omega⟩
    have c1 := dom_ok hT dom_F.1 hk
    have c2 := dom_ok hT dom_F.2.1 hk
    have c3 := dom_ok hT dom_F.2.2.1 hk
    have c4 := dom_ok hT dom_F.2.2.2 hk
    dsimp only at c1 c2 c3 c4
    obtain ⟨⟨n1, n2⟩, n3, n4, n5, n6⟩ := nrm_small n hn
    obtain ⟨a, b⟩ := n
    dsimp only at n1 n2 n3 n4 n5 n6 ⊢
    have hl := e_large k
    have e42 : (42 : Int) ^ (8 + k) = 2 * (2 ^ (8 + k - 1)) * 21 ^ (8 + k) := by
      rw [show (42 : Int) = 2 * 21 by rfl, Int.mul_pow, ← Int.pow_succ', show 8 + k - 1 + 1 = 8 + k by omega]
    have eQ : (2 : Int) ^ (8 + k + 1) = 4 * 2 ^ (8 + k - 1) := by
      rw [show 8 + k + 1 = (8 + k - 1) + 2 by omega, Int.pow_add]
      omega
    rw [eQ] at hq2 ⊢
    rw [e42]
    have hP : (0 : Int) < 2 ^ (8 + k - 1) := Int.pow_pos (by omega)
    have hA : (0 : Int) < 17 ^ (8 + k) := Int.pow_pos (by omega)
    generalize (2 : Int) ^ (8 + k - 1) = P at *
    generalize (17 : Int) ^ (8 + k) = A at *
    generalize (21 : Int) ^ (8 + k) = C at *
    have d1 : -b * (41 * F) ≤ 85 * T := mul_bd (by omega) (by omega) (by omega) (by omega)
    -- the second coefficient
    have hb1 : a * (4 * P) + b * q ≤ 456 * P := by
      rcases Int.le_total 0 b with h | h
      · have := Int.mul_le_mul_of_nonneg_left (show q ≤ 4 * P by omega) h
        have h2 := Int.mul_le_mul_of_nonneg_right n3 (show 0 ≤ 4 * P by omega)
        rw [Int.add_mul] at h2
        omega
      · have := Int.mul_le_mul_of_nonneg_left (show 0 ≤ q by omega) (show 0 ≤ -b by omega)
        have h2 := Int.mul_le_mul_of_nonneg_right (show a ≤ 114 by omega) (show 0 ≤ 4 * P by omega)
        rw [Int.mul_zero, Int.neg_mul] at this
        omega
    have hb2 : -(456 * P) ≤ a * (4 * P) + b * q := by
      rcases Int.le_total 0 b with h | h
      · have := Int.mul_le_mul_of_nonneg_left (show 0 ≤ q by omega) h
        have h2 := Int.mul_le_mul_of_nonneg_right (show -114 ≤ a by omega) (show 0 ≤ 4 * P by omega)
        rw [Int.mul_zero] at this
        omega
      · have := Int.mul_le_mul_of_nonneg_left (show q ≤ 4 * P by omega) (show 0 ≤ -b by omega)
        have h2 := Int.mul_le_mul_of_nonneg_right n6 (show 0 ≤ 4 * P by omega)
        rw [Int.sub_mul, Int.neg_mul] at h2
        rw [Int.neg_mul, Int.neg_mul] at this
        omega
    have d2 : (a * (4 * P) + b * q) * (67 * G) ≤ 456 * P * T := mul_bd hb2 hb1 (by omega) (by omega)
    generalize a * (4 * P) + b * q = c at *
    -- 41 * 67 times what is asked
    have d3 : 2747 * (-P * b * F + c * G) ≤ 24391 * (P * T) := by
      have h1 := Int.mul_le_mul_of_nonneg_left d1 (show 0 ≤ 67 * P by omega)
      have e1 : 2747 * (-P * b * F + c * G) = 67 * P * (-b * (41 * F)) + 41 * (c * (67 * G)) := by grind
      have e2 : 67 * P * (85 * T) = 5695 * (P * T) := by grind
      have e3 : 41 * (456 * P * T) = 18696 * (P * T) := by grind
      rw [e1]
      omega
    have h1 := Int.mul_le_mul_of_nonneg_left d3 (show 0 ≤ A by omega)
    have h2 := Int.mul_le_mul_of_nonneg_right hl (show 0 ≤ P * T from Int.mul_nonneg (by omega) hT)
    refine Int.le_of_mul_le_mul_left (a := 2747) ?_ (by omega)
    have e1 : 2747 * (A * (-P * b * F + c * G)) = A * (2747 * (-P * b * F + c * G)) := by grind
    have e2 : A * (24391 * (P * T)) = 24391 * A * (P * T) := by grind
    have e3 : 5494 * C * (P * T) = 2747 * (2 * P * C * T) := by grind
    rw [e1]
    omega

/-- A round shrinks the polygon. -/
theorem round_in {e : Nat} {q T F G f g : Int} (he : 1 ≤ e) (hq1 : 1 ≤ q) (hq2 : q ≤ 2 ^ (e + 1) - 1) (hT : 0 ≤ T) (hk : InK T F G) (h1 : G = 2 ^ (e - 1) * f) (h2 : 2 ^ (e + 1) * g = q * f - F) : InK (21 ^ e * T) (34 ^ e * f) (34 ^ e * g) := by
  intro n hn
  have key := key_in he hq1 hq2 hT hk hn
  obtain ⟨k, rfl⟩ : ∃ k, e = k + 1 := ⟨e - 1, by omega⟩
  have e42 : (42 : Int) ^ (k + 1) = 2 * 2 ^ k * 21 ^ (k + 1) := by
    rw [show (42 : Int) = 2 * 21 by rfl, Int.mul_pow, Int.pow_succ']
  have e34 : (34 : Int) ^ (k + 1) = 2 * 2 ^ k * 17 ^ (k + 1) := by
    rw [show (34 : Int) = 2 * 17 by rfl, Int.mul_pow, Int.pow_succ']
  have eQ : (2 : Int) ^ (k + 1 + 1) = 4 * 2 ^ k := by
    rw [Int.pow_succ, Int.pow_succ]
    omega
  rw [Nat.add_sub_cancel] at h1 key
  rw [eQ] at h2 key
  rw [e42] at key
  rw [e34]
  have hP : (0 : Int) < 2 ^ k := Int.pow_pos (by omega)
  generalize (2 : Int) ^ k = P at *
  generalize (17 : Int) ^ (k + 1) = A at *
  generalize (21 : Int) ^ (k + 1) = C at *
  obtain ⟨a, b⟩ := n
  dsimp only at key ⊢
  have e1 : A * (-P * b * F + (a * (4 * P) + b * q) * G) = 2 * P * (a * (2 * P * A * f) + b * (2 * P * A * g)) := by
    have : F = q * f - 4 * P * g := by omega
    rw [h1, this]
    grind
  rw [e1, show 2 * P * C * T = 2 * P * (C * T) by grind] at key
  exact Int.le_of_mul_le_mul_left key (by omega)

end Go.Proofs.Ytamkkmifbajdfaa
