/- Put together of: Iva1. -/
import Derived.Test.YtiljkgoafknefaaGreatPk1
import Derived.Test.YtiljkgoafknefaaGreatPk28

/- Melted of: Dst1 Dst2 Ivn1. -/

/- Numbers of layer 10: behind so many of the document's steps g is 0 and f is the greatest divisor, or less than 0 by as much. What a round from d = 1 to d = 1 makes of f and g lies in a polygon that shrinks. -/
namespace Go.Proofs.YtiljkgoafknefaaGreat

/-- The polygon's sides: a F + b G is at most T. -/
def nrm : List (Int × Int) := [(-30, -22), (-23, -34), (-5, -62), (9, -76), (14, -79), (29, -85), (32, -74), (35, -56), (41, -12), (41, 0), (30, 22), (23, 34), (5, 62), (-9, 76), (-14, 79), (-29, 85), (-32, 74), (-35, 56), (-41, 12), (-41, 0)]

def crs (a b : Int × Int) : Int := a.1 * b.2 - a.2 * b.1

/-- A bound that two neighbouring sides give. -/
def dom (t : Int × Int) (B : Int) : Bool := (nrm.zip (nrm.drop 1 ++ nrm.take 1)).any fun p => decide (0 < crs p.1 p.2) && decide (0 ≤ crs t p.2) && decide (0 ≤ crs p.1 t) && decide (crs t p.2 + crs p.1 t ≤ crs p.1 p.2 * B)

def InK (T F G : Int) : Prop := ∀ n ∈ nrm, n.1 * F + n.2 * G ≤ T

theorem dom_ok {t : Int × Int} {B T F G : Int} (hT : 0 ≤ T) (h : dom t B = true) (hk : InK T F G) : t.1 * F + t.2 * G ≤ B * T := by
  unfold dom at h
  rw [List.any_eq_true] at h
  obtain ⟨⟨n1, n2⟩, hm, hp⟩ := h
  simp only [Bool.and_eq_true, decide_eq_true_eq] at hp
  obtain ⟨⟨⟨h1, h2⟩, h3⟩, h4⟩ := hp
  have m1 : n1 ∈ nrm := (List.of_mem_zip hm).1
  have m2 : n2 ∈ nrm := by
    have := (List.of_mem_zip hm).2
    rw [List.mem_append] at this
    rcases this with h | h
    · exact List.mem_of_mem_drop h
    · exact List.mem_of_mem_take h
  have e : crs n1 n2 * (t.1 * F + t.2 * G) = crs t n2 * (n1.1 * F + n1.2 * G) + crs n1 t * (n2.1 * F + n2.2 * G) := by
    unfold crs
    grind
  have a1 := Int.mul_le_mul_of_nonneg_left (hk n1 m1) h2
  have a2 := Int.mul_le_mul_of_nonneg_left (hk n2 m2) h3
  have a3 := Int.mul_le_mul_of_nonneg_right h4 hT
  rw [Int.add_mul] at a3
  have : crs n1 n2 * (t.1 * F + t.2 * G) ≤ crs n1 n2 * (B * T) := by
    rw [e, ← Int.mul_assoc]
    omega
  exact Int.le_of_mul_le_mul_left this h1

theorem dom_F : dom (41, 0) 1 = true ∧ dom (-41, 0) 1 = true ∧ dom (0, 67) 1 = true ∧ dom (0, -67) 1 = true := by decide +kernel

/-- What a round of weight e asks, at q. -/
def rndT (e : Nat) (q : Int) (n : Int × Int) : Int × Int := (17 ^ e * (-(2 ^ (e - 1)) * n.2), 17 ^ e * (n.1 * 2 ^ (e + 1) + n.2 * q))

theorem rnd_small : ∀ e ∈ [1, 2, 3, 4, 5, 6, 7], ∀ n ∈ nrm, dom (rndT e 1 n) (42 ^ e) = true ∧ dom (rndT e (2 ^ (e + 1) - 1) n) (42 ^ e) = true := by decide +kernel

theorem nrm_small : ∀ n ∈ nrm, (-85 ≤ n.2 ∧ n.2 ≤ 85) ∧ (n.1 + n.2 ≤ 114 ∧ n.1 - n.2 ≤ 114 ∧ -n.1 + n.2 ≤ 114 ∧ -n.1 - n.2 ≤ 114) := by decide +kernel

theorem mul_bd {x y X Y : Int} (h1 : -X ≤ x) (h2 : x ≤ X) (h3 : -Y ≤ y) (h4 : y ≤ Y) : x * y ≤ X * Y := by
  have e1 : x.natAbs ≤ X.toNat := by omega
  have e2 : y.natAbs ≤ Y.toNat := by omega
  have h := Nat.mul_le_mul e1 e2
  rw [← Int.natAbs_mul] at h
  have hX : (X.toNat : Int) = X := by omega
  have hY : (Y.toNat : Int) = Y := by omega
  have : ((x * y).natAbs : Int) ≤ ((X.toNat * Y.toNat : Nat) : Int) := by exact_mod_cast h
  rw [Int.natCast_mul, hX, hY] at this
  have := Int.le_natAbs (a := x * y)
  omega

theorem e_large (k : Nat) : (24391 : Int) * 17 ^ (8 + k) ≤ 5494 * 21 ^ (8 + k) := by
  induction k with
  | zero => decide
  | succ k ih =>
    rw [← Nat.add_assoc, Int.pow_succ, Int.pow_succ]
    have : (0 : Int) < 17 ^ (8 + k) := Int.pow_pos (by omega)
    have : (0 : Int) < 21 ^ (8 + k) := Int.pow_pos (by omega)
    omega

/-- A round of weight e: its side n. -/
theorem key_in {e : Nat} {q T F G : Int} (he : 1 ≤ e) (hq1 : 1 ≤ q) (hq2 : q ≤ 2 ^ (e + 1) - 1) (hT : 0 ≤ T) (hk : InK T F G) {n : Int × Int} (hn : n ∈ nrm) : 17 ^ e * (-(2 ^ (e - 1)) * n.2 * F + (n.1 * 2 ^ (e + 1) + n.2 * q) * G) ≤ 42 ^ e * T := by
  by_cases h7 : e ≤ 7
  · have hm : e ∈ [1, 2, 3, 4, 5, 6, 7] := by
      have : e = 1 ∨ e = 2 ∨ e = 3 ∨ e = 4 ∨ e = 5 ∨ e = 6 ∨ e = 7 := by omega
      simpa using this
    obtain ⟨d1, d2⟩ := rnd_small e hm n hn
    have a1 := dom_ok hT d1 hk
    have a2 := dom_ok hT d2 hk
    unfold rndT at a1 a2
    dsimp only at a1 a2
    generalize (2 : Int) ^ (e + 1) = Q at *
    generalize (2 : Int) ^ (e - 1) = P at *
    generalize (17 : Int) ^ e = A at *
    generalize (42 : Int) ^ e * T = Z at *
    obtain ⟨a, b⟩ := n
    dsimp only at *
    rcases Int.lt_or_le 2 Q with h | h
    · have b1 := Int.mul_le_mul_of_nonneg_left a1 (show 0 ≤ Q - 1 - q by omega)
      have b2 := Int.mul_le_mul_of_nonneg_left a2 (show 0 ≤ q - 1 by omega)
      have e1 : (Q - 2) * (A * (-P * b * F + (a * Q + b * q) * G)) = (Q - 1 - q) * (A * (-P * b) * F + A * (a * Q + b * 1) * G) + (q - 1) * (A * (-P * b) * F + A * (a * Q + b * (Q - 1)) * G) := by grind
      have e2 : (Q - 2) * Z = (Q - 1 - q) * Z + (q - 1) * Z := by grind
      refine Int.le_of_mul_le_mul_left (a := Q - 2) ?_ (by omega)
      rw [e1, e2]
      exact Int.add_le_add b1 b2
    · obtain rfl : q = 1 := by omega
      have e1 : A * (-P * b * F + (a * Q + b * 1) * G) = A * (-P * b) * F + A * (a * Q + b * 1) * G := by grind
      rw [e1]
      exact a1
  · obtain ⟨k, rfl⟩ : ∃ k, e = 8 + k := ⟨e - 8, by omega⟩
    have c1 := dom_ok hT dom_F.1 hk
    have c2 := dom_ok hT dom_F.2.1 hk
    have c3 := dom_ok hT dom_F.2.2.1 hk
    have c4 := dom_ok hT dom_F.2.2.2 hk
    dsimp only at c1 c2 c3 c4
    obtain ⟨⟨n1, n2⟩, n3, n4, n5, n6⟩ := nrm_small n hn
    obtain ⟨a, b⟩ := n
    dsimp only at n1 n2 n3 n4 n5 n6 ⊢
    have hl := e_large k
    have e42 : (42 : Int) ^ (8 + k) = 2 * (2 ^ (8 + k - 1)) * 21 ^ (8 + k) := by
      rw [show (42 : Int) = 2 * 21 by rfl, Int.mul_pow, ← Int.pow_succ', show 8 + k - 1 + 1 = 8 + k by omega]
    have eQ : (2 : Int) ^ (8 + k + 1) = 4 * 2 ^ (8 + k - 1) := by
      rw [show 8 + k + 1 = (8 + k - 1) + 2 by omega, Int.pow_add]
      omega
    rw [eQ] at hq2 ⊢
    rw [e42]
    have hP : (0 : Int) < 2 ^ (8 + k - 1) := Int.pow_pos (by omega)
    have hA : (0 : Int) < 17 ^ (8 + k) := Int.pow_pos (by omega)
    generalize (2 : Int) ^ (8 + k - 1) = P at *
    generalize (17 : Int) ^ (8 + k) = A at *
    generalize (21 : Int) ^ (8 + k) = C at *
    have d1 : -b * (41 * F) ≤ 85 * T := mul_bd (by omega) (by omega) (by omega) (by omega)
    -- the second coefficient
    have hb1 : a * (4 * P) + b * q ≤ 456 * P := by
      rcases Int.le_total 0 b with h | h
      · have := Int.mul_le_mul_of_nonneg_left (show q ≤ 4 * P by omega) h
        have h2 := Int.mul_le_mul_of_nonneg_right n3 (show 0 ≤ 4 * P by omega)
        rw [Int.add_mul] at h2
        omega
      · have := Int.mul_le_mul_of_nonneg_left (show 0 ≤ q by omega) (show 0 ≤ -b by omega)
        have h2 := Int.mul_le_mul_of_nonneg_right (show a ≤ 114 by omega) (show 0 ≤ 4 * P by omega)
        rw [Int.mul_zero, Int.neg_mul] at this
        omega
    have hb2 : -(456 * P) ≤ a * (4 * P) + b * q := by
      rcases Int.le_total 0 b with h | h
      · have := Int.mul_le_mul_of_nonneg_left (show 0 ≤ q by omega) h
        have h2 := Int.mul_le_mul_of_nonneg_right (show -114 ≤ a by omega) (show 0 ≤ 4 * P by omega)
        rw [Int.mul_zero] at this
        omega
      · have := Int.mul_le_mul_of_nonneg_left (show q ≤ 4 * P by omega) (show 0 ≤ -b by omega)
        have h2 := Int.mul_le_mul_of_nonneg_right n6 (show 0 ≤ 4 * P by omega)
        rw [Int.sub_mul, Int.neg_mul] at h2
        rw [Int.neg_mul, Int.neg_mul] at this
        omega
    have d2 : (a * (4 * P) + b * q) * (67 * G) ≤ 456 * P * T := mul_bd hb2 hb1 (by omega) (by omega)
    generalize a * (4 * P) + b * q = c at *
    -- 41 * 67 times what is asked
    have d3 : 2747 * (-P * b * F + c * G) ≤ 24391 * (P * T) := by
      have h1 := Int.mul_le_mul_of_nonneg_left d1 (show 0 ≤ 67 * P by omega)
      have e1 : 2747 * (-P * b * F + c * G) = 67 * P * (-b * (41 * F)) + 41 * (c * (67 * G)) := by grind
      have e2 : 67 * P * (85 * T) = 5695 * (P * T) := by grind
      have e3 : 41 * (456 * P * T) = 18696 * (P * T) := by grind
      rw [e1]
      omega
    have h1 := Int.mul_le_mul_of_nonneg_left d3 (show 0 ≤ A by omega)
    have h2 := Int.mul_le_mul_of_nonneg_right hl (show 0 ≤ P * T from Int.mul_nonneg (by omega) hT)
    refine Int.le_of_mul_le_mul_left (a := 2747) ?_ (by omega)
    have e1 : 2747 * (A * (-P * b * F + c * G)) = A * (2747 * (-P * b * F + c * G)) := by grind
    have e2 : A * (24391 * (P * T)) = 24391 * A * (P * T) := by grind
    have e3 : 5494 * C * (P * T) = 2747 * (2 * P * C * T) := by grind
    rw [e1]
    omega

/-- A round shrinks the polygon. -/
theorem round_in {e : Nat} {q T F G f g : Int} (he : 1 ≤ e) (hq1 : 1 ≤ q) (hq2 : q ≤ 2 ^ (e + 1) - 1) (hT : 0 ≤ T) (hk : InK T F G) (h1 : G = 2 ^ (e - 1) * f) (h2 : 2 ^ (e + 1) * g = q * f - F) : InK (21 ^ e * T) (34 ^ e * f) (34 ^ e * g) := by
  intro n hn
  have key := key_in he hq1 hq2 hT hk hn
  obtain ⟨k, rfl⟩ : ∃ k, e = k + 1 := ⟨e - 1, by omega⟩
  have e42 : (42 : Int) ^ (k + 1) = 2 * 2 ^ k * 21 ^ (k + 1) := by
    rw [show (42 : Int) = 2 * 21 by rfl, Int.mul_pow, Int.pow_succ']
  have e34 : (34 : Int) ^ (k + 1) = 2 * 2 ^ k * 17 ^ (k + 1) := by
    rw [show (34 : Int) = 2 * 17 by rfl, Int.mul_pow, Int.pow_succ']
  have eQ : (2 : Int) ^ (k + 1 + 1) = 4 * 2 ^ k := by
    rw [Int.pow_succ, Int.pow_succ]
    omega
  rw [Nat.add_sub_cancel] at h1 key
  rw [eQ] at h2 key
  rw [e42] at key
  rw [e34]
  have hP : (0 : Int) < 2 ^ k := Int.pow_pos (by omega)
  generalize (2 : Int) ^ k = P at *
  generalize (17 : Int) ^ (k + 1) = A at *
  generalize (21 : Int) ^ (k + 1) = C at *
  obtain ⟨a, b⟩ := n
  dsimp only at key ⊢
  have e1 : A * (-P * b * F + (a * (4 * P) + b * q) * G) = 2 * P * (a * (2 * P * A * f) + b * (2 * P * A * g)) := by
    have : F = q * f - 4 * P * g := by omega
    rw [h1, this]
    grind
  rw [e1, show 2 * P * C * T = 2 * P * (C * T) by grind] at key
  exact Int.le_of_mul_le_mul_left key (by omega)

end Go.Proofs.YtiljkgoafknefaaGreat

/- Numbers of layer 10: the steps themselves; behind Steps of them g is 0 and f is the greatest divisor, or less than 0 by as much. -/
namespace Go.Proofs.YtiljkgoafknefaaGreat

/-- A step: d, f, g. -/
def dst (s : Int × Int × Int) : Int × Int × Int := if 0 < s.1 ∧ s.2.2 % 2 = 1 then (1 - s.1, s.2.2, (s.2.2 - s.2.1) / 2) else (1 + s.1, s.2.1, (s.2.2 + s.2.2 % 2 * s.2.1) / 2)

def dsts (s : Int × Int × Int) : Nat → Int × Int × Int
  | 0 => s
  | t + 1 => dst (dsts s t)

/-- What is known behind t steps: where the last round began, and what came since. -/
def DInv (B : Int) (t : Nat) (s : Int × Int × Int) : Prop :=
  ∃ (w : Nat) (F G : Int), InK (21 ^ w * B) (34 ^ w * F) (34 ^ w * G) ∧ s.2.1 % 2 = 1 ∧ F % 2 = 1 ∧
    ((∃ k : Nat, s.1 = 1 + k ∧ t = 2 * w + k ∧ F = s.2.1 ∧ G = 2 ^ k * s.2.2) ∨
     (∃ (k i : Nat) (q : Int), i ≤ k ∧ s.1 = (i : Int) - k ∧ t = 2 * w + k + 1 + i ∧ G = 2 ^ k * s.2.1 ∧ 2 ^ (i + 1) * s.2.2 = q * s.2.1 - F ∧ 1 ≤ q ∧ q ≤ 2 ^ (i + 1) - 1))

theorem dinv_step {B : Int} (hB : 0 ≤ B) {t : Nat} {s : Int × Int × Int} (h : DInv B t s) : DInv B (t + 1) (dst s) := by
  obtain ⟨d, f, g⟩ := s
  obtain ⟨w, F, G, hk, hf, hF, hc⟩ := h
  dsimp only at hf hc
  rcases hc with ⟨k, rfl, rfl, rfl, rfl⟩ | ⟨k, i, q, hik, rfl, rfl, rfl, hg, hq1, hq2⟩
  · by_cases hgo : g % 2 = 1
    · have e : dst (1 + (k : Int), F, g) = (1 - (1 + (k : Int)), g, (g - F) / 2) := by
        unfold dst
        rw [if_pos ⟨by dsimp only; omega, hgo⟩]
      rw [e]
      refine ⟨w, F, 2 ^ k * g, hk, hgo, hF, .inr ⟨k, 0, 1, by omega, ?_, by omega, rfl, ?_, by omega, by decide⟩⟩
      · dsimp only
        omega
      · dsimp only
        rw [show (2 : Int) ^ (0 + 1) = 2 from rfl]
        omega
    · have hg0 : g % 2 = 0 := by omega
      have e : dst (1 + (k : Int), F, g) = (1 + (1 + (k : Int)), F, g / 2) := by
        unfold dst
        rw [if_neg (fun h => hgo h.2)]
        dsimp only
        rw [hg0, Int.zero_mul, Int.add_zero]
      rw [e]
      refine ⟨w, F, 2 ^ k * g, hk, hf, hF, .inl ⟨k + 1, ?_, by omega, rfl, ?_⟩⟩
      · dsimp only
        omega
      · dsimp only
        have : g = 2 * (g / 2) := by omega
        rw [Int.pow_succ, Int.mul_assoc, ← this]
  · obtain ⟨r, hr⟩ : ∃ r, r = g % 2 := ⟨_, rfl⟩
    have hr01 : r = 0 ∨ r = 1 := by omega
    have e : dst ((i : Int) - k, f, g) = (1 + ((i : Int) - k), f, (g + r * f) / 2) := by
      unfold dst
      rw [if_neg (fun h => by have := h.1; dsimp only at this; omega), hr]
    rw [e]
    have h2 : 2 * ((g + r * f) / 2) = g + r * f := by
      rcases hr01 with rfl | rfl
      · omega
      · omega
    generalize (g + r * f) / 2 = g' at *
    have hP : (0 : Int) < 2 ^ (i + 1) := Int.pow_pos (by omega)
    have hp2 : (2 : Int) ^ (i + 1 + 1) = 2 * 2 ^ (i + 1) := by rw [Int.pow_succ]; omega
    have hn : 2 ^ (i + 1 + 1) * g' = (q + 2 ^ (i + 1) * r) * f - F := by
      rw [hp2, show (2 : Int) * 2 ^ (i + 1) * g' = 2 ^ (i + 1) * (2 * g') by grind, h2, Int.mul_add, hg]
      grind
    have hq : 1 ≤ q + 2 ^ (i + 1) * r ∧ q + 2 ^ (i + 1) * r ≤ 2 ^ (i + 1 + 1) - 1 := by
      rw [hp2]
      rcases hr01 with rfl | rfl
      · rw [Int.mul_zero]; omega
      · rw [Int.mul_one]; omega
    by_cases hlt : i < k
    · refine ⟨w, F, 2 ^ k * f, hk, hf, hF, .inr ⟨k, i + 1, q + 2 ^ (i + 1) * r, by omega, ?_, by omega, rfl, hn, hq.1, hq.2⟩⟩
      dsimp only
      omega
    · obtain rfl : i = k := by omega
      have hin := round_in (e := i + 1) (q := q + 2 ^ (i + 1) * r) (T := 21 ^ w * B) (F := 34 ^ w * F) (G := 34 ^ w * (2 ^ i * f)) (f := 34 ^ w * f) (g := 34 ^ w * g') (by omega) hq.1 hq.2 (Int.mul_nonneg (Int.le_of_lt (Int.pow_pos (by omega))) hB) hk (by rw [Nat.add_sub_cancel]; grind) (by
        rw [show (2 : Int) ^ (i + 1 + 1) * (34 ^ w * g') = 34 ^ w * (2 ^ (i + 1 + 1) * g') by grind, hn]
        grind)
      rw [← Int.mul_assoc, ← Int.mul_assoc, ← Int.mul_assoc, ← Int.pow_add, ← Int.pow_add] at hin
      refine ⟨i + 1 + w, f, g', hin, hf, hf, .inl ⟨0, ?_, by omega, rfl, ?_⟩⟩
      · dsimp only
        omega
      · dsimp only
        rw [Int.pow_zero, Int.one_mul]

theorem dinv_start {M a : Int} {D : Nat} (hM : M % 2 = 1) (h0 : 0 ≤ a) (h1 : a ≤ M) (h2 : M ≤ 2 ^ D) : DInv (67 * 2 ^ D) 0 (1, M, a) := by
  refine ⟨0, M, a, ?_, hM, hM, .inl ⟨0, by dsimp only; omega, by omega, rfl, ?_⟩⟩
  · rw [Int.pow_zero, Int.pow_zero, Int.one_mul, Int.one_mul, Int.one_mul]
    generalize (2 : Int) ^ D = X at *
    intro n hn
    simp only [nrm, List.mem_cons, List.not_mem_nil, or_false] at hn
    rcases hn with rfl | rfl | rfl | rfl | rfl | rfl | rfl | rfl | rfl | rfl | rfl | rfl | rfl | rfl | rfl | rfl | rfl | rfl | rfl | rfl <;> dsimp only <;> omega
  · dsimp only
    rw [Int.pow_zero, Int.one_mul]

theorem dinv_all {M a : Int} {D : Nat} (hM : M % 2 = 1) (h0 : 0 ≤ a) (h1 : a ≤ M) (h2 : M ≤ 2 ^ D) : ∀ t, DInv (67 * 2 ^ D) t (dsts (1, M, a) t)
  | 0 => dinv_start hM h0 h1 h2
  | t + 1 => dinv_step (Int.mul_nonneg (by omega) (Int.le_of_lt (Int.pow_pos (by omega)))) (dinv_all hM h0 h1 h2 t)

theorem end_num {D w k h : Nat} (h1 : 34 ^ w * 2 ^ k ≤ 21 ^ w * 2 ^ D) (hw : w ≤ h) (hk : h ≤ w + k) : 34 ^ h ≤ 2 ^ D * 21 ^ h := by
  obtain ⟨j, rfl⟩ : ∃ j, h = w + j := ⟨h - w, by omega⟩
  have h2 : 2 ^ j ≤ 2 ^ k := Nat.pow_le_pow_right (by omega) (by omega)
  have h3 : 34 ^ j ≤ 42 ^ j := Nat.pow_le_pow_left (by omega) j
  rw [show (42 : Nat) = 2 * 21 from rfl, Nat.mul_pow] at h3
  calc 34 ^ (w + j) = 34 ^ w * 34 ^ j := Nat.pow_add _ _ _
    _ ≤ 34 ^ w * (2 ^ j * 21 ^ j) := Nat.mul_le_mul_left _ h3
    _ = 34 ^ w * 2 ^ j * 21 ^ j := by rw [Nat.mul_assoc]
    _ ≤ 34 ^ w * 2 ^ k * 21 ^ j := Nat.mul_le_mul_right _ (Nat.mul_le_mul_left _ h2)
    _ ≤ 21 ^ w * 2 ^ D * 21 ^ j := Nat.mul_le_mul_right _ h1
    _ = 2 ^ D * 21 ^ (w + j) := by rw [Nat.pow_add]; grind

theorem in_bound {w k D : Nat} {F G : Int} (hk : InK (21 ^ w * (67 * 2 ^ D)) (34 ^ w * F) (34 ^ w * (2 ^ k * G))) (hG : G ≠ 0) : (34 : Nat) ^ w * 2 ^ k ≤ 21 ^ w * 2 ^ D := by
  have hT : (0 : Int) ≤ 21 ^ w * (67 * 2 ^ D) := Int.mul_nonneg (Int.le_of_lt (Int.pow_pos (by omega))) (Int.mul_nonneg (by omega) (Int.le_of_lt (Int.pow_pos (by omega))))
  have c3 := dom_ok hT dom_F.2.2.1 hk
  have c4 := dom_ok hT dom_F.2.2.2 hk
  dsimp only at c3 c4
  have e1 : ((34 ^ w * 2 ^ k : Nat) : Int) = 34 ^ w * 2 ^ k := by simp
  have e2 : ((21 ^ w * 2 ^ D : Nat) : Int) = 21 ^ w * 2 ^ D := by simp
  have hX : (0 : Int) < 34 ^ w * 2 ^ k := Int.mul_pos (Int.pow_pos (by omega)) (Int.pow_pos (by omega))
  rw [← Int.mul_assoc (34 ^ w)] at c3 c4
  rw [show (21 : Int) ^ w * (67 * 2 ^ D) = 67 * (21 ^ w * 2 ^ D) by grind] at c3 c4
  have goal : (34 : Int) ^ w * 2 ^ k ≤ 21 ^ w * 2 ^ D := by
    generalize (34 : Int) ^ w * 2 ^ k = X at *
    generalize (21 : Int) ^ w * 2 ^ D = Y at *
    generalize (34 : Int) ^ w * F = Z at *
    rcases Int.lt_or_le G 0 with h | h
    · have := Int.mul_le_mul_of_nonneg_left (show G ≤ -1 by omega) (show 0 ≤ X by omega)
      rw [show X * -1 = -X by omega] at this
      omega
    · have := Int.mul_le_mul_of_nonneg_left (show 1 ≤ G by omega) (show 0 ≤ X by omega)
      rw [Int.mul_one] at this
      omega
  omega

/-- Behind N steps g is 0. -/
theorem dsts_zero {M a : Int} {D N : Nat} (hM : M % 2 = 1) (h0 : 0 ≤ a) (h1 : a ≤ M) (h2 : M ≤ 2 ^ D) (hN : 2 ^ D * 21 ^ (N / 2) < 34 ^ (N / 2)) : (dsts (1, M, a) N).2.2 = 0 := by
  obtain ⟨w, F, G, hk, hf, hF, hc⟩ := dinv_all hM h0 h1 h2 N
  rcases hc with ⟨k, _, ht, _, rfl⟩ | ⟨k, i, q, hik, _, ht, rfl, _, _, _⟩
  · by_cases hg : (dsts (1, M, a) N).2.2 = 0
    · exact hg
    · have := end_num (in_bound hk hg) (show w ≤ N / 2 by omega) (by omega)
      omega
  · have := end_num (in_bound hk (by intro e; rw [e] at hf; omega)) (show w ≤ N / 2 by omega) (by omega)
    omega

theorem gcd_two {f x : Int} (hf : f % 2 = 1) : Int.gcd f (2 * x) = Int.gcd f x := by
  unfold Int.gcd
  rw [Int.natAbs_mul]
  refine Nat.Coprime.gcd_mul_left_cancel_right _ ?_
  show Nat.gcd 2 f.natAbs = 1
  rw [Nat.gcd_rec, show f.natAbs % 2 = 1 by omega]
  rfl

theorem gcd_step {s : Int × Int × Int} (hf : s.2.1 % 2 = 1) : (dst s).2.1 % 2 = 1 ∧ Int.gcd (dst s).2.1 (dst s).2.2 = Int.gcd s.2.1 s.2.2 := by
  obtain ⟨d, f, g⟩ := s
  dsimp only at hf
  unfold dst
  dsimp only
  split
  · rename_i h
    dsimp only
    refine ⟨h.2, ?_⟩
    rw [← gcd_two h.2, show 2 * ((g - f) / 2) = g - f by omega, Int.gcd_self_sub_right, Int.gcd_comm]
  · rename_i h
    dsimp only
    refine ⟨hf, ?_⟩
    have h01 : g % 2 = 0 ∨ g % 2 = 1 := by omega
    have e : 2 * ((g + g % 2 * f) / 2) = g + g % 2 * f := by
      rcases h01 with h0 | h0
      · rw [h0]; omega
      · rw [h0]; omega
    rw [← gcd_two hf, e, Int.gcd_add_mul_right_right]

theorem gcd_all {s : Int × Int × Int} (hf : s.2.1 % 2 = 1) : ∀ t, (dsts s t).2.1 % 2 = 1 ∧ Int.gcd (dsts s t).2.1 (dsts s t).2.2 = Int.gcd s.2.1 s.2.2
  | 0 => ⟨hf, rfl⟩
  | t + 1 => by
    obtain ⟨h1, h2⟩ := gcd_all hf t
    obtain ⟨h3, h4⟩ := gcd_step h1
    exact ⟨h3, h4.trans h2⟩

/-- Steps of 64 n, for a modulus of n words. -/
def stp (n : Nat) : Nat := (49 * (64 * n) + 57) / 17

theorem stp_ok : ∀ n, n ≤ 130 → 1 ≤ n → 2 ^ (64 * n) * 21 ^ (stp n / 2) < 34 ^ (stp n / 2) := by decide +kernel

/-- Behind Steps of 64 n: g is 0, f is the greatest divisor, or less than 0 by as much. -/
theorem dsts_end {M a n : Nat} (hn : 1 ≤ n) (hn2 : n ≤ 130) (hM : M % 2 = 1) (h1 : a ≤ M) (h2 : M < 2 ^ (64 * n)) :
    (dsts (1, (M : Int), (a : Int)) (stp n)).2.2 = 0 ∧ (dsts (1, (M : Int), (a : Int)) (stp n)).2.1.natAbs = Nat.gcd M a := by
  have hM' : (M : Int) % 2 = 1 := by omega
  have hz := dsts_zero (M := (M : Int)) (a := (a : Int)) (D := 64 * n) (N := stp n) hM' (by omega) (by omega) (by
    have : ((2 ^ (64 * n) : Nat) : Int) = 2 ^ (64 * n) := by simp
    rw [← this]
    omega) (stp_ok n hn2 hn)
  have hg := (gcd_all (s := (1, (M : Int), (a : Int))) hM' (stp n)).2
  rw [hz, Int.gcd_zero_right] at hg
  exact ⟨hz, hg⟩

end Go.Proofs.YtiljkgoafknefaaGreat

/- Numbers of layer 10: two's complement, what a step makes of the numbers and of their coefficients, what stands there in the end. -/
namespace Go.Proofs.YtiljkgoafknefaaGreat

/-- A number that may be below 0, as two's complement has it. -/
def tcN (B : Nat) (x : Int) : Nat := (if x < 0 then (B : Int) + x else x).toNat

theorem tc_lt {B Q : Nat} {x : Int} (h0 : -(Q : Int) < x) (h1 : x < Q) (hB : 4 * Q ≤ B) : tcN B x < B := by
  unfold tcN
  split <;> omega

theorem tc_nat (B x : Nat) : tcN B (x : Int) = x := by
  unfold tcN
  rw [if_neg (by omega)]
  omega

theorem tc_sub {B Q : Nat} {g f : Int} (hg : -(Q : Int) < g ∧ g < Q) (hf : -(Q : Int) < f ∧ f < Q) (hB : 4 * Q ≤ B) : (if tcN B g < tcN B f then tcN B g + B - tcN B f else tcN B g - tcN B f) = tcN B (g - f) := by
  unfold tcN
  split <;> split <;> split <;> split <;> omega

theorem tc_add {B Q : Nat} {g f : Int} (hg : -(Q : Int) < g ∧ g < Q) (hf : -(Q : Int) < f ∧ f < Q) (hB : 4 * Q ≤ B) : (tcN B g + tcN B f) % B = tcN B (g + f) := by
  have h : tcN B g + tcN B f = tcN B (g + f) ∨ tcN B g + tcN B f = tcN B (g + f) + B := by
    unfold tcN
    split <;> split <;> split <;> omega
  have hl : tcN B (g + f) < B := by
    unfold tcN
    split <;> omega
  rcases h with h | h
  · rw [h, Nat.mod_eq_of_lt hl]
  · rw [h, Nat.add_mod_right, Nat.mod_eq_of_lt hl]

theorem tc_odd {B Q : Nat} {g : Int} (hg : -(Q : Int) < g ∧ g < Q) (hB : 4 * Q ≤ B) (h2 : B % 2 = 0) : ((tcN B g % 2 : Nat) : Int) = g % 2 := by
  unfold tcN
  split <;> omega

/-- 1 of a number below 0. -/
def sgN (x : Int) : Nat := if x < 0 then 1 else 0

theorem tc_sign {B H Q : Nat} {x : Int} (hx : -(2 * Q : Int) ≤ x ∧ x < 2 * Q) (hB : B = 2 * H) (hQ : 2 * Q ≤ H) (hH : 0 < H) : tcN B x / H = sgN x := by
  unfold tcN sgN
  split
  · rw [Nat.div_eq_iff hH]; omega
  · rw [Nat.div_eq_of_lt (by omega)]

theorem tc_half {B H Q : Nat} {x : Int} (hx : -(2 * Q : Int) ≤ x ∧ x < 2 * Q) (hB : B = 2 * H) (hQ : 2 * Q ≤ H) : (tcN B x + sgN x % 2 * B) / 2 = tcN B (x / 2) := by
  unfold tcN sgN
  by_cases h : x < 0
  · rw [if_pos h, if_pos h, if_pos (by omega)]; omega
  · rw [if_neg h, if_neg h, if_neg (by omega)]; omega

theorem tc_neg {B Q : Nat} {f : Int} (hf : -(Q : Int) < f ∧ f < Q) (hB : 4 * Q ≤ B) : (if 0 < tcN B f then 0 + B - tcN B f else 0 - tcN B f) = tcN B (-f) := by
  unfold tcN
  split <;> split <;> split <;> omega

/-- What a step picks: 1, if f and g change places. -/
def swN (d g : Int) : Nat := if 0 < d ∧ g % 2 = 1 then 1 else 0

theorem dst_eq (d f g : Int) : dst (d, f, g) = ((if swN d g = 1 then 1 - d else 1 + d), (if swN d g = 1 then g else f), (g + ((g % 2) - 2 * (swN d g : Int)) * f) / 2) := by
  unfold dst swN
  by_cases h : 0 < d ∧ g % 2 = 1
  · rw [if_pos h, if_pos h, if_pos rfl, if_pos rfl, h.2]
    rw [show g + ((1 : Int) - 2 * ((1 : Nat) : Int)) * f = g - f by omega]
  · rw [if_neg h, if_neg h, if_neg (by omega), if_neg (by omega)]
    rw [show g % 2 - 2 * ((0 : Nat) : Int) = g % 2 by omega]

/-- What is known of the steps' numbers ahead of step t, whatever the modulus. -/
def StIn (Q : Nat) (t : Nat) (s : Int × Int × Int) : Prop := (-(t : Int) ≤ s.1 ∧ s.1 ≤ t + 1) ∧ (-(Q : Int) < s.2.1 ∧ s.2.1 < Q) ∧ (-(Q : Int) < s.2.2 ∧ s.2.2 < Q)

theorem StIn.step {Q t : Nat} {s : Int × Int × Int} (h : StIn Q t s) : StIn Q (t + 1) (dst s) := by
  obtain ⟨d, f, g⟩ := s
  unfold StIn dst at *
  dsimp only at h ⊢
  split
  · dsimp only
    omega
  · dsimp only
    have h2 : g % 2 = 0 ∨ g % 2 = 1 := by omega
    rcases h2 with h2 | h2 <;> rw [h2] <;> omega

theorem StIn.all {Q : Nat} {s : Int × Int × Int} (h : StIn Q 0 s) : ∀ t, StIn Q t (dsts s t)
  | 0 => h
  | t + 1 => (StIn.all h t).step

/-- The coefficients: modulo M, f is u times a and g is v times a. -/
def CoOk (M a U V : Nat) (s : Int × Int × Int) : Prop := U < M ∧ V < M ∧ (M : Int) ∣ (U : Int) * a - s.2.1 ∧ (M : Int) ∣ (V : Int) * a - s.2.2

theorem dvd_half {M : Nat} {x : Int} (hM : M % 2 = 1) (h : (M : Int) ∣ 2 * x) : (M : Int) ∣ x := by
  obtain ⟨z, hz⟩ := h
  obtain ⟨q, hq⟩ : ∃ q : Int, (M : Int) = 2 * q + 1 := ⟨(M / 2 : Nat), by omega⟩
  refine ⟨x - q * z, ?_⟩
  rw [Int.mul_sub, show (M : Int) * (q * z) = q * (M * z) by grind, ← hz, hq]
  grind

theorem CoOk.step {M a U V U' V' : Nat} {d f g : Int} (h : CoOk M a U V (d, f, g)) (hM : M % 2 = 1) (hf : f % 2 = 1) (hU : U' = if swN d g = 1 then V else U) (hV : V' < M) (h2 : (M : Int) ∣ 2 * (V' : Int) - (V + ((g % 2) - 2 * (swN d g : Int)) * U)) : CoOk M a U' V' (dst (d, f, g)) := by
  obtain ⟨h1, h3, h4, h5⟩ := h
  dsimp only at h4 h5
  rw [dst_eq]
  refine ⟨?_, hV, ?_, ?_⟩
  · rw [hU]; split <;> assumption
  · dsimp only
    rw [hU]
    split <;> assumption
  · dsimp only
    obtain ⟨c, hc⟩ : ∃ c, c = g % 2 - 2 * (swN d g : Int) := ⟨_, rfl⟩
    rw [← hc] at h2 ⊢
    have he : (g + c * f) % 2 = 0 := by
      have h01 : g % 2 = 0 ∨ g % 2 = 1 := by omega
      have hs : swN d g = 0 ∨ swN d g = 1 := by unfold swN; split <;> omega
      have hc' : (c = 0 ∧ g % 2 = 0) ∨ (c = 1 ∧ g % 2 = 1) ∨ (c = -1 ∧ g % 2 = 1) := by
        unfold swN at hc hs
        by_cases hh : 0 < d ∧ g % 2 = 1
        · rw [if_pos hh] at hc; omega
        · rw [if_neg hh] at hc; omega
      rcases hc' with ⟨rfl, _⟩ | ⟨rfl, _⟩ | ⟨rfl, _⟩ <;> omega
    obtain ⟨G, hG⟩ : ∃ G, G = (g + c * f) / 2 := ⟨_, rfl⟩
    rw [← hG]
    have hG2 : 2 * G = g + c * f := by omega
    apply dvd_half hM
    have e : 2 * ((V' : Int) * a - G) = (2 * (V' : Int) - (V + c * U)) * a + ((V : Int) * a - g) + c * ((U : Int) * a - f) := by
      have : 2 * ((V' : Int) * a - G) = 2 * (V' : Int) * a - 2 * G := by grind
      rw [this, hG2]
      grind
    rw [e]
    exact Int.dvd_add (Int.dvd_add (Int.dvd_mul_of_dvd_left h2) h5) (Int.dvd_mul_of_dvd_right h4)

/-- What the coefficient v becomes in a step: the landed reckoning, letter by letter. -/
theorem co_num {n Q M U V sw od x L b D W ov S E o3 V' : Nat} (hQ : Q = 2 ^ (64 * n)) (hM : M < Q) (h2 : M % 2 = 1) (hU : U < M) (hV : V < M) (hso : (sw = 1 ∧ od = 1 ∧ x = 0) ∨ (sw = 0 ∧ od = 1 ∧ x = 1) ∨ (sw = 0 ∧ od = 0 ∧ x = 0))
    (hL : L = selN sw (subN V U n) V) (hb : b = selN sw (oneN (decide (V < U))) 0) (hD : D = selN b (L + M) L % Q) (hW : W = selN x (D + U) D % Q) (ho : ov = selN x (oneN (decide (Q ≤ D + U))) 0)
    (hS : S = lesY W M ov n) (hE : E = selN (S % 2) (S + M) S % Q) (h3 : o3 = selN (S % 2) (oneN (decide (Q ≤ S + M))) 0) (hV' : V' = (E + o3 % 2 * Q) / 2) :
    V' < M ∧ (M : Int) ∣ 2 * (V' : Int) - (V + ((od : Int) - 2 * (sw : Int)) * U) := by
  have fD : D = if sw = 1 then subM V U M else V := by
    unfold selN subN oneN at *
    unfold subM
    rw [← hQ] at hL
    rcases hso with ⟨rfl, _, _⟩ | ⟨rfl, _, _⟩ | ⟨rfl, _, _⟩
    · rw [if_pos rfl] at hL hb ⊢
      by_cases h : V < U
      · rw [if_pos h] at hL
        rw [decide_eq_true h, if_pos rfl] at hb
        rw [hb, if_pos rfl, hL, show V + Q - U + M = (V + M - U) + Q by omega, Nat.add_mod_right, Nat.mod_eq_of_lt (by omega)] at hD
        rw [if_neg (by omega), hD]
      · rw [if_neg h] at hL
        rw [decide_eq_false h, if_neg (by decide)] at hb
        rw [hb, if_neg (by decide), hL, Nat.mod_eq_of_lt (by omega)] at hD
        rw [if_pos (by omega), hD]
    · rw [if_neg (by decide)] at hL hb ⊢
      rw [hb, if_neg (by decide), hL, Nat.mod_eq_of_lt (by omega)] at hD
      exact hD
    · rw [if_neg (by decide)] at hL hb ⊢
      rw [hb, if_neg (by decide), hL, Nat.mod_eq_of_lt (by omega)] at hD
      exact hD
  have lD : D < M := by
    rw [fD]
    unfold subM
    split
    · split <;> omega
    · exact hV
  have hx : x = 0 ∨ x = 1 := by omega
  have fS : S < M ∧ (S = D + x * U ∨ S + M = D + x * U) := by
    have hS0 : lesT W M ov = 0 → S = W := fun h => by rw [hS]; unfold lesY selN; rw [h]; rfl
    have hS1 : lesT W M ov = 1 → S = if W < M then W + Q - M else W - M := fun h => by rw [hS]; unfold lesY selN subN; rw [h, ← hQ]; rfl
    have t0 : ¬ (ov = 1 ∨ M ≤ W) → lesT W M ov = 0 := fun h => if_neg h
    have t1 : (ov = 1 ∨ M ≤ W) → lesT W M ov = 1 := fun h => if_pos h
    unfold selN at hW ho
    unfold oneN at ho
    rcases hx with rfl | rfl
    · rw [if_neg (by decide)] at hW ho
      rw [Nat.mod_eq_of_lt (by omega)] at hW
      have := hS0 (t0 (by omega))
      omega
    · rw [if_pos rfl] at hW ho
      by_cases h : Q ≤ D + U
      · rw [decide_eq_true h, if_pos rfl] at ho
        have hW' : W = D + U - Q := by
          rw [hW, show D + U = (D + U - Q) + Q by omega, Nat.add_mod_right, Nat.mod_eq_of_lt (by omega)]
          omega
        have := hS1 (t1 (.inl ho))
        rw [if_pos (by omega)] at this
        omega
      · rw [decide_eq_false h, if_neg (by decide)] at ho
        rw [Nat.mod_eq_of_lt (by omega)] at hW
        by_cases hh : M ≤ D + U
        · have := hS1 (t1 (.inr (by omega)))
          rw [if_neg (by omega)] at this
          omega
        · have := hS0 (t0 (by omega))
          omega
  have fV : V' = halfM S M := by
    unfold halfM selN oneN at *
    by_cases hs : S % 2 = 1
    · rw [hs, if_pos rfl] at hE h3
      rw [if_pos hs]
      by_cases h : Q ≤ S + M
      · rw [decide_eq_true h, if_pos rfl] at h3
        have hE' : E = S + M - Q := by
          rw [hE, show S + M = (S + M - Q) + Q by omega, Nat.add_mod_right, Nat.mod_eq_of_lt (by omega)]
          omega
        rw [hV', hE', h3]
        omega
      · rw [decide_eq_false h, if_neg (by decide)] at h3
        rw [Nat.mod_eq_of_lt (by omega)] at hE
        rw [hV', hE, h3]
        omega
    · have hs0 : S % 2 = 0 := by omega
      rw [hs0, if_neg (by decide)] at hE h3
      rw [if_neg hs]
      rw [Nat.mod_eq_of_lt (by omega)] at hE
      rw [hV', hE, h3]
      omega
  have f2 : V' < M ∧ (2 * V' = S ∨ 2 * V' = S + M) := by
    rw [fV]
    unfold halfM
    split <;> omega
  refine ⟨f2.1, ?_⟩
  have f3 : ∃ k : Int, (D : Int) + x * U = V + ((od : Int) - 2 * (sw : Int)) * U + k * M := by
    rw [fD]
    unfold subM
    rcases hso with ⟨rfl, rfl, rfl⟩ | ⟨rfl, rfl, rfl⟩ | ⟨rfl, rfl, rfl⟩
    · rw [if_pos rfl]
      by_cases h : U ≤ V
      · rw [if_pos h]; exact ⟨0, by omega⟩
      · rw [if_neg h]; exact ⟨1, by omega⟩
    · rw [if_neg (by decide)]; exact ⟨0, by omega⟩
    · rw [if_neg (by decide)]; exact ⟨0, by omega⟩
  obtain ⟨k, hk⟩ := f3
  have hxU : ((x * U : Nat) : Int) = x * U := by simp
  generalize (od : Int) - 2 * (sw : Int) = c at *
  generalize c * (U : Int) = cU at *
  generalize (x : Int) * (U : Int) = xI at *
  generalize x * U = xU at *
  rcases f2.2 with e | e
  · rcases fS.2 with e2 | e2
    · exact ⟨k, by rw [Int.mul_comm (M : Int)]; omega⟩
    · exact ⟨k - 1, by rw [Int.mul_comm (M : Int), Int.sub_mul]; omega⟩
  · rcases fS.2 with e2 | e2
    · exact ⟨k + 1, by rw [Int.mul_comm (M : Int), Int.add_mul]; omega⟩
    · exact ⟨k, by rw [Int.mul_comm (M : Int)]; omega⟩

/-- The end: what stands there is the inverse, if there is one. -/
theorem inv_fin {M a U : Nat} {d F G : Int} {V : Nat} (h : CoOk M a U V (d, F, G)) (hM : 2 ≤ M) (hF : F.natAbs = 1) : (if F < 0 then subM 0 U M else U) < M ∧ a * (if F < 0 then subM 0 U M else U) % M = 1 := by
  obtain ⟨h1, _, h3, _⟩ := h
  dsimp only at h3
  obtain ⟨k, hk⟩ := h3
  by_cases hn : F < 0
  · obtain rfl : F = -1 := by omega
    rw [if_pos hn]
    unfold subM
    by_cases h0 : U ≤ 0
    · obtain rfl : U = 0 := by omega
      exfalso
      rw [show ((0 : Nat) : Int) * (a : Int) - (-1) = 1 by omega] at hk
      have : (M : Int) ∣ 1 := ⟨k, hk⟩
      have := Int.le_of_dvd (by omega) this
      omega
    · rw [if_neg h0]
      refine ⟨by omega, ?_⟩
      have e : ((a * (0 + M - U) : Nat) : Int) = 1 + M * (a - k) := by
        rw [show 0 + M - U = M - U by omega, Int.natCast_mul, Int.natCast_sub (by omega), Int.mul_sub, Int.mul_sub, ← hk]
        grind
      have e2 : ((a * (0 + M - U) % M : Nat) : Int) = 1 := by
        rw [Int.natCast_emod, e, Int.add_mul_emod_self_left, Int.emod_eq_of_lt (by omega) (by omega)]
      omega
  · obtain rfl : F = 1 := by omega
    rw [if_neg hn]
    refine ⟨h1, ?_⟩
    have e : ((a * U : Nat) : Int) = 1 + M * k := by
      rw [Int.natCast_mul, ← hk]
      grind
    have e2 : ((a * U % M : Nat) : Int) = 1 := by
      rw [Int.natCast_emod, e, Int.add_mul_emod_self_left, Int.emod_eq_of_lt (by omega) (by omega)]
    omega

end Go.Proofs.YtiljkgoafknefaaGreat

