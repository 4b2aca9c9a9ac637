/- Numbers of layer 10: the steps themselves; behind Steps of them g is 0 and f is the greatest divisor, or less than 0 by as much. -/
import Derived.Test.YtamkkmifbajdfaaDst1
namespace Go.Proofs.Ytamkkmifbajdfaa

/-- A step: d, f, g. -/
def dst (s : Int × Int × Int) : Int × Int × Int := if 0 < s.1 ∧ s.2.2 % 2 = 1 then (1 - s.1, s.2.2, (s.2.2 - s.2.1) / 2) else (1 + s.1, s.2.1, (s.2.2 + s.2.2 % 2 * s.2.1) / 2)

def dsts (s : Int × Int × Int) : Nat → Int × Int × Int
  | 0 => s
  | t + 1 => dst (dsts s t)

/-- What is known behind t steps: where the last round began, and what came since. -/
def DInv (B : Int) (t : Nat) (s : Int × Int × Int) : Prop :=
  ∃ (w : Nat) (F G : Int), InK (21 ^ w * B) (34 ^ w * F) (34 ^ w * G) ∧ s.2.1 % 2 = 1 ∧ F % 2 = 1 ∧
    ((∃ k : Nat, s.1 = 1 + k ∧ t = 2 * w + k ∧ F = s.2.1 ∧ G = 2 ^ k * s.2.2) ∨
     (∃ (k i : Nat) (q : Int), i ≤ k ∧ s.1 = (i : Int) - k ∧ t = 2 * w + k + 1 + i ∧ G = 2 ^ k * s.2.1 ∧ 2 ^ (i + 1) * s.2.2 = q * s.2.1 - F ∧ 1 ≤ q ∧ q ≤ 2 ^ (i + 1) - 1))

theorem dinv_step {B : Int} (hB : 0 ≤ B) {t : Nat} {s : Int × Int × Int} (h : DInv B t s) : DInv B (t + 1) (dst s) := by
  obtain ⟨d, f, g⟩ := s
  obtain ⟨w, F, G, hk, hf, hF, hc⟩ := h
  dsimp only at hf hc
  rcases hc with ⟨k, rfl, rfl, rfl, rfl⟩ | ⟨k, i, q, hik, rfl, rfl, rfl, hg, hq1, hq2⟩
  · by_cases hgo : g % 2 = 1
    · have e : dst (1 + (k : Int), F, g) = (1 - (1 + (k : Int)), g, (g - F) / 2) := by
        unfold dst
        rw [if_pos ⟨by dsimp only; omega, hgo⟩]
      rw [e]
      refine ⟨w, F, 2 ^ k * g, hk, hgo, hF, .inr ⟨k, 0, 1, by omega, ?_, by omega, rfl, ?_, by omega, by decide⟩⟩
      · dsimp only
        omega
      · dsimp only
        rw [show (2 : Int) ^ (0 + 1) = 2 from rfl]
        omega
    · have hg0 : g % 2 = 0 := by omega
      have e : dst (1 + (k : Int), F, g) = (1 + (1 + (k : Int)), F, g / 2) := by
        unfold dst
        rw [if_neg (fun h => hgo h.2)]
        dsimp only
        rw [hg0, Int.zero_mul, Int.add_zero]
      rw [e]
      refine ⟨w, F, 2 ^ k * g, hk, hf, hF, .inl ⟨k + 1, ?_, by omega, rfl, ?_⟩⟩
      · dsimp only
        omega
      · dsimp only
        have : g = 2 * (g / 2) := by omega
        rw [Int.pow_succ, Int.mul_assoc, ← this]
  · obtain ⟨r, hr⟩ : ∃ r, r = g % 2 := ⟨_, rfl⟩
    have hr01 : r = 0 ∨ r = 1 := by omega
    have e : dst ((i : Int) - k, f, g) = (1 + ((i : Int) - k), f, (g + r * f) / 2) := by
      unfold dst
      rw [if_neg (fun h => by have := h.1; dsimp only at this; omega), hr]
    rw [e]
    have h2 : 2 * ((g + r * f) / 2) = g + r * f := by
      rcases hr01 with rfl | rfl
      · omega
      · omega
    generalize (g + r * f) / 2 = g' at *
    have hP : (0 : Int) < 2 ^ (i + 1) := Int.pow_pos (by omega)
    have hp2 : (2 : Int) ^ (i + 1 + 1) = 2 * 2 ^ (i + 1) := by rw [Int.pow_succ]; omega
    have hn : 2 ^ (i + 1 + 1) * g' = (q + 2 ^ (i + 1) * r) * f - F := by
      rw [hp2, show (2 : Int) * 2 ^ (i + 1) * g' = 2 ^ (i + 1) * (2 * g') by grind, h2, Int.mul_add, hg]
      grind
    have hq : 1 ≤ q + 2 ^ (i + 1) * r ∧ q + 2 ^ (i + 1) * r ≤ 2 ^ (i + 1 + 1) - 1 := by
      rw [hp2]
      rcases hr01 with rfl | rfl
      · rw [Int.mul_zero]; omega
      · rw [Int.mul_one]; omega
    by_cases hlt : i < k
    · refine ⟨w, F, 2 ^ k * f, hk, hf, hF, .inr ⟨k, i + 1, q + 2 ^ (i + 1) * r, by omega, ?_, by omega, rfl, hn, hq.1, hq.2⟩⟩
      dsimp only
      omega
    · obtain rfl : i = k := by omega
      have hin := round_in (e := i + 1) (q := q + 2 ^ (i + 1) * r) (T := 21 ^ w * B) (F := 34 ^ w * F) (G := 34 ^ w * (2 ^ i * f)) (f := 34 ^ w * f) (g := 34 ^ w * g') (by omega) hq.1 hq.2 (Int.mul_nonneg (Int.le_of_lt (Int.pow_pos (by omega))) hB) hk (by rw [Nat.add_sub_cancel]; grind) (by
        rw [show (2 : Int) ^ (i + 1 + 1) * (34 ^ w * g') = 34 ^ w * (2 ^ (i + 1 + 1) * g') by grind, hn]
        grind)
      rw [← Int.mul_assoc, ← Int.mul_assoc, ← Int.mul_assoc, ← Int.pow_add, ← Int.pow_add] at hin
      refine ⟨i + 1 + w, f, g', hin, hf, hf, .inl ⟨0, ?_, by omega, rfl, ?_⟩⟩
      · dsimp only
        omega
      · dsimp only
        rw [Int.pow_zero, Int.one_mul]

theorem dinv_start {M a : Int} {D : Nat} (hM : M % 2 = 1) (h0 : 0 ≤ a) (h1 : a ≤ M) (h2 : M ≤ 2 ^ D) : DInv (67 * 2 ^ D) 0 (1, M, a) := by
  refine ⟨0, M, a, ?_, hM, hM, .inl ⟨0, by dsimp only; omega, by omega, rfl, ?_⟩⟩
  · rw [Int.pow_zero, Int.pow_zero, Int.one_mul, Int.one_mul, Int.one_mul]
    generalize (2 : Int) ^ D = X at *
    intro n hn
    simp only [nrm, List.mem_cons, List.not_mem_nil, or_false] at hn
    rcases hn with rfl | rfl | rfl | rfl | rfl | rfl | rfl | rfl | rfl | rfl | rfl | rfl | rfl | rfl | rfl | rfl | rfl | rfl | rfl | rfl <;> dsimp only <;> omega
  · dsimp only
    rw [Int.pow_zero, Int.one_mul]

theorem dinv_all {M a : Int} {D : Nat} (hM : M % 2 = 1) (h0 : 0 ≤ a) (h1 : a ≤ M) (h2 : M ≤ 2 ^ D) : ∀ t, DInv (67 * 2 ^ D) t (dsts (1, M, a) t)
  | 0 => dinv_start hM h0 h1 h2
  | t + 1 => dinv_step (Int.mul_nonneg (by omega) (Int.le_of_lt (Int.pow_pos (by omega)))) (dinv_all hM h0 h1 h2 t)

theorem end_num {D w k h : Nat} (h1 : 34 ^ w * 2 ^ k ≤ 21 ^ w * 2 ^ D) (hw : w ≤ h) (hk : h ≤ w + k) : 34 ^ h ≤ 2 ^ D * 21 ^ h := by
  obtain ⟨j, rfl⟩ : ∃ j, h = w + j := ⟨h - w, by omega⟩
  have h2 : 2 ^ j ≤ 2 ^ k := Nat.pow_le_pow_right (by omega) (by omega)
  have h3 : 34 ^ j ≤ 42 ^ j := Nat.pow_le_pow_left (by omega) j
  rw [show (42 : Nat) = 2 * 21 from rfl, Nat.mul_pow] at h3
  calc 34 ^ (w + j) = 34 ^ w * 34 ^ j := Nat.pow_add _ _ _
    _ ≤ 34 ^ w * (2 ^ j * 21 ^ j) := Nat.mul_le_mul_left _ h3
    _ = 34 ^ w * 2 ^ j * 21 ^ j := by rw [Nat.mul_assoc]
    _ ≤ 34 ^ w * 2 ^ k * 21 ^ j := Nat.mul_le_mul_right _ (Nat.mul_le_mul_left _ h2)
    _ ≤ 21 ^ w * 2 ^ D * 21 ^ j := Nat.mul_le_mul_right _ h1
    _ = 2 ^ D * 21 ^ (w + j) := by rw [Nat.pow_add]; grind

theorem in_bound {w k D : Nat} {F G : Int} (hk : InK (21 ^ w * (67 * 2 ^ D)) (34 ^ w * F) (34 ^ w * (2 ^ k * G))) (hG : G ≠ 0) : (34 : Nat) ^ w * 2 ^ k ≤ 21 ^ w * 2 ^ D := by
  have hT : (0 : Int) ≤ 21 ^ w * (67 * 2 ^ D) := Int.mul_nonneg (Int.le_of_lt (Int.pow_pos (by omega))) (Int.mul_nonneg (by omega) (Int.le_of_lt (Int.pow_pos (by omega))))
  have c3 := dom_ok hT dom_F.2.2.1 hk
  have c4 := dom_ok hT dom_F.2.2.2 hk
  dsimp only at c3 c4
  have e1 : ((34 ^ w * 2 ^ k : Nat) : Int) = 34 ^ w * 2 ^ k := by simp
  have e2 : ((21 ^ w * 2 ^ D : Nat) : Int) = 21 ^ w * 2 ^ D := by simp
  have hX : (0 : Int) < 34 ^ w * 2 ^ k := Int.mul_pos (Int.pow_pos (by omega)) (Int.pow_pos (by omega))
  rw [← Int.mul_assoc (34 ^ w)] at c3 c4
  rw [show (21 : Int) ^ w * (67 * 2 ^ D) = 67 * (21 ^ w * 2 ^ D) by grind] at c3 c4
  have goal : (34 : Int) ^ w * 2 ^ k ≤ 21 ^ w * 2 ^ D := by
    generalize (34 : Int) ^ w * 2 ^ k = X at *
    generalize (21 : Int) ^ w * 2 ^ D = Y at *
    generalize (34 : Int) ^ w * F = Z at *
    rcases Int.lt_or_le G 0 with h | h
    · have := Int.mul_le_mul_of_nonneg_left (show G ≤ -1 by omega) (show 0 ≤ X by omega)
      rw [show X * -1 = -X by omega] at this
      omega
    · have := Int.mul_le_mul_of_nonneg_left (show 1 ≤ G by omega) (show 0 ≤ X by omega)
      rw [Int.mul_one] at this
      omega
  omega

/-- Behind N steps g is 0. -/
theorem dsts_zero {M a : Int} {D N : Nat} (hM : M % 2 = 1) (h0 : 0 ≤ a) (h1 : a ≤ M) (h2 : M ≤ 2 ^ D) (hN : 2 ^ D * 21 ^ (N / 2) < 34 ^ (N / 2)) : (dsts (1, M, a) N).2.2 = 0 := by
  obtain ⟨w, F, G, hk, hf, hF, hc⟩ := dinv_all hM h0 h1 h2 N
  rcases hc with ⟨k, _, ht, _, rfl⟩ | ⟨k, i, q, hik, _, ht, rfl, _, _, _⟩
  · by_cases hg : (dsts (1, M, a) N).2.2 = 0
    · exact hg
    · have := end_num (in_bound hk hg) (show w ≤ N / 2 by omega) (by omega)
      omega
  · have := end_num (in_bound hk (by intro e; rw [e] at hf; omega)) (show w ≤ N / 2 by omega) (by omega)
    omega

theorem gcd_two {f x : Int} (hf : f % 2 = 1) : Int.gcd f (2 * x) = Int.gcd f x := by
  unfold Int.gcd
  rw [Int.natAbs_mul]
  refine Nat.Coprime.gcd_mul_left_cancel_right _ ?_
  show Nat.gcd 2 f.natAbs = 1
  rw [Nat.gcd_rec, show f.natAbs % 2 = 1 by omega]
  rfl

theorem gcd_step {s : Int × Int × Int} (hf : s.2.1 % 2 = 1) : (dst s).2.1 % 2 = 1 ∧ Int.gcd (dst s).2.1 (dst s).2.2 = Int.gcd s.2.1 s.2.2 := by
  obtain ⟨d, f, g⟩ := s
  dsimp only at hf
  unfold dst
  dsimp only
  split
  · rename_i h
    dsimp only
    refine ⟨h.2, ?_⟩
    rw [← gcd_two h.2, show 2 * ((g - f) / 2) = g - f by omega, Int.gcd_self_sub_right, Int.gcd_comm]
  · rename_i h
    dsimp only
    refine ⟨hf, ?_⟩
    have h01 : g % 2 = 0 ∨ g % 2 = 1 := by omega
    have e : 2 * ((g + g % 2 * f) / 2) = g + g % 2 * f := by
      rcases h01 with h0 | h0
      · rw [h0]; omega
      · rw [h0]; omega
    rw [← gcd_two hf, e, Int.gcd_add_mul_right_right]

theorem gcd_all {s : Int × Int × Int} (hf : s.2.1 % 2 = 1) : ∀ t, (dsts s t).2.1 % 2 = 1 ∧ Int.gcd (dsts s t).2.1 (dsts s t).2.2 = Int.gcd s.2.1 s.2.2
  | 0 => ⟨hf, rfl⟩
  | t + 1 => by
    obtain ⟨h1, h2⟩ := gcd_all hf t
    obtain ⟨h3, h4⟩ := gcd_step h1
    exact ⟨h3, h4.trans h2⟩

/-- Steps of 64 n, for a modulus of n words. -/
def stp (n : Nat) : Nat := (49 * (64 * n) + 57) / 17

theorem stp_ok : ∀ n, n ≤ 130 → 1 ≤ n → 2 ^ (64 * n) * 21 ^ (stp n / 2) < 34 ^ (stp n / 2) := by decide +kernel

/-- Behind Steps of 64 n: g is 0, f is the greatest divisor, or less than 0 by as much. -/
theorem dsts_end {M a n : Nat} (hn : 1 ≤ n) (hn2 : n ≤ 130) (hM : M % 2 = 1) (h1 : a ≤ M) (h2 : M < 2 ^ (64 * n)) :
    (dsts (1, (M : Int), (a : Int)) (stp n)).2.2 = 0 ∧ (dsts (1, (M : Int), (a : Int)) (stp n)).2.1.natAbs = Nat.gcd M a := by
  have hM' : (M : Int) % 2 = 1 := by omega
  have hz := dsts_zero (M := (M : Int)) (a := (a : Int)) (D := 64 * n) (N := stp n) hM' (by omega) (by omega) (by
    have : ((2 ^ (64 * n) : Nat) : Int) = 2 ^ (64 * n) := by simp
    rw [← this]
    omega) (stp_ok n hn2 hn)
  have hg := (gcd_all (s := (1, (M : Int), (a : Int))) hM' (stp n)).2
  rw [hz, Int.gcd_zero_right] at hg
  exact ⟨hz, hg⟩

end Go.Proofs.Ytamkkmifbajdfaa
