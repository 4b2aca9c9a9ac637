/- Numbers of layer 10: two's complement, what a step makes of the numbers and of their coefficients, what stands there in the end. -/
import Derived.Test.YtamkkmifbajdfaaRinA
import Derived.Test.YtamkkmifbajdfaaDst2
namespace Go.Proofs.Ytamkkmifbajdfaa

/-- A number that may be below 0, as two's complement has it. -/
def tcN (B : Nat) (x : Int) : Nat := (if x < 0 then (B : Int) + x else x).toNat

theorem tc_lt {B Q : Nat} {x : Int} (h0 : -(Q : Int) < x) (h1 : x < Q) (hB : 4 * Q ≤ B) : tcN B x < B := by
  unfold tcN
  split <;> omega

theorem tc_nat (B x : Nat) : tcN B (x : Int) = x := by
  unfold tcN
  rw [if_neg (by omega)]
  omega

theorem tc_sub {B Q : Nat} {g f : Int} (hg : -(Q : Int) < g ∧ g < Q) (hf : -(Q : Int) < f ∧ f < Q) (hB : 4 * Q ≤ B) : (if tcN B g < tcN B f then tcN B g + B - tcN B f else tcN B g - tcN B f) = tcN B (g - f) := by
  unfold tcN
  split <;> split <;> split <;> split <;> omega

theorem tc_add {B Q : Nat} {g f : Int} (hg : -(Q : Int) < g ∧ g < Q) (hf : -(Q : Int) < f ∧ f < Q) (hB : 4 * Q ≤ B) : (tcN B g + tcN B f) % B = tcN B (g + f) := by
  have h : tcN B g + tcN B f = tcN B (g + f) ∨ tcN B g + tcN B f = tcN B (g + f) + B := by
    unfold tcN
    split <;> split <;> split <;> omega
  have hl : tcN B (g + f) < B := by
    unfold tcN
    split <;> omega
  rcases h with h | h
  · rw [h, Nat.mod_eq_of_lt hl]
  · rw [h, Nat.add_mod_right, Nat.mod_eq_of_lt hl]

theorem tc_odd {B Q : Nat} {g : Int} (hg : -(Q : Int) < g ∧ g < Q) (hB : 4 * Q ≤ B) (h2 : B % 2 = 0) : ((tcN B g % 2 : Nat) : Int) = g % 2 := by
  unfold tcN
  split <;> omega

/-- 1 of a number below 0. -/
def sgN (x : Int) : Nat := if x < 0 then 1 else 0

theorem tc_sign {B H Q : Nat} {x : Int} (hx : -(2 * Q : Int) ≤ x ∧ x < 2 * Q) (hB : B = 2 * H) (hQ : 2 * Q ≤ H) (hH : 0 < H) : tcN B x / H = sgN x := by
  unfold tcN sgN
  split
  · rw [Nat.div_eq_iff hH]; omega
  · rw [Nat.div_eq_of_lt (by omega)]

theorem tc_half {B H Q : Nat} {x : Int} (hx : -(2 * Q : Int) ≤ x ∧ x < 2 * Q) (hB : B = 2 * H) (hQ : 2 * Q ≤ H) : (tcN B x + sgN x % 2 * B) / 2 = tcN B (x / 2) := by
  unfold tcN sgN
  by_cases h : x < 0
  · rw [if_pos h, if_pos h, if_pos (by omega)]; omega
  · rw [if_neg h, if_neg h, if_neg (by omega)]; omega

theorem tc_neg {B Q : Nat} {f : Int} (hf : -(Q : Int) < f ∧ f < Q) (hB : 4 * Q ≤ B) : (if 0 < tcN B f then 0 + B - tcN B f else 0 - tcN B f) = tcN B (-f) := by
  unfold tcN
  split <;> split <;> split <;> omega

/-- What a step picks: 1, if f and g change places. -/
def swN (d g : Int) : Nat := if 0 < d ∧ g % 2 = 1 then 1 else 0

theorem dst_eq (d f g : Int) : dst (d, f, g) = ((if swN d g = 1 then 1 - d else 1 + d), (if swN d g = 1 then g else f), (g + ((g % 2) - 2 * (swN d g : Int)) * f) / 2) := by
  unfold dst swN
  by_cases h : 0 < d ∧ g % 2 = 1
  · rw [if_pos h, if_pos h, if_pos rfl, if_pos rfl, h.2]
    rw [show g + ((1 : Int) - 2 * ((1 : Nat) : Int)) * f = g - f by omega]
  · rw [if_neg h, if_neg h, if_neg (by omega), if_neg (by omega)]
    rw [show g % 2 - 2 * ((0 : Nat) : Int) = g % 2 by omega]

/-- What is known of the steps' numbers ahead of step t, whatever the modulus. -/
def StIn (Q : Nat) (t : Nat) (s : Int × Int × Int) : Prop := (-(t : Int) ≤ s.1 ∧ s.1 ≤ t + 1) ∧ (-(Q : Int) < s.2.1 ∧ s.2.1 < Q) ∧ (-(Q : Int) < s.2.2 ∧ s.2.2 < Q)

theorem StIn.step {Q t : Nat} {s : Int × Int × Int} (h : StIn Q t s) : StIn Q (t + 1) (dst s) := by
  obtain ⟨d, f, g⟩ := s
  unfold StIn dst at *
  dsimp only at h ⊢
  split
  · dsimp only
    omega
  · dsimp only
    have h2 : g % 2 = 0 ∨ g % 2 = 1 := by omega
    rcases h2 with h2 | h2 <;> rw [h2] <;> omega

theorem StIn.all {Q : Nat} {s : Int × Int × Int} (h : StIn Q 0 s) : ∀ t, StIn Q t (dsts s t)
  | 0 => h
  | t + 1 => (StIn.all h t).step

/-- The coefficients: modulo M, f is u times a and g is v times a. -/
def CoOk (M a U V : Nat) (s : Int × Int × Int) : Prop := U < M ∧ V < M ∧ (M : Int) ∣ (U : Int) * a - s.2.1 ∧ (M : Int) ∣ (V : Int) * a - s.2.2

theorem dvd_half {M : Nat} {x : Int} (hM : M % 2 = 1) (h : (M : Int) ∣ 2 * x) : (M : Int) ∣ x := by
  obtain ⟨z, hz⟩ := h
  obtain ⟨q, hq⟩ : ∃ q : Int, (M : Int) = 2 * q + 1 := ⟨(M / 2 : Nat), by omega⟩
  refine ⟨x - q * z, ?_⟩
  rw [Int.mul_sub, show (M : Int) * (q * z) = q * (M * z) by grind, ← hz, hq]
  grind

theorem CoOk.step {M a U V U' V' : Nat} {d f g : Int} (h : CoOk M a U V (d, f, g)) (hM : M % 2 = 1) (hf : f % 2 = 1) (hU : U' = if swN d g = 1 then V else U) (hV : V' < M) (h2 : (M : Int) ∣ 2 * (V' : Int) - (V + ((g % 2) - 2 * (swN d g : Int)) * U)) : CoOk M a U' V' (dst (d, f, g)) := by
  obtain ⟨h1, h3, h4, h5⟩ := h
  dsimp only at h4 h5
  rw [dst_eq]
  refine ⟨?_, hV, ?_, ?_⟩
  · rw [hU]; split <;> assumption
  · dsimp only
    rw [hU]
    split <;> assumption
  · dsimp only
    obtain ⟨c, hc⟩ : ∃ c, c = g % 2 - 2 * (swN d g : Int) := ⟨_, rfl⟩
    rw [← hc] at h2 ⊢
    have he : (g + c * f) % 2 = 0 := by
      have h01 : g % 2 = 0 ∨ g % 2 = 1 := by omega
      have hs : swN d g = 0 ∨ swN d g = 1 := by unfold swN; split <;> omega
      have hc' : (c = 0 ∧ g % 2 = 0) ∨ (c = 1 ∧ g % 2 = 1) ∨ (c = -1 ∧ g % 2 = 1) := by
        unfold swN at hc hs
        by_cases hh : 0 < d ∧ g % 2 = 1
        · rw [if_pos hh] at hc; omega
        · rw [if_neg hh] at hc; omega
      rcases hc' with ⟨rfl, _⟩ | ⟨rfl, _⟩ | ⟨rfl, _⟩ <;> omega
    obtain ⟨G, hG⟩ : ∃ G, G = (g + c * f) / 2 := ⟨_, rfl⟩
    rw [← hG]
    have hG2 : 2 * G = g + c * f := by omega
    apply dvd_half hM
    have e : 2 * ((V' : Int) * a - G) = (2 * (V' : Int) - (V + c * U)) * a + ((V : Int) * a - g) + c * ((U : Int) * a - f) := by
      have : 2 * ((V' : Int) * a - G) = 2 * (V' : Int) * a - 2 * G := by grind
      rw [this, hG2]
      grind
    rw [e]
    exact Int.dvd_add (Int.dvd_add (Int.dvd_mul_of_dvd_left h2) h5) (Int.dvd_mul_of_dvd_right h4)

/-- What the coefficient v becomes in a step: the landed reckoning, letter by letter. -/
theorem co_num {n Q M U V sw od x L b D W ov S E o3 V' : Nat} (hQ : Q = 2 ^ (64 * n)) (hM : M < Q) (h2 : M % 2 = 1) (hU : U < M) (hV : V < M) (hso : (sw = 1 ∧ od = 1 ∧ x = 0) ∨ (sw = 0 ∧ od = 1 ∧ x = 1) ∨ (sw = 0 ∧ od = 0 ∧ x = 0))
    (hL : L = selN sw (subN V U n) V) (hb : b = selN sw (oneN (decide (V < U))) 0) (hD : D = selN b (L + M) L % Q) (hW : W = selN x (D + U) D % Q) (ho : ov = selN x (oneN (decide (Q ≤ D + U))) 0)
    (hS : S = lesY W M ov n) (hE : E = selN (S % 2) (S + M) S % Q) (h3 : o3 = selN (S % 2) (oneN (decide (Q ≤ S + M))) 0) (hV' : V' = (E + o3 % 2 * Q) / 2) :
    V' < M ∧ (M : Int) ∣ 2 * (V' : Int) - (V + ((od : Int) - 2 * (sw : Int)) * U) := by
  have fD : D = if sw = 1 then subM V U M else V := by
    unfold selN subN oneN at *
    unfold subM
    rw [← hQ] at hL
    rcases hso with ⟨rfl, _, _⟩ | ⟨rfl, _, _⟩ | ⟨rfl, _, _⟩
    · rw [if_pos rfl] at hL hb ⊢
      by_cases h : V < U
      · rw [if_pos h] at hL
        rw [decide_eq_true h, if_pos rfl] at hb
        rw [hb, if_pos rfl, hL, show V + Q - U + M = (V + M - U) + Q by omega, Nat.add_mod_right, Nat.mod_eq_of_lt (by omega)] at hD
        rw [if_neg (by omega), hD]
      · rw [if_neg h] at hL
        rw [decide_eq_false h, if_neg (by decide)] at hb
        rw [hb, if_neg (by decide), hL, Nat.mod_eq_of_lt (by omega)] at hD
        rw [if_pos (by omega), hD]
    · rw [if_neg (by decide)] at hL hb ⊢
      rw [hb, if_neg (by decide), hL, Nat.mod_eq_of_lt (by omega)] at hD
      exact hD
    · rw [if_neg (by decide)] at hL hb ⊢
      rw [hb, if_neg (by decide), hL, Nat.mod_eq_of_lt (by omega)] at hD
      exact hD
  have lD : D < M := by
    rw [fD]
    unfold subM
    split
    · split <;> omega
    · exact hV
  have hx : x = 0 ∨ x = 1 := by omega
  have fS : S < M ∧ (S = D + x * U ∨ S + M = D + x * U) := by
    have hS0 : lesT W M ov = 0 → S = W := fun h => by rw [hS]; unfold lesY selN; rw [h]; rfl
    have hS1 : lesT W M ov = 1 → S = if W < M then W + Q - M else W - M := fun h => by rw [hS]; unfold lesY selN subN; rw [h, ← hQ]; rfl
    have t0 : ¬ (ov = 1 ∨ M ≤ W) → lesT W M ov = 0 := fun h => if_neg h
    have t1 : (ov = 1 ∨ M ≤ W) → lesT W M ov = 1 := fun h => if_pos h
    unfold selN at hW ho
    unfold oneN at ho
    rcases hx with rfl | rfl
    · rw [if_neg (by decide)] at hW ho
      rw [Nat.mod_eq_of_lt (by omega)] at hW
      have := hS0 (t0 (by omega))
      omega
    · rw [if_pos rfl] at hW ho
      by_cases h : Q ≤ D + U
      · rw [decide_eq_true h, if_pos rfl] at ho
        have hW' : W = D + U - Q := by
          rw [hW, show D + U = (D + U - Q) + Q by omega, Nat.add_mod_right, Nat.mod_eq_of_lt (by omega)]
          omega
        have := hS1 (t1 (.inl ho))
        rw [if_pos (by omega)] at this
        omega
      · rw [decide_eq_false h, if_neg (by decide)] at ho
        rw [Nat.mod_eq_of_lt (by omega)] at hW
        by_cases hh : M ≤ D + U
        · have := hS1 (t1 (.inr (by omega)))
          rw [if_neg (by omega)] at this
          omega
        · have := hS0 (t0 (by omega))
          omega
  have fV : V' = halfM S M := by
    unfold halfM selN oneN at *
    by_cases hs : S % 2 = 1
    · rw [hs, if_pos rfl] at hE h3
      rw [if_pos hs]
      by_cases h : Q ≤ S + M
      · rw [decide_eq_true h, if_pos rfl] at h3
        have hE' : E = S + M - Q := by
          rw [hE, show S + M = (S + M - Q) + Q by omega, Nat.add_mod_right, Nat.mod_eq_of_lt (by omega)]
          omega
        rw [hV', hE', h3]
        omega
      · rw [decide_eq_false h, if_neg (by decide)] at h3
        rw [Nat.mod_eq_of_lt (by omega)] at hE
        rw [hV', hE, h3]
        omega
    · have hs0 : S % 2 = 0 := by omega
      rw [hs0, if_neg (by decide)] at hE h3
      rw [if_neg hs]
      rw [Nat.mod_eq_of_lt (by omega)] at hE
      rw [hV', hE, h3]
      omega
  have f2 : V' < M ∧ (2 * V' = S ∨ 2 * V' = S + M) := by
    rw [fV]
    unfold halfM
    split <;> omega
  refine ⟨f2.1, ?_⟩
  have f3 : ∃ k : Int, (D : Int) + x * U = V + ((od : Int) - 2 * (sw : Int)) * U + k * M := by
    rw [fD]
    unfold subM
    rcases hso with ⟨rfl, rfl, rfl⟩ | ⟨rfl, rfl, rfl⟩ | ⟨rfl, rfl, rfl⟩
    · rw [if_pos rfl]
      by_cases h : U ≤ V
      · rw [if_pos h]; exact ⟨0, by omega⟩
      · rw [if_neg h]; exact ⟨1, by omega⟩
    · rw [if_neg (by decide)]; exact ⟨0, by omega⟩
    · rw [if_neg (by decide)]; exact ⟨0, by omega⟩
  obtain ⟨k, hk⟩ := f3
  have hxU : ((x * U : Nat) : Int) = x * U := by simp
  generalize (od : Int) - 2 * (sw : Int) = c at *
  generalize c * (U : Int) = cU at *
  generalize (x : Int) * (U : Int) = xI at *
  generalize x * U = xU at *
  rcases f2.2 with e | e
  · rcases fS.2 with e2 | e2
    · exact ⟨k, by rw [Int.mul_comm (M : Int)]; omega⟩
    · exact ⟨k - 1, by rw [Int.mul_comm (M : Int), Int.sub_mul]; omega⟩
  · rcases fS.2 with e2 | e2
    · exact ⟨k + 1, by rw [Int.mul_comm (M : Int), Int.add_mul]; omega⟩
    · exact ⟨k, by rw [Int.mul_comm (M : Int)]; omega⟩

/-- The end: what stands there is the inverse, if there is one. -/
theorem inv_fin {M a U : Nat} {d F G : Int} {V : Nat} (h : CoOk M a U V (d, F, G)) (hM : 2 ≤ M) (hF : F.natAbs = 1) : (if F < 0 then subM 0 U M else U) < M ∧ a * (if F < 0 then subM 0 U M else U) % M = 1 := by
  obtain ⟨h1, _, h3, _⟩ := h
  dsimp only at h3
  obtain ⟨k, hk⟩ := h3
  by_cases hn : F < 0
  · obtain rfl : F = -1 := by omega
    rw [if_pos hn]
    unfold subM
    by_cases h0 : U ≤ 0
    · obtain rfl : U = 0 := by omega
      exfalso
      rw [show ((0 : Nat) : Int) * (a : Int) - (-1) = 1 by omega] at hk
      have : (M : Int) ∣ 1 := ⟨k, hk⟩
      have := Int.le_of_dvd (by omega) this
      omega
    · rw [if_neg h0]
      refine ⟨by omega, ?_⟩
      have e : ((a * (0 + M - U) : Nat) : Int) = 1 + M * (a - k) := by
        rw [show 0 + M - U = M - U by omega, Int.natCast_mul, Int.natCast_sub (by omega), Int.mul_sub, Int.mul_sub, ← hk]
        grind
      have e2 : ((a * (0 + M - U) % M : Nat) : Int) = 1 := by
        rw [Int.natCast_emod, e, Int.add_mul_emod_self_left, Int.emod_eq_of_lt (by omega) (by omega)]
      omega
  · obtain rfl : F = 1 := by omega
    rw [if_neg hn]
    refine ⟨h1, ?_⟩
    have e : ((a * U : Nat) : Int) = 1 + M * k := by
      rw [Int.natCast_mul, ← hk]
      grind
    have e2 : ((a * U % M : Nat) : Int) = 1 := by
      rw [Int.natCast_emod, e, Int.add_mul_emod_self_left, Int.emod_eq_of_lt (by omega) (by omega)]
    omega

end Go.Proofs.Ytamkkmifbajdfaa
