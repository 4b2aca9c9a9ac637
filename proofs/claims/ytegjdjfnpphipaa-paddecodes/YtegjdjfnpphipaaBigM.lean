/- Melted of: BigMod BigGcd BigExp BigInv. -/
import Derived.Test.YtegjdjfnpphipaaBigDivMod
import Derived.Test.YtegjdjfnpphipaaBase2
import Derived.Test.YtegjdjfnpphipaaBase3

/- The plain rest, and reckoning with members. -/
namespace Go.Proofs.Ytegjdjfnpphipaa
open Go.RowKit

attribute [local go_sem ↓] Go.wp_at_zero Go.wp_at_succ

end Go.Proofs.Ytegjdjfnpphipaa

/- The plain greatest divisor. -/
namespace Go.Proofs.Ytegjdjfnpphipaa
open Go.RowKit

attribute [local go_sem ↓] Go.wp_at_zero Go.wp_at_succ

theorem Row.inj {k : IntKind} {w : World} {v : Value} {zs ys : List Nat} (h : Row k w v zs) (h' : Row k w v ys) : zs = ys := by
  obtain ⟨ao, cap, e1, _, _, _, h4⟩ := h
  obtain ⟨ao', cap', e2, _, _, _, h4'⟩ := h'
  rw [e1] at e2
  injection e2 with e3 e4 e5
  subst e3
  refine List.ext_getElem e4 ?_
  intro i h1 h2
  obtain ⟨b, off, q1, q2⟩ := h4 i h1
  obtain ⟨b', off', q1', q2'⟩ := h4' i h2
  rw [q1] at q1'
  injection q1' with q3
  injection q3 with q4 q5
  subst q4 q5
  rw [q2] at q2'
  injection q2' with q6
  injection q6 with q7 q8
  have q9 : zs.getD i 0 = ys.getD i 0 := by omega
  rwa [List.getD_eq_getElem?_getD, List.getD_eq_getElem?_getD, List.getElem?_eq_getElem h1, List.getElem?_eq_getElem h2] at q9

theorem IsBig.inj {w : World} {v : Value} {V V' : Nat} (h : IsBig w v V) (h' : IsBig w v V') : V = V' := by
  obtain ⟨ds, h1, _, _, h2, _⟩ := h
  obtain ⟨es, g1, _, _, g2, _⟩ := h'
  rw [← h2, ← g2, h1.inj g1]

/-- The number that a cell holds, 0 where it holds none. -/
def cellN (w : World) (a : Addr) : Nat :=
  match w.cell? a with
  | some (.int _ z) => z.toNat
  | _ => 0

/-- The number that a slice is, 0 where it is none. -/
def bigOf (w : World) : Value → Nat
  | .slice (some a) n _ => val 4294967296 ((List.range n).map fun i => cellN w ⟨a.block, a.off + i, none⟩)
  | _ => 0

theorem IsBig.of {w : World} {v : Value} {V : Nat} (h : IsBig w v V) : bigOf w v = V := by
  obtain ⟨ds, h1, _, _, rfl, _⟩ := h
  obtain ⟨ao, cap, rfl, _, _, _, hc⟩ := h1
  cases ao with
  | none =>
    have : ds = [] := by
      rcases ds with _ | ⟨d, r⟩
      · rfl
      · obtain ⟨b, off, e, _⟩ := hc 0 (by simp)
        cases e
    subst this
    rfl
  | some a =>
    show val 4294967296 ((List.range ds.length).map fun i => cellN w ⟨a.block, a.off + i, none⟩) = _
    congr 1
    refine List.ext_getElem (by simp) (fun i h1 h2 => ?_)
    obtain ⟨b, off, e, hcell⟩ := hc i h2
    cases e
    rw [List.getElem_map, List.getElem_range]
    unfold cellN
    rw [hcell, List.getD_eq_getElem?_getD, List.getElem?_eq_getElem h2]
    simp

/-- A number as a slice: its length is 0 or above it, as the number is. -/
theorem IsBig.length {w : World} {v : Value} {V : Nat} (h : IsBig w v V) : ∃ ao n cap, v = .slice ao n cap ∧ Hid (n = dlen V) ∧ n ≤ 1000000000 := by
  obtain ⟨ds, h1, h2, h3, h4, h5⟩ := h
  obtain ⟨ao, n, cap, e, hN, _⟩ := h1.open
  refine ⟨ao, n, cap, e, ?_, by rw [← hN.out]; exact h5⟩
  have := len_dlen h2 h3
  rw [h4] at this
  unfold Hid
  rw [← this, hN.out]

theorem dlen_pos {A : Nat} (h : 0 < A) : 0 < dlen A := by
  rcases Nat.eq_zero_or_pos (dlen A) with h0 | h0
  · have := (dlen_le A 0).1 (by omega)
    rw [Nat.pow_zero] at this
    omega
  · exact h0

end Go.Proofs.Ytegjdjfnpphipaa

/- The plain power. -/
namespace Go.Proofs.Ytegjdjfnpphipaa
open Go.RowKit

attribute [local go_sem ↓] Go.wp_at_zero Go.wp_at_succ

theorem dlen_mul (A B : Nat) : dlen (A * B) ≤ dlen A + dlen B := by
  have h1 := (dlen_le A _).1 (Nat.le_refl _)
  have h2 := (dlen_le B _).1 (Nat.le_refl _)
  refine (dlen_le _ _).2 ?_
  rw [Nat.pow_add]
  exact Nat.mul_lt_mul'' h1 h2

theorem dlen_rest (A M : Nat) (hM : 0 < M) : dlen (A % M) ≤ dlen M := dlen_mono (Nat.le_of_lt (Nat.mod_lt _ hM))

/-- One bit more of an exponent. -/
theorem exp_even (A E M j : Nat) (hb : E / 2 ^ j % 2 = 0) : (A ^ (E / 2 ^ (j + 1)) % M) * (A ^ (E / 2 ^ (j + 1)) % M) % M = A ^ (E / 2 ^ j) % M := by
  rw [← Nat.mul_mod, ← Nat.pow_add]
  have : E / 2 ^ (j + 1) = E / 2 ^ j / 2 := by rw [Nat.pow_succ, ← Nat.div_div_eq_div_mul]
  rw [this]
  generalize E / 2 ^ j = q at *
  rw [show q / 2 + q / 2 = q by omega]

theorem exp_odd (A E M j : Nat) (hb : E / 2 ^ j % 2 = 1) : ((A ^ (E / 2 ^ (j + 1)) % M) * (A ^ (E / 2 ^ (j + 1)) % M) % M) * (A % M) % M = A ^ (E / 2 ^ j) % M := by
  rw [← Nat.mul_mod (A ^ (E / 2 ^ (j + 1))) (A ^ (E / 2 ^ (j + 1))) M, ← Nat.mul_mod, ← Nat.pow_add, ← Nat.pow_succ]
  have : E / 2 ^ (j + 1) = E / 2 ^ j / 2 := by rw [Nat.pow_succ, ← Nat.div_div_eq_div_mul]
  rw [this]
  generalize E / 2 ^ j = q at *
  rw [show (q / 2 + q / 2).succ = q by omega]

end Go.Proofs.Ytegjdjfnpphipaa

/- The plain inverse. -/
namespace Go.Proofs.Ytegjdjfnpphipaa
open Go.RowKit

attribute [local go_sem ↓] Go.wp_at_zero Go.wp_at_succ

/-- A times T is R, modulo M. -/
def Cong (A M T R : Nat) : Prop := (M : Int) ∣ (A : Int) * T - R

theorem cong_start0 (A M : Nat) : Cong A M 0 M := by
  unfold Cong
  exact ⟨-1, by simp⟩

theorem cong_start1 (A M : Nat) : Cong A M 1 (A % M) := by
  unfold Cong
  refine ⟨((A / M : Nat) : Int), ?_⟩
  have h : ((M * (A / M) + A % M : Nat) : Int) = A := by rw [Nat.div_add_mod]
  rw [Int.natCast_add, Int.natCast_mul] at h
  omega

theorem cong_step {A M T0 T1 R0 R1 : Nat} (h0 : Cong A M T0 R0) (h1 : Cong A M T1 R1) (S : Nat) (hM : 0 < M)
    (hS : S = if R0 / R1 * T1 % M ≤ T0 then T0 - R0 / R1 * T1 % M else T0 + M - R0 / R1 * T1 % M) : Cong A M S (R0 % R1) := by
  unfold Cong at *
  obtain ⟨a, ha⟩ := h0
  obtain ⟨b, hb⟩ := h1
  have hq : ((R1 * (R0 / R1) + R0 % R1 : Nat) : Int) = R0 := by rw [Nat.div_add_mod]
  have hz : ((M * (R0 / R1 * T1 / M) + R0 / R1 * T1 % M : Nat) : Int) = ((R0 / R1 * T1 : Nat) : Int) := by rw [Nat.div_add_mod]
  have hzl := Nat.mod_lt (R0 / R1 * T1) hM
  generalize R0 / R1 * T1 / M = k at *
  generalize hZ : R0 / R1 * T1 % M = Z at *
  clear hZ
  generalize R0 / R1 = q at *
  generalize R0 % R1 = r at *
  push_cast at hq hz
  by_cases hc : Z ≤ T0
  · rw [if_pos hc] at hS
    have hS2 : (S : Int) = T0 - Z := by omega
    refine ⟨a - q * b + A * k, ?_⟩
    rw [hS2]
    grind
  · rw [if_neg hc] at hS
    have hS2 : (S : Int) = T0 + M - Z := by omega
    refine ⟨a - q * b + A * k + A, ?_⟩
    rw [hS2]
    grind

theorem cong_one {A M T : Nat} (h : Cong A M T 1) (hM : 1 < M) : A * T % M = 1 := by
  unfold Cong at h
  obtain ⟨k, hk⟩ := h
  have h1 : ((A * T : Nat) : Int) = M * k + 1 := by push_cast; omega
  have h2 : ((A * T % M : Nat) : Int) = 1 := by
    rw [Int.natCast_emod, h1, Int.add_comm, Int.add_mul_emod_self_left]
    exact Int.emod_eq_of_lt (by omega) (by omega)
  omega

theorem sub_member {T0 Z M : Nat} (h0 : T0 < M) (hz : Z < M) : (if Z ≤ T0 then T0 - Z else T0 + M - Z) < M := by
  split <;> omega

end Go.Proofs.Ytegjdjfnpphipaa
