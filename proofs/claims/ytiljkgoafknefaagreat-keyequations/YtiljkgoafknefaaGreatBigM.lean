/- Melted of: BigMod BigGcd BigExp BigInv. -/
import Derived.Test.YtiljkgoafknefaaGreatBigDivMod
import Derived.Test.YtiljkgoafknefaaGreatBase2
import Derived.Test.YtiljkgoafknefaaGreatBase3

/- The plain rest, and reckoning with members. -/
namespace Go.Proofs.YtiljkgoafknefaaGreat
open Go.RowKit

attribute [local go_sem ↓] Go.wp_at_zero Go.wp_at_succ

theorem rMod (u v : Value) (A M : Nat) (w : World) (hu : IsBig w u A) (hv : IsBig w v M) (hM : 0 < M) (hla : dlen A ≤ 10000000) :
    Calls Tryz.prog 27 #[u, v] w fun r w' => ∃ v', r = .returned v' ∧ IsBig w' v' (A % M) ∧ (∀ b, v'.ownBlock = some b → u.ownBlock = some b ∨ w.heap.size ≤ b) ∧ Kept Nought w w' := by
  have hD := rDivMod u v A M w hu hv hM hla
  clear hu hv hM hla
  go_enter Tryz.func27, Tryz.ntmps27
  go_wp2_with fail
  refine hD.mono ?_
  rintro e w1 ⟨v1, v2, rfl, b1, b2, o1, o2, k⟩
  go_wp2
  go_ret
  exact ⟨v2, rfl, b2, o2, k⟩

theorem rMulMod (u v m : Value) (A B M : Nat) (w : World) (hu : IsBig w u A) (hv : IsBig w v B) (hm : IsBig w m M) (hM : 0 < M) (hla : dlen A ≤ 100000000) (hlb : dlen B ≤ 100000000) (hab : dlen (A * B) ≤ 10000000) :
    Calls Tryz.prog 29 #[u, v, m] w fun r w' => ∃ v', r = .returned v' ∧ IsBig w' v' (A * B % M) ∧ (∀ b, v'.ownBlock = some b → w.heap.size ≤ b) ∧ Kept Nought w w' := by
  have hD := rMul u v A B w hu hv hla hlb
  clear hu hv hla hlb
  go_enter Tryz.func29, Tryz.ntmps29
  go_wp2_with fail
  refine hD.mono ?_
  rintro e w1 ⟨v1, rfl, b1, o1, k1⟩
  go_wp2_with fail
  refine (rMod v1 m (A * B) M w1 b1 (hm.grew k1) hM hab).mono ?_
  rintro e w2 ⟨v2, rfl, b2, o2, k2⟩
  go_wp2
  go_ret
  exact ⟨v2, rfl, b2, fun b hb => (o2 b hb).elim (fun h => o1 b h) (fun h => Nat.le_trans k1.size h), k1.trans k2⟩

/-- of two members, A - B modulo M -/
theorem rSubMod (u v m : Value) (A B M : Nat) (w : World) (hu : IsBig w u A) (hv : IsBig w v B) (hm : IsBig w m M) (hB : B ≤ A + M) (hla : dlen A ≤ 100000000) (hlb : dlen M ≤ 100000000) :
    Calls Tryz.prog 80 #[u, v, m] w fun r w' => ∃ v', r = .returned v' ∧ IsBig w' v' (if B ≤ A then A - B else A + M - B) ∧ (∀ b, v'.ownBlock = some b → w.heap.size ≤ b) ∧ Kept Nought w w' := by
  have hC := rCmp u v A B w hu hv
  by_cases hlt : A < B
  · rw [cmpN_lt hlt] at hC
    rw [if_neg (by omega)]
    clear hlt
    go_enter Tryz.func80, Tryz.ntmps80
    go_wp2_with fail
    refine hC.mono ?_
    rintro e w1 ⟨rfl, n1, rfl⟩
    have k1 : Kept Nought w (w.drewN n1) := (Kept.refl _ _).drewN n1
    go_wp2_with fail
    refine (rAdd u m A M _ (hu.grew k1) (hm.grew k1) hla hlb).mono ?_
    rintro e w2 ⟨v2, rfl, b2, o2, k2⟩
    have k12 := k1.trans k2
    go_wp2_with fail
    refine (rSub v2 v (A + M) B _ b2 (hv.grew k12) hB).mono ?_
    rintro e w3 ⟨v3, rfl, b3, o3, k3⟩
    go_wp2
    go_ret
    exact ⟨v3, rfl, b3, fun b hb => Nat.le_trans k12.size (o3 b hb), k12.trans k3⟩
  · have hcc : ¬ cmpN A B < 0 := by unfold cmpN; rw [if_neg hlt]; split <;> decide
    have hle : B ≤ A := by omega
    rw [if_pos hle]
    obtain ⟨cc, hcc2⟩ : ∃ cc, cc = cmpN A B := ⟨_, rfl⟩
    rw [← hcc2] at hC hcc
    clear hcc2 hlt
    go_enter Tryz.func80, Tryz.ntmps80
    go_wp2_with fail
    refine hC.mono ?_
    rintro e w1 ⟨rfl, n1, rfl⟩
    have k1 : Kept Nought w (w.drewN n1) := (Kept.refl _ _).drewN n1
    go_wp2_with fail
    refine (rSub u v A B _ (hu.grew k1) (hv.grew k1) hle).mono ?_
    rintro e w3 ⟨v3, rfl, b3, o3, k3⟩
    go_wp2
    go_ret
    exact ⟨v3, rfl, b3, fun b hb => Nat.le_trans k1.size (o3 b hb), k1.trans k3⟩

end Go.Proofs.YtiljkgoafknefaaGreat

/- The plain greatest divisor. -/
namespace Go.Proofs.YtiljkgoafknefaaGreat
open Go.RowKit

attribute [local go_sem ↓] Go.wp_at_zero Go.wp_at_succ

theorem Row.inj {k : IntKind} {w : World} {v : Value} {zs ys : List Nat} (h : Row k w v zs) (h' : Row k w v ys) : zs = ys := by
  obtain ⟨ao, cap, e1, _, _, _, h4⟩ := h
  obtain ⟨ao', cap', e2, _, _, _, h4'⟩ := h'
  rw [e1] at e2
  injection e2 with e3 e4 e5
  subst e3
  refine List.ext_getElem e4 ?_
  intro i h1 h2
  obtain ⟨b, off, q1, q2⟩ := h4 i h1
  obtain ⟨b', off', q1', q2'⟩ := h4' i h2
  rw [q1] at q1'
  injection q1' with q3
  injection q3 with q4 q5
  subst q4 q5
  rw [q2] at q2'
  injection q2' with q6
  injection q6 with q7 q8
  have q9 : zs.getD i 0 = ys.getD i 0 := by omega
  rwa [List.getD_eq_getElem?_getD, List.getD_eq_getElem?_getD, List.getElem?_eq_getElem h1, List.getElem?_eq_getElem h2] at q9

theorem IsBig.inj {w : World} {v : Value} {V V' : Nat} (h : IsBig w v V) (h' : IsBig w v V') : V = V' := by
  obtain ⟨ds, h1, _, _, h2, _⟩ := h
  obtain ⟨es, g1, _, _, g2, _⟩ := h'
  rw [← h2, ← g2, h1.inj g1]

/-- The number that a cell holds, 0 where it holds none. -/
def cellN (w : World) (a : Addr) : Nat :=
  match w.cell? a with
  | some (.int _ z) => z.toNat
  | _ => 0

/-- The number that a slice is, 0 where it is none. -/
def bigOf (w : World) : Value → Nat
  | .slice (some a) n _ => val 4294967296 ((List.range n).map fun i => cellN w ⟨a.block, a.off + i, none⟩)
  | _ => 0

theorem IsBig.of {w : World} {v : Value} {V : Nat} (h : IsBig w v V) : bigOf w v = V := by
  obtain ⟨ds, h1, _, _, rfl, _⟩ := h
  obtain ⟨ao, cap, rfl, _, _, _, hc⟩ := h1
  cases ao with
  | none =>
    have : ds = [] := by
      rcases ds with _ | ⟨d, r⟩
      · rfl
      · obtain ⟨b, off, e, _⟩ := hc 0 (by simp)
        cases e
    subst this
    rfl
  | some a =>
    show val 4294967296 ((List.range ds.length).map fun i => cellN w ⟨a.block, a.off + i, none⟩) = _
    congr 1
    refine List.ext_getElem (by simp) (fun i h1 h2 => ?_)
    obtain ⟨b, off, e, hcell⟩ := hc i h2
    cases e
    rw [List.getElem_map, List.getElem_range]
    unfold cellN
    rw [hcell, List.getD_eq_getElem?_getD, List.getElem?_eq_getElem h2]
    simp

/-- A number as a slice: its length is 0 or above it, as the number is. -/
theorem IsBig.length {w : World} {v : Value} {V : Nat} (h : IsBig w v V) : ∃ ao n cap, v = .slice ao n cap ∧ Hid (n = dlen V) ∧ n ≤ 1000000000 := by
  obtain ⟨ds, h1, h2, h3, h4, h5⟩ := h
  obtain ⟨ao, n, cap, e, hN, _⟩ := h1.open
  refine ⟨ao, n, cap, e, ?_, by rw [← hN.out]; exact h5⟩
  have := len_dlen h2 h3
  rw [h4] at this
  unfold Hid
  rw [← this, hN.out]

theorem dlen_pos {A : Nat} (h : 0 < A) : 0 < dlen A := by
  rcases Nat.eq_zero_or_pos (dlen A) with h0 | h0
  · have := (dlen_le A 0).1 (by omega)
    rw [Nat.pow_zero] at this
    omega
  · exact h0

set_option maxHeartbeats 400000 in
theorem rGcd (u v : Value) (A B : Nat) (w : World) (hu : IsBig w u A) (hv : IsBig w v B) (hla : dlen A ≤ 10000000) (hlb : dlen B ≤ 10000000) :
    Calls Tryz.prog 47 #[u, v] w fun r w' => ∃ v', r = .returned v' ∧ IsBig w' v' (Nat.gcd A B) ∧ (∀ b, v'.ownBlock = some b → u.ownBlock = some b ∨ v.ownBlock = some b ∨ w.heap.size ≤ b) ∧ Kept Nought w w' := by
  go_enter Tryz.func47, Tryz.ntmps47
  go_wp2_with fail
  go_loopw [0, 1] (fun a b wr => ∃ (C D : Nat), IsBig wr a C ∧ IsBig wr b D ∧ Hid (Nat.gcd C D = Nat.gcd A B) ∧ Hid (dlen C ≤ 10000000) ∧ Hid (dlen D ≤ 10000000) ∧ Hid (∀ x, a.ownBlock = some x → u.ownBlock = some x ∨ v.ownBlock = some x ∨ w.heap.size ≤ x) ∧ Hid (∀ x, b.ownBlock = some x → u.ownBlock = some x ∨ v.ownBlock = some x ∨ w.heap.size ≤ x) ∧ Kept Nought w wr) (fun _ b wr => bigOf wr b)
  case atStart => exact ⟨A, B, hu, hv, rfl, hla, hlb, fun x h => .inl h, fun x h => .inr (.inl h), Kept.refl _ _⟩
  case round =>
    clear hu hv hla hlb
    obtain ⟨C, D, hc, hd, hg, lc, ld, oc, od, hk⟩ := hrel
    obtain ⟨ao, n, cap, rfl, hn, hn9⟩ := hd.length
    rcases Nat.eq_zero_or_pos D with h0 | h0
    · have hn0 : n = 0 := by rw [hn.out, h0]; rfl
      subst hn0
      have hg2 : Hid (C = Nat.gcd A B) := by have := hg.out; rw [h0, Nat.gcd_zero_right] at this; exact this
      clear hg h0 hn
      go_wp2
      go_ret
      exact ⟨_, rfl, by rw [← hg2.out]; exact hc, oc.out, hk⟩
    · have hn1 : 0 < n := by rw [hn.out]; exact dlen_pos h0
      have hM := rMod _ _ C D wr hc hd h0 lc.out
      have hlt := Nat.mod_lt C h0
      have hof := hd.of
      go_wp2_with fail
      refine hM.mono ?_
      rintro e w1 ⟨v1, rfl, b1, o1, k1⟩
      go_wp2
      go_roundw
      case rel => exact ⟨D, C % D, hd.grew k1, b1, by unfold Hid; rw [← hg.out, Nat.gcd_comm D, ← Nat.gcd_rec, Nat.gcd_comm], ld, Nat.le_trans (dlen_mono (Nat.mod_le _ _)) lc.out, od, fun x hx => (o1 x hx).elim (oc.out x) (fun h => .inr (.inr (Nat.le_trans hk.size h))), hk.trans k1⟩
      case measure => rw [b1.of, hof]; exact hlt

end Go.Proofs.YtiljkgoafknefaaGreat

/- The plain power. -/
namespace Go.Proofs.YtiljkgoafknefaaGreat
open Go.RowKit

attribute [local go_sem ↓] Go.wp_at_zero Go.wp_at_succ

theorem dlen_mul (A B : Nat) : dlen (A * B) ≤ dlen A + dlen B := by
  have h1 := (dlen_le A _).1 (Nat.le_refl _)
  have h2 := (dlen_le B _).1 (Nat.le_refl _)
  refine (dlen_le _ _).2 ?_
  rw [Nat.pow_add]
  exact Nat.mul_lt_mul'' h1 h2

theorem dlen_rest (A M : Nat) (hM : 0 < M) : dlen (A % M) ≤ dlen M := dlen_mono (Nat.le_of_lt (Nat.mod_lt _ hM))

/-- One bit more of an exponent. -/
theorem exp_even (A E M j : Nat) (hb : E / 2 ^ j % 2 = 0) : (A ^ (E / 2 ^ (j + 1)) % M) * (A ^ (E / 2 ^ (j + 1)) % M) % M = A ^ (E / 2 ^ j) % M := by
  rw [← Nat.mul_mod, ← Nat.pow_add]
  have : E / 2 ^ (j + 1) = E / 2 ^ j / 2 := by rw [Nat.pow_succ, ← Nat.div_div_eq_div_mul]
  rw [this]
  generalize E / 2 ^ j = q at *
  rw [show q / 2 + q / 2 = q by omega]

theorem exp_odd (A E M j : Nat) (hb : E / 2 ^ j % 2 = 1) : ((A ^ (E / 2 ^ (j + 1)) % M) * (A ^ (E / 2 ^ (j + 1)) % M) % M) * (A % M) % M = A ^ (E / 2 ^ j) % M := by
  rw [← Nat.mul_mod (A ^ (E / 2 ^ (j + 1))) (A ^ (E / 2 ^ (j + 1))) M, ← Nat.mul_mod, ← Nat.pow_add, ← Nat.pow_succ]
  have : E / 2 ^ (j + 1) = E / 2 ^ j / 2 := by rw [Nat.pow_succ, ← Nat.div_div_eq_div_mul]
  rw [this]
  generalize E / 2 ^ j = q at *
  rw [show (q / 2 + q / 2).succ = q by omega]

end Go.Proofs.YtiljkgoafknefaaGreat

/- The plain inverse. -/
namespace Go.Proofs.YtiljkgoafknefaaGreat
open Go.RowKit

attribute [local go_sem ↓] Go.wp_at_zero Go.wp_at_succ

/-- A times T is R, modulo M. -/
def Cong (A M T R : Nat) : Prop := (M : Int) ∣ (A : Int) * T - R

theorem cong_start0 (A M : Nat) : Cong A M 0 M := by
  unfold Cong
  exact ⟨-1, by simp⟩

theorem cong_start1 (A M : Nat) : Cong A M 1 (A % M) := by
  unfold Cong
  refine ⟨((A / M : Nat) : Int), ?_⟩
  have h : ((M * (A / M) + A % M : Nat) : Int) = A := by rw [Nat.div_add_mod]
  rw [Int.natCast_add, Int.natCast_mul] at h
  omega

theorem cong_step {A M T0 T1 R0 R1 : Nat} (h0 : Cong A M T0 R0) (h1 : Cong A M T1 R1) (S : Nat) (hM : 0 < M)
    (hS : S = if R0 / R1 * T1 % M ≤ T0 then T0 - R0 / R1 * T1 % M else T0 + M - R0 / R1 * T1 % M) : Cong A M S (R0 % R1) := by
  unfold Cong at *
  obtain ⟨a, ha⟩ := h0
  obtain ⟨b, hb⟩ := h1
  have hq : ((R1 * (R0 / R1) + R0 % R1 : Nat) : Int) = R0 := by rw [Nat.div_add_mod]
  have hz : ((M * (R0 / R1 * T1 / M) + R0 / R1 * T1 % M : Nat) : Int) = ((R0 / R1 * T1 : Nat) : Int) := by rw [Nat.div_add_mod]
  have hzl := Nat.mod_lt (R0 / R1 * T1) hM
  generalize R0 / R1 * T1 / M = k at *
  generalize hZ : R0 / R1 * T1 % M = Z at *
  clear hZ
  generalize R0 / R1 = q at *
  generalize R0 % R1 = r at *
  push_cast at hq hz
  by_cases hc : Z ≤ T0
  · rw [if_pos hc] at hS
    have hS2 : (S : Int) = T0 - Z := by omega
    refine ⟨a - q * b + A * k, ?_⟩
    rw [hS2]
    grind
  · rw [if_neg hc] at hS
    have hS2 : (S : Int) = T0 + M - Z := by omega
    refine ⟨a - q * b + A * k + A, ?_⟩
    rw [hS2]
    grind

theorem cong_one {A M T : Nat} (h : Cong A M T 1) (hM : 1 < M) : A * T % M = 1 := by
  unfold Cong at h
  obtain ⟨k, hk⟩ := h
  have h1 : ((A * T : Nat) : Int) = M * k + 1 := by push_cast; omega
  have h2 : ((A * T % M : Nat) : Int) = 1 := by
    rw [Int.natCast_emod, h1, Int.add_comm, Int.add_mul_emod_self_left]
    exact Int.emod_eq_of_lt (by omega) (by omega)
  omega

theorem sub_member {T0 Z M : Nat} (h0 : T0 < M) (hz : Z < M) : (if Z ≤ T0 then T0 - Z else T0 + M - Z) < M := by
  split <;> omega

set_option maxHeartbeats 600000 in
theorem rInverse (u m : Value) (A M : Nat) (w : World) (hu : IsBig w u A) (hm : IsBig w m M) (hM : 1 < M) (hla : dlen A ≤ 10000000) (hlm : dlen M ≤ 1000000) :
    Calls Tryz.prog 50 #[u, m] w fun r w' => ∃ v', r = .returned (.tuple #[v', .bool (decide (Nat.gcd A M = 1))]) ∧ (Nat.gcd A M = 1 → ∃ T, T < M ∧ A * T % M = 1 ∧ IsBig w' v' T) ∧ (Nat.gcd A M ≠ 1 → v' = .slice none 0 0) ∧ (∀ b, v'.ownBlock = some b → w.heap.size ≤ b) ∧ Kept Nought w w' := by
  have hD := rMod u m A M w hu hm (by omega) hla
  have hS := fun W => rSmall 1 (by omega) W
  clear hu hla
  have hgc : Hid (Nat.gcd M (A % M) = Nat.gcd A M) := by unfold Hid; rw [Nat.gcd_comm M, ← Nat.gcd_rec, Nat.gcd_comm]
  go_enter Tryz.func50, Tryz.ntmps50
  go_wp2_with fail
  refine hD.mono ?_
  rintro e w1 ⟨v1, rfl, b1, o1, k1⟩
  clear hD
  go_wp2_with fail
  refine (hS _).mono ?_
  rintro e w2 ⟨v2, rfl, b2, o2, k2⟩
  have k12 := k1.trans k2
  go_wp2_with fail
  go_loopw [6, 7, 8, 9] (fun r0 r1 t0 t1 wr => ∃ (R0 R1 T0 T1 : Nat), IsBig wr r0 R0 ∧ IsBig wr r1 R1 ∧ IsBig wr t0 T0 ∧ IsBig wr t1 T1 ∧ Hid (Nat.gcd R0 R1 = Nat.gcd A M) ∧ Hid (R1 < R0) ∧ Hid (R0 ≤ M) ∧ Hid (T0 < M) ∧ Hid (T1 < M) ∧ Hid (Cong A M T0 R0) ∧ Hid (Cong A M T1 R1) ∧ Hid (∀ x, t0.ownBlock = some x → w.heap.size ≤ x) ∧ Hid (∀ x, t1.ownBlock = some x → w.heap.size ≤ x) ∧ Kept Nought w2 wr) (fun _ b _ _ wr => bigOf wr b)
  case atStart => exact ⟨M, A % M, 0, 1, hm.grew k12, b1.grew k2, IsBig.nil _, b2, hgc, Nat.mod_lt _ (by omega), Nat.le_refl _, by unfold Hid; omega, hM, cong_start0 A M, cong_start1 A M, fun x h => (by cases h), fun x h => Nat.le_trans k1.size (o2 x h), Kept.refl _ _⟩
  case round =>
    clear b1 o1 b2 o2 k1 k2 hgc
    obtain ⟨R0, R1, T0, T1, c0, c1, d0, d1, hg, hlt, hle, l0, l1, g0, g1, x0, x1, hk⟩ := hrel
    have KW := k12.trans hk
    obtain ⟨ao, n, cap, rfl, hn, hn9⟩ := c1.length
    rcases Nat.eq_zero_or_pos R1 with h0 | h0
    · have hn0 : n = 0 := by rw [hn.out, h0]; rfl
      subst hn0
      have hg2 : Hid (R0 = Nat.gcd A M) := by have := hg.out; rw [h0, Nat.gcd_zero_right] at this; exact this
      clear hg h0 hn g1 c1 d1 hlt hle l1 x1
      have hC := fun W v (hk : Kept Nought wr W) (hv : IsBig W v 1) => rCmp _ v R0 1 W (c0.grew hk) hv
      by_cases h1 : R0 = 1
      · have hc1 : cmpN R0 1 = 0 := by rw [h1]; rfl
        rw [hc1] at hC
        have hgg : Nat.gcd A M = 1 := by rw [← hg2.out]; exact h1
        rw [h1] at g0
        have hT : Hid (A * T0 % M = 1) := cong_one g0.out hM
        have HG : Hid (Nat.gcd A M = 1) := hgg
        clear hgg hg2 g0 hc1 h1 c0
        go_wp2_with fail
        refine (hS _).mono ?_
        rintro e w3 ⟨v3, rfl, b3, o3, k3⟩
        go_wp2_with fail
        refine (hC _ _ k3 b3).mono ?_
        rintro e w4 ⟨rfl, n4, rfl⟩
        have k4 : Kept Nought w3 (w3.drewN n4) := (Kept.refl _ _).drewN n4
        go_wp2
        go_ret2
        exact ⟨_, by rw [decide_eq_true HG.out]; rfl, fun _ => ⟨T0, l0.out, hT.out, d0.grew (k3.trans k4)⟩, fun h => absurd HG.out h, x0.out, KW.trans (k3.trans k4)⟩
      · have hc1 : cmpN R0 1 ≠ 0 := by
          unfold cmpN
          by_cases ha : R0 < 1
          · rw [if_pos ha]; decide
          · rw [if_neg ha]
            first
              | (rw [if_pos (show 1 < R0 by omega)]; decide)
              | (rw [if_neg (show ¬ R0 = 1 from h1)]; decide)
        obtain ⟨cc, hcc⟩ : ∃ cc, cc = cmpN R0 1 := ⟨_, rfl⟩
        rw [← hcc] at hC hc1
        have HG : Hid (Nat.gcd A M ≠ 1) := by unfold Hid; rw [← hg2.out]; exact h1
        clear hg2 g0 hcc h1 c0 d0 l0 x0
        go_wp2_with fail
        refine (hS _).mono ?_
        rintro e w3 ⟨v3, rfl, b3, o3, k3⟩
        go_wp2_with fail
        refine (hC _ _ k3 b3).mono ?_
        rintro e w4 ⟨rfl, n4, rfl⟩
        have k4 : Kept Nought w3 (w3.drewN n4) := (Kept.refl _ _).drewN n4
        go_wp2
        go_ret2
        exact ⟨.slice none 0 0, by rw [decide_eq_false HG.out]; rfl, fun h => absurd h HG.out, fun _ => rfl, fun b hb => (by cases hb), KW.trans (k3.trans k4)⟩
    · have hn1 : 0 < n := by rw [hn.out]; exact dlen_pos h0
      have hD := rDivMod _ _ R0 R1 wr c0 c1 h0 (Nat.le_trans (dlen_mono hle.out) (by omega))
      have hmod := Nat.mod_lt R0 h0
      have hof := c1.of
      have hQ : R0 / R1 ≤ M := Nat.le_trans (Nat.div_le_self _ _) hle.out
      have q1 : dlen (R0 / R1) ≤ 1000000 := Nat.le_trans (dlen_mono hQ) hlm
      have q2 : dlen T1 ≤ 1000000 := Nat.le_trans (dlen_mono (Nat.le_of_lt l1.out)) hlm
      have q3 : dlen T0 ≤ 1000000 := Nat.le_trans (dlen_mono (Nat.le_of_lt l0.out)) hlm
      have q4 := dlen_mul (R0 / R1) T1
      obtain ⟨S, hSd⟩ : ∃ S, S = if R0 / R1 * T1 % M ≤ T0 then T0 - R0 / R1 * T1 % M else T0 + M - R0 / R1 * T1 % M := ⟨_, rfl⟩
      have gS : Hid (Cong A M S (R0 % R1)) := cong_step g0.out g1.out S (by omega) hSd
      have hzl := Nat.mod_lt (R0 / R1 * T1) (show M > 0 by omega)
      have lS : Hid (S < M) := by unfold Hid; rw [hSd]; exact sub_member l0.out hzl
      have hg3 : Hid (Nat.gcd R1 (R0 % R1) = Nat.gcd A M) := by unfold Hid; rw [← hg.out, Nat.gcd_comm R1, ← Nat.gcd_rec, Nat.gcd_comm]
      have HSd : Hid (S = _) := hSd
      have hle1 : Hid (R1 ≤ M) := Nat.le_trans (Nat.le_of_lt hlt.out) hle.out
      clear hSd hg g0 c0
      go_wp2_with fail
      refine hD.mono ?_
      rintro e w3 ⟨vq, vr, rfl, bq, br, oq, orr, k3⟩
      have K3 := KW.trans k3
      go_wp2_with fail
      refine (rMulMod vq _ m (R0 / R1) T1 M w3 bq (d1.grew k3) (hm.grew K3) (by omega) (by omega) (by omega) (by omega)).mono ?_
      rintro e w4 ⟨v4, rfl, b4, o4, k4⟩
      have K4 := K3.trans k4
      go_wp2_with fail
      refine (rSubMod _ v4 m T0 (R0 / R1 * T1 % M) M w4 (d0.grew (k3.trans k4)) b4 (hm.grew K4) (by omega) (by omega) (by omega)).mono ?_
      rintro e w5 ⟨v5, rfl, b5, o5, k5⟩
      rw [← HSd.out] at b5
      have K5 := K4.trans k5
      go_wp2
      go_roundw
      case rel => exact ⟨R1, R0 % R1, T1, S, c1.grew ((k3.trans k4).trans k5), (br.grew k4).grew k5, d1.grew ((k3.trans k4).trans k5), b5, hg3, hmod, hle1, l1, lS, g1, gS, x1, fun x hx => Nat.le_trans K4.size (o5 x hx), ((hk.trans k3).trans k4).trans k5⟩
      case measure => rw [((br.grew k4).grew k5).of, hof]; exact hmod

end Go.Proofs.YtiljkgoafknefaaGreat
