/- Put together of: WInv BigM Ref6m. -/
import Derived.Test.YtldbfcifoijliaaGreatDoorPk1
import Derived.Test.YtldbfcifoijliaaGreatDoorPk3
import Derived.Test.YtldbfcifoijliaaGreatDoorPk4
import Derived.Test.YtldbfcifoijliaaGreatDoorPk7
import Derived.Test.YtldbfcifoijliaaGreatDoorPk11
import Derived.Test.YtldbfcifoijliaaGreatDoorPk13

/- What word.Inverse answers, for any word. -/
namespace Go.Proofs.YtldbfcifoijliaaGreatDoor
open Go.RowKit

theorem and_mskI (x a : Int) (x0 : 0 ≤ x) (x1 : x < 18446744073709551616) : bits .and .u64 x (msk a) = if a % 2 = 1 then x else 0 := by
  obtain ⟨X, rfl⟩ := Int.eq_ofNat_of_zero_le x0
  unfold msk
  have : a % 2 = 0 ∨ a % 2 = 1 := by omega
  rcases this with h | h
  · rw [h, if_neg (by decide)]
    have e := u64_and_nat X 0 (by omega) (by omega)
    rw [Nat.and_zero] at e
    exact e
  · rw [h, if_pos rfl]
    have e := u64_and_nat X 18446744073709551615 (by omega) (by omega)
    rw [show (18446744073709551615 : Nat) = 2 ^ 64 - 1 from rfl, Nat.and_two_pow_sub_one_of_lt_two_pow (by omega)] at e
    exact e

set_option maxHeartbeats 1000000 in
/-- word.Inverse. -/
theorem wInverse (a : Int) (a0 : 0 ≤ a) (a1 : a < 18446744073709551616) (w : World) :
    Calls Tryz.prog 69 #[.int .u64 a] w fun e w' => (∃ x, e = .returned (.int .u64 x) ∧ isInv a x) ∧ w' = w := by
  go_enter Tryz.func69, Tryz.ntmps69
  go_wp2_with (fail)
  go_loop [3, 5] (fun x i => ∃ (X : Int) (k : Nat), k ≤ 5 ∧ x = .int .u64 X ∧ i = .int .i64 (k : Int) ∧ 0 ≤ X ∧ X < 18446744073709551616 ∧ Hid (a % 2 = 1 → (2 : Int) ^ (min 64 (3 * 2 ^ k)) ∣ 1 - a * X)) (fun _ i => (5 - intOf i).toNat)
  case atStart => exact ⟨a, 0, by omega, rfl, rfl, a0, a1, inv_start a⟩
  case round =>
    obtain ⟨X, k, hk, rfl, rfl, X0, X1, HX⟩ := hrel
    by_cases hp : k < 5
    · go_wp2_with (fail)
      go_round
      case rel =>
        refine ⟨_, k + 1, by omega, rfl, by go_num, ?_, ?_, ?_⟩
        · rw [IntKind.wrap_u64]; omega
        · rw [IntKind.wrap_u64]; omega
        · intro h
          have h1 := HX.out h
          simp only [IntKind.wrap_u64]
          exact inv_step a X _ _ h1 (wrap_step a X) _ (by rw [Nat.pow_succ]; omega) (by omega)
      case measure => simp [intOf]; omega
    · obtain rfl : k = 5 := by omega
      obtain ⟨Y, hY, hi⟩ : ∃ Y, bits .and .u64 X (msk a) = Y ∧ isInv a Y := by
        refine ⟨_, and_mskI X a X0 X1, ?_⟩
        have : a % 2 = 0 ∨ a % 2 = 1 := by omega
        rcases this with h | h
        · rw [if_neg (by omega)]
          exact ⟨by omega, by omega, by omega, fun _ => rfl⟩
        · rw [if_pos h]
          exact ⟨X0, X1, HX.out, by omega⟩
      have HI : Hid (isInv a Y) := hi
      clear hi
      go_wp2_with (go_at_call 90; refine (wMask a a0 a1 _).mono ?_; rintro e w' ⟨rfl, rfl⟩)
      go_ret
      exact ⟨⟨Y, rfl, HI.out⟩, rfl⟩

end Go.Proofs.YtldbfcifoijliaaGreatDoor


/- Melted of: BigMod BigGcd BigExp BigInv. -/

/- The plain rest, and reckoning with members. -/
namespace Go.Proofs.YtldbfcifoijliaaGreatDoor
open Go.RowKit

attribute [local go_sem ↓] Go.wp_at_zero Go.wp_at_succ

theorem rMod (u v : Value) (A M : Nat) (w : World) (hu : IsBig w u A) (hv : IsBig w v M) (hM : 0 < M) (hla : dlen A ≤ 10000000) :
    Calls Tryz.prog 35 #[u, v] w fun r w' => ∃ v', r = .returned v' ∧ IsBig w' v' (A % M) ∧ (∀ b, v'.ownBlock = some b → u.ownBlock = some b ∨ w.heap.size ≤ b) ∧ Kept Nought w w' := by
  have hD := rDivMod u v A M w hu hv hM hla
  clear hu hv hM hla
  go_enter Tryz.func35, Tryz.ntmps35
  go_wp2_with fail
  refine hD.mono ?_
  rintro e w1 ⟨v1, v2, rfl, b1, b2, o1, o2, k⟩
  go_wp2
  go_ret
  exact ⟨v2, rfl, b2, o2, k⟩

theorem rMulMod (u v m : Value) (A B M : Nat) (w : World) (hu : IsBig w u A) (hv : IsBig w v B) (hm : IsBig w m M) (hM : 0 < M) (hla : dlen A ≤ 100000000) (hlb : dlen B ≤ 100000000) (hab : dlen (A * B) ≤ 10000000) :
    Calls Tryz.prog 13 #[u, v, m] w fun r w' => ∃ v', r = .returned v' ∧ IsBig w' v' (A * B % M) ∧ (∀ b, v'.ownBlock = some b → w.heap.size ≤ b) ∧ Kept Nought w w' := by
  have hD := rMul u v A B w hu hv hla hlb
  clear hu hv hla hlb
  go_enter Tryz.func13, Tryz.ntmps13
  go_wp2_with fail
  refine hD.mono ?_
  rintro e w1 ⟨v1, rfl, b1, o1, k1⟩
  go_wp2_with fail
  refine (rMod v1 m (A * B) M w1 b1 (hm.grew k1) hM hab).mono ?_
  rintro e w2 ⟨v2, rfl, b2, o2, k2⟩
  go_wp2
  go_ret
  exact ⟨v2, rfl, b2, fun b hb => (o2 b hb).elim (fun h => o1 b h) (fun h => Nat.le_trans k1.size h), k1.trans k2⟩

end Go.Proofs.YtldbfcifoijliaaGreatDoor

/- The plain greatest divisor. -/
namespace Go.Proofs.YtldbfcifoijliaaGreatDoor
open Go.RowKit

attribute [local go_sem ↓] Go.wp_at_zero Go.wp_at_succ

theorem Row.inj {k : IntKind} {w : World} {v : Value} {zs ys : List Nat} (h : Row k w v zs) (h' : Row k w v ys) : zs = ys := by
  obtain ⟨ao, cap, e1, _, _, _, h4⟩ := h
  obtain ⟨ao', cap', e2, _, _, _, h4'⟩ := h'
  rw [e1] at e2
  injection e2 with e3 e4 e5
  subst e3
  refine List.ext_getElem e4 ?_
  intro i h1 h2
  obtain ⟨b, off, q1, q2⟩ := h4 i h1
  obtain ⟨b', off', q1', q2'⟩ := h4' i h2
  rw [q1] at q1'
  injection q1' with q3
  injection q3 with q4 q5
  subst q4 q5
  rw [q2] at q2'
  injection q2' with q6
  injection q6 with q7 q8
  have q9 : zs.getD i 0 = ys.getD i 0 := by omega
  rwa [List.getD_eq_getElem?_getD, List.getD_eq_getElem?_getD, List.getElem?_eq_getElem h1, List.getElem?_eq_getElem h2] at q9

theorem IsBig.inj {w : World} {v : Value} {V V' : Nat} (h : IsBig w v V) (h' : IsBig w v V') : V = V' := by
  obtain ⟨ds, h1, _, _, h2, _⟩ := h
  obtain ⟨es, g1, _, _, g2, _⟩ := h'
  rw [← h2, ← g2, h1.inj g1]

/-- The number that a cell holds, 0 where it holds none. -/
def cellN (w : World) (a : Addr) : Nat :=
  match w.cell? a with
  | some (.int _ z) => z.toNat
  | _ => 0

/-- The number that a slice is, 0 where it is none. -/
def bigOf (w : World) : Value → Nat
  | .slice (some a) n _ => val 4294967296 ((List.range n).map fun i => cellN w ⟨a.block, a.off + i, none⟩)
  | _ => 0

theorem IsBig.of {w : World} {v : Value} {V : Nat} (h : IsBig w v V) : bigOf w v = V := by
  obtain ⟨ds, h1, _, _, rfl, _⟩ := h
  obtain ⟨ao, cap, rfl, _, _, _, hc⟩ := h1
  cases ao with
  | none =>
    have : ds = [] := by
      rcases ds with _ | ⟨d, r⟩
      · rfl
      · obtain ⟨b, off, e, _⟩ := hc 0 (by simp)
        cases e
    subst this
    rfl
  | some a =>
    show val 4294967296 ((List.range ds.length).map fun i => cellN w ⟨a.block, a.off + i, none⟩) = _
    congr 1
    refine List.ext_getElem (by simp) (fun i h1 h2 => ?_)
    obtain ⟨b, off, e, hcell⟩ := hc i h2
    cases e
    rw [List.getElem_map, List.getElem_range]
    unfold cellN
    rw [hcell, List.getD_eq_getElem?_getD, List.getElem?_eq_getElem h2]
    simp

/-- A number as a slice: its length is 0 or above it, as the number is. -/
theorem IsBig.length {w : World} {v : Value} {V : Nat} (h : IsBig w v V) : ∃ ao n cap, v = .slice ao n cap ∧ Hid (n = dlen V) ∧ n ≤ 1000000000 := by
  obtain ⟨ds, h1, h2, h3, h4, h5⟩ := h
  obtain ⟨ao, n, cap, e, hN, _⟩ := h1.open
  refine ⟨ao, n, cap, e, ?_, by rw [← hN.out]; exact h5⟩
  have := len_dlen h2 h3
  rw [h4] at this
  unfold Hid
  rw [← this, hN.out]

end Go.Proofs.YtldbfcifoijliaaGreatDoor

/- The plain power. -/
namespace Go.Proofs.YtldbfcifoijliaaGreatDoor
open Go.RowKit

attribute [local go_sem ↓] Go.wp_at_zero Go.wp_at_succ

theorem dlen_mul (A B : Nat) : dlen (A * B) ≤ dlen A + dlen B := by
  have h1 := (dlen_le A _).1 (Nat.le_refl _)
  have h2 := (dlen_le B _).1 (Nat.le_refl _)
  refine (dlen_le _ _).2 ?_
  rw [Nat.pow_add]
  exact Nat.mul_lt_mul'' h1 h2

theorem dlen_rest (A M : Nat) (hM : 0 < M) : dlen (A % M) ≤ dlen M := dlen_mono (Nat.le_of_lt (Nat.mod_lt _ hM))

/-- One bit more of an exponent. -/
theorem exp_even (A E M j : Nat) (hb : E / 2 ^ j % 2 = 0) : (A ^ (E / 2 ^ (j + 1)) % M) * (A ^ (E / 2 ^ (j + 1)) % M) % M = A ^ (E / 2 ^ j) % M := by
  rw [← Nat.mul_mod, ← Nat.pow_add]
  have : E / 2 ^ (j + 1) = E / 2 ^ j / 2 := by rw [Nat.pow_succ, ← Nat.div_div_eq_div_mul]
  rw [this]
  generalize E / 2 ^ j = q at *
  rw [show q / 2 + q / 2 = q by omega]

theorem exp_odd (A E M j : Nat) (hb : E / 2 ^ j % 2 = 1) : ((A ^ (E / 2 ^ (j + 1)) % M) * (A ^ (E / 2 ^ (j + 1)) % M) % M) * (A % M) % M = A ^ (E / 2 ^ j) % M := by
  rw [← Nat.mul_mod (A ^ (E / 2 ^ (j + 1))) (A ^ (E / 2 ^ (j + 1))) M, ← Nat.mul_mod, ← Nat.pow_add, ← Nat.pow_succ]
  have : E / 2 ^ (j + 1) = E / 2 ^ j / 2 := by rw [Nat.pow_succ, ← Nat.div_div_eq_div_mul]
  rw [this]
  generalize E / 2 ^ j = q at *
  rw [show (q / 2 + q / 2).succ = q by omega]

set_option maxHeartbeats 400000 in
theorem rExpMod (u x m : Value) (A E M : Nat) (w : World) (hu : IsBig w u A) (hx : IsBig w x E) (hm : IsBig w m M) (hM : 0 < M) (hla : dlen A ≤ 10000000) (hlm : dlen M ≤ 1000000) :
    Calls Tryz.prog 31 #[u, x, m] w fun r w' => ∃ v', r = .returned v' ∧ IsBig w' v' (A ^ E % M) ∧ (∀ b, v'.ownBlock = some b → w.heap.size ≤ b) ∧ Kept Nought w w' := by
  have hS := rSmall 1 (by omega) w
  have hbl := blen_bd hx
  have hB := fun W (hk : Kept Nought w W) => rBitLen x E W (hx.grew hk)
  have h1l : dlen 1 ≤ 10000000 := Nat.le_trans ((dlen_le 1 1).2 (by omega)) (by omega)
  go_enter Tryz.func31, Tryz.ntmps31
  go_wp2_with fail
  refine hS.mono ?_
  rintro e w1 ⟨v1, rfl, b1, o1, k1⟩
  clear hS
  go_wp2_with fail
  refine (rMod v1 m 1 M w1 b1 (hm.grew k1) hM h1l).mono ?_
  rintro e w2 ⟨v2, rfl, b2, o2, k2⟩
  have k12 := k1.trans k2
  have o12 : ∀ b, v2.ownBlock = some b → w.heap.size ≤ b := fun b hb => (o2 b hb).elim (o1 b) (fun h => Nat.le_trans k1.size h)
  clear b1 o1 k1 o2 k2 h1l
  go_wp2_with fail
  refine (rMod u m A M w2 (hu.grew k12) (hm.grew k12) hM hla).mono ?_
  rintro e w3 ⟨v3, rfl, b3, o3, k3⟩
  have k13 := k12.trans k3
  have b2' := b2.grew k3
  clear b2 k12 k3 o3 hu hla
  go_wp2_with fail
  refine (hB _ k13).mono ?_
  rintro e w4 ⟨rfl, rfl⟩
  clear hB
  have hst : Hid (1 % M = A ^ (E / 2 ^ blen E) % M) := by
    unfold Hid
    rw [Nat.div_eq_of_lt ((blen_le E _).1 (Nat.le_refl _)), Nat.pow_zero]
  obtain ⟨bl, hbl2⟩ : ∃ bl, bl = blen E := ⟨_, rfl⟩
  rw [← hbl2] at hbl hst
  rw [← hbl2]
  clear hbl2
  rw [hst.out] at b2'
  clear hst
  go_wp2_with fail
  go_loopw [7, 8] (fun o i wr => ∃ k : Nat, k ≤ bl ∧ i = .int .i64 ((k : Int) - 1) ∧ IsBig wr o (A ^ (E / 2 ^ k) % M) ∧ Hid (∀ b, o.ownBlock = some b → w.heap.size ≤ b) ∧ Kept Nought w4 wr) (fun _ i _ => (intOf i + 1).toNat)
  case atStart => exact ⟨bl, Nat.le_refl _, by go_num, b2', o12, Kept.refl _ _⟩
  case round =>
    clear b2' o12
    obtain ⟨k, hk, rfl, ho, hob, hkx⟩ := hrel
    have KW := k13.trans hkx
    cases k with
    | zero =>
      rw [Nat.pow_zero, Nat.div_one] at ho
      go_wp2
      go_ret
      exact ⟨_, rfl, ho, hob.out, KW⟩
    | succ j =>
      obtain ⟨P, hP⟩ : ∃ P, P = A ^ (E / 2 ^ (j + 1)) % M := ⟨_, rfl⟩
      rw [← hP] at ho
      have hPl : dlen P ≤ 1000000 := by rw [hP]; exact Nat.le_trans (dlen_rest _ _ hM) hlm
      have hPP := dlen_mul P P
      have hBt := fun W (hk : Kept Nought w W) => rBit x E (j : Int) W (hx.grew hk) (by omega)
      rw [bitN_nat] at hBt
      have hMM := rMulMod _ _ m P P M wr ho ho (hm.grew KW) hM (by omega) (by omega) (by omega)
      have hsq : dlen (P * P % M) ≤ 1000000 := Nat.le_trans (dlen_rest _ _ hM) hlm
      have hal : dlen (A % M) ≤ 1000000 := Nat.le_trans (dlen_rest _ _ hM) hlm
      have hsa := dlen_mul (P * P % M) (A % M)
      have hsa2 : dlen (P * P % M * (A % M)) ≤ 10000000 := by omega
      clear hPP hsa hPl
      by_cases hb : E / 2 ^ j % 2 = 0
      · have hz : Hid (P * P % M = A ^ (E / 2 ^ j) % M) := by unfold Hid; rw [hP]; exact exp_even A E M j hb
        rw [hb] at hBt
        clear hb hP ho
        go_wp2_with fail
        refine hMM.mono ?_
        rintro e w5 ⟨v5, rfl, b5, o5, k5⟩
        go_wp2_with fail
        refine (hBt _ (KW.trans k5)).mono ?_
        rintro e w6 ⟨rfl, rfl⟩
        go_wp2
        go_roundw
        case rel => exact ⟨j, by omega, by go_num, by rw [← hz.out]; exact b5, fun b hb => Nat.le_trans KW.size (o5 b hb), hkx.trans k5⟩
        case measure => simp [intOf]
      · have h1 : E / 2 ^ j % 2 = 1 := by omega
        have hz : Hid (P * P % M * (A % M) % M = A ^ (E / 2 ^ j) % M) := by unfold Hid; rw [hP]; exact exp_odd A E M j h1
        rw [h1] at hBt
        clear hb hP ho h1
        go_wp2_with fail
        refine hMM.mono ?_
        rintro e w5 ⟨v5, rfl, b5, o5, k5⟩
        go_wp2_with fail
        refine (hBt _ (KW.trans k5)).mono ?_
        rintro e w6 ⟨rfl, rfl⟩
        go_wp2_with fail
        refine (rMulMod v5 v3 m (P * P % M) (A % M) M w6 b5 (b3.grew (hkx.trans k5)) (hm.grew (KW.trans k5)) hM (by omega) (by omega) hsa2).mono ?_
        rintro e w7 ⟨v7, rfl, b7, o7, k7⟩
        go_wp2
        go_roundw
        case rel => exact ⟨j, by omega, by go_num, by rw [← hz.out]; exact b7, fun b hb => Nat.le_trans (KW.trans k5).size (o7 b hb), (hkx.trans k5).trans k7⟩
        case measure => simp [intOf]

end Go.Proofs.YtldbfcifoijliaaGreatDoor

/- The plain inverse. -/
namespace Go.Proofs.YtldbfcifoijliaaGreatDoor
open Go.RowKit

attribute [local go_sem ↓] Go.wp_at_zero Go.wp_at_succ

end Go.Proofs.YtldbfcifoijliaaGreatDoor


/- Melted of: Ref6A Ref6B Ref6C. -/

/- The plain side of layer 6 (package sconceref06): any number as a modulus. -/
namespace Go.Proofs.YtldbfcifoijliaaGreatDoor
open Go.RowKit

/-- The error's number of a modulus. -/
def montE (V : Nat) : Nat := if 130 < wordsN V then 2 else if V < 2 then 1 else if V % 2 = 0 then 60 else 0

/-- K is the number that goes with the modulus V. -/
def isKf (V K : Nat) : Prop := K < 18446744073709551616 ∧ (montE V = 0 → (V * K + 1) % 18446744073709551616 = 0) ∧ (montE V ≠ 0 → K = 0)

def modM (V : Nat) : List Nat := if montE V = 0 then digs 18446744073709551616 V (wordsN V) else []

def modR (V : Nat) : List Nat := if montE V = 0 then digs 18446744073709551616 (2 ^ (128 * wordsN V) % V) (wordsN V) else []

theorem montE_ok {V : Nat} (h : montE V = 0) : wordsN V ≤ 130 ∧ 2 ≤ V ∧ V % 2 = 1 := by
  unfold montE at h
  by_cases h1 : 130 < wordsN V
  · rw [if_pos h1] at h; omega
  · rw [if_neg h1] at h
    by_cases h2 : V < 2
    · rw [if_pos h2] at h; omega
    · rw [if_neg h2] at h
      by_cases h3 : V % 2 = 0
      · rw [if_pos h3] at h; omega
      · omega

end Go.Proofs.YtldbfcifoijliaaGreatDoor

/- The plain side of layer 6: Setup. -/
namespace Go.Proofs.YtldbfcifoijliaaGreatDoor
open Go.RowKit

/-- The cells of a modulus. -/
def modCells (a : Value) (K : Nat) (b : Value) : Array Value := #[a, .int .u64 (K : Nat), b]

theorem mod_bad {V : Nat} (h : montE V ≠ 0) : modM V = [] ∧ modR V = [] ∧ isKf V 0 := by
  refine ⟨if_neg h, if_neg h, by omega, fun e => absurd e h, fun _ => rfl⟩

end Go.Proofs.YtldbfcifoijliaaGreatDoor

/- The plain side of layer 6: Check, Member. -/
namespace Go.Proofs.YtldbfcifoijliaaGreatDoor
open Go.RowKit

/-- A modulus as it should be. -/
def okMod (ms : List Nat) (K : Nat) (rs : List Nat) : Prop :=
  montE (val 18446744073709551616 ms) = 0 ∧ modM (val 18446744073709551616 ms) = ms ∧ isKf (val 18446744073709551616 ms) K ∧ modR (val 18446744073709551616 ms) = rs

end Go.Proofs.YtldbfcifoijliaaGreatDoor

