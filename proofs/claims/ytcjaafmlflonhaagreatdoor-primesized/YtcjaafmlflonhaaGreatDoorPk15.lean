/- Put together of: BigM Inv0 Ref6m. -/
import Derived.Test.YtcjaafmlflonhaaGreatDoorPk1
import Derived.Test.YtcjaafmlflonhaaGreatDoorPk5
import Derived.Test.YtcjaafmlflonhaaGreatDoorPk6
import Derived.Test.YtcjaafmlflonhaaGreatDoorPk9
import Derived.Test.YtcjaafmlflonhaaGreatDoorPk14
import Derived.Laws.BitsAllLaws

/- Melted of: BigMod BigGcd BigExp BigInv. -/

/- The plain rest, and reckoning with members. -/
namespace Go.Proofs.YtcjaafmlflonhaaGreatDoor
open Go.RowKit

attribute [local go_sem ↓] Go.wp_at_zero Go.wp_at_succ

theorem rMod (u v : Value) (A M : Nat) (w : World) (hu : IsBig w u A) (hv : IsBig w v M) (hM : 0 < M) (hla : dlen A ≤ 10000000) :
    Calls Tryz.prog 42 #[u, v] w fun r w' => ∃ v', r = .returned v' ∧ IsBig w' v' (A % M) ∧ (∀ b, v'.ownBlock = some b → u.ownBlock = some b ∨ w.heap.size ≤ b) ∧ Kept Nought w w' := by
  have hD := rDivMod u v A M w hu hv hM hla
  clear hu hv hM hla
  go_enter Tryz.func42, Tryz.ntmps42
  go_wp2_with fail
  refine hD.mono ?_
  rintro e w1 ⟨v1, v2, rfl, b1, b2, o1, o2, k⟩
  go_wp2
  go_ret
  exact ⟨v2, rfl, b2, o2, k⟩

theorem rMulMod (u v m : Value) (A B M : Nat) (w : World) (hu : IsBig w u A) (hv : IsBig w v B) (hm : IsBig w m M) (hM : 0 < M) (hla : dlen A ≤ 100000000) (hlb : dlen B ≤ 100000000) (hab : dlen (A * B) ≤ 10000000) :
    Calls Tryz.prog 81 #[u, v, m] w fun r w' => ∃ v', r = .returned v' ∧ IsBig w' v' (A * B % M) ∧ (∀ b, v'.ownBlock = some b → w.heap.size ≤ b) ∧ Kept Nought w w' := by
  have hD := rMul u v A B w hu hv hla hlb
  clear hu hv hla hlb
  go_enter Tryz.func81, Tryz.ntmps81
  go_wp2_with fail
  refine hD.mono ?_
  rintro e w1 ⟨v1, rfl, b1, o1, k1⟩
  go_wp2_with fail
  refine (rMod v1 m (A * B) M w1 b1 (hm.grew k1) hM hab).mono ?_
  rintro e w2 ⟨v2, rfl, b2, o2, k2⟩
  go_wp2
  go_ret
  exact ⟨v2, rfl, b2, fun b hb => (o2 b hb).elim (fun h => o1 b h) (fun h => Nat.le_trans k1.size h), k1.trans k2⟩

end Go.Proofs.YtcjaafmlflonhaaGreatDoor

/- The plain greatest divisor. -/
namespace Go.Proofs.YtcjaafmlflonhaaGreatDoor
open Go.RowKit

attribute [local go_sem ↓] Go.wp_at_zero Go.wp_at_succ

theorem Row.inj {k : IntKind} {w : World} {v : Value} {zs ys : List Nat} (h : Row k w v zs) (h' : Row k w v ys) : zs = ys := by
  obtain ⟨ao, cap, e1, _, _, _, h4⟩ := h
  obtain ⟨ao', cap', e2, _, _, _, h4'⟩ := h'
  rw [e1] at e2
  injection e2 with e3 e4 e5
  subst e3
  refine List.ext_getElem e4 ?_
  intro i h1 h2
  obtain ⟨b, off, q1, q2⟩ := h4 i h1
  obtain ⟨b', off', q1', q2'⟩ := h4' i h2
  rw [q1] at q1'
  injection q1' with q3
  injection q3 with q4 q5
  subst q4 q5
  rw [q2] at q2'
  injection q2' with q6
  injection q6 with q7 q8
  have q9 : zs.getD i 0 = ys.getD i 0 := by omega
  rwa [List.getD_eq_getElem?_getD, List.getD_eq_getElem?_getD, List.getElem?_eq_getElem h1, List.getElem?_eq_getElem h2] at q9

theorem IsBig.inj {w : World} {v : Value} {V V' : Nat} (h : IsBig w v V) (h' : IsBig w v V') : V = V' := by
  obtain ⟨ds, h1, _, _, h2, _⟩ := h
  obtain ⟨es, g1, _, _, g2, _⟩ := h'
  rw [← h2, ← g2, h1.inj g1]

/-- The number that a cell holds, 0 where it holds none. -/
def cellN (w : World) (a : Addr) : Nat :=
  match w.cell? a with
  | some (.int _ z) => z.toNat
  | _ => 0

/-- The number that a slice is, 0 where it is none. -/
def bigOf (w : World) : Value → Nat
  | .slice (some a) n _ => val 4294967296 ((List.range n).map fun i => cellN w ⟨a.block, a.off + i, none⟩)
  | _ => 0

theorem IsBig.of {w : World} {v : Value} {V : Nat} (h : IsBig w v V) : bigOf w v = V := by
  obtain ⟨ds, h1, _, _, rfl, _⟩ := h
  obtain ⟨ao, cap, rfl, _, _, _, hc⟩ := h1
  cases ao with
  | none =>
    have : ds = [] := by
      rcases ds with _ | ⟨d, r⟩
      · rfl
      · obtain ⟨b, off, e, _⟩ := hc 0 (by simp)
        cases e
    subst this
    rfl
  | some a =>
    show val 4294967296 ((List.range ds.length).map fun i => cellN w ⟨a.block, a.off + i, none⟩) = _
    congr 1
    refine List.ext_getElem (by simp) (fun i h1 h2 => ?_)
    obtain ⟨b, off, e, hcell⟩ := hc i h2
    cases e
    rw [List.getElem_map, List.getElem_range]
    unfold cellN
    rw [hcell, List.getD_eq_getElem?_getD, List.getElem?_eq_getElem h2]
    simp

/-- A number as a slice: its length is 0 or above it, as the number is. -/
theorem IsBig.length {w : World} {v : Value} {V : Nat} (h : IsBig w v V) : ∃ ao n cap, v = .slice ao n cap ∧ Hid (n = dlen V) ∧ n ≤ 1000000000 := by
  obtain ⟨ds, h1, h2, h3, h4, h5⟩ := h
  obtain ⟨ao, n, cap, e, hN, _⟩ := h1.open
  refine ⟨ao, n, cap, e, ?_, by rw [← hN.out]; exact h5⟩
  have := len_dlen h2 h3
  rw [h4] at this
  unfold Hid
  rw [← this, hN.out]

theorem dlen_pos {A : Nat} (h : 0 < A) : 0 < dlen A := by
  rcases Nat.eq_zero_or_pos (dlen A) with h0 | h0
  · have := (dlen_le A 0).1 (by omega)
    rw [Nat.pow_zero] at this
    omega
  · exact h0

set_option maxHeartbeats 400000 in
theorem rGcd (u v : Value) (A B : Nat) (w : World) (hu : IsBig w u A) (hv : IsBig w v B) (hla : dlen A ≤ 10000000) (hlb : dlen B ≤ 10000000) :
    Calls Tryz.prog 51 #[u, v] w fun r w' => ∃ v', r = .returned v' ∧ IsBig w' v' (Nat.gcd A B) ∧ (∀ b, v'.ownBlock = some b → u.ownBlock = some b ∨ v.ownBlock = some b ∨ w.heap.size ≤ b) ∧ Kept Nought w w' := by
  go_enter Tryz.func51, Tryz.ntmps51
  go_wp2_with fail
  go_loopw [0, 1] (fun a b wr => ∃ (C D : Nat), IsBig wr a C ∧ IsBig wr b D ∧ Hid (Nat.gcd C D = Nat.gcd A B) ∧ Hid (dlen C ≤ 10000000) ∧ Hid (dlen D ≤ 10000000) ∧ Hid (∀ x, a.ownBlock = some x → u.ownBlock = some x ∨ v.ownBlock = some x ∨ w.heap.size ≤ x) ∧ Hid (∀ x, b.ownBlock = some x → u.ownBlock = some x ∨ v.ownBlock = some x ∨ w.heap.size ≤ x) ∧ Kept Nought w wr) (fun _ b wr => bigOf wr b)
  case atStart => exact ⟨A, B, hu, hv, rfl, hla, hlb, fun x h => .inl h, fun x h => .inr (.inl h), Kept.refl _ _⟩
  case round =>
    clear hu hv hla hlb
    obtain ⟨C, D, hc, hd, hg, lc, ld, oc, od, hk⟩ := hrel
    obtain ⟨ao, n, cap, rfl, hn, hn9⟩ := hd.length
    rcases Nat.eq_zero_or_pos D with h0 | h0
    · have hn0 : n = 0 := by rw [hn.out, h0]; rfl
      subst hn0
      have hg2 : Hid (C = Nat.gcd A B) := by have := hg.out; rw [h0, Nat.gcd_zero_right] at this; exact this
      clear hg h0 hn
      go_wp2
      go_ret
      exact ⟨_, rfl, by rw [← hg2.out]; exact hc, oc.out, hk⟩
    · have hn1 : 0 < n := by rw [hn.out]; exact dlen_pos h0
      have hM := rMod _ _ C D wr hc hd h0 lc.out
      have hlt := Nat.mod_lt C h0
      have hof := hd.of
      go_wp2_with fail
      refine hM.mono ?_
      rintro e w1 ⟨v1, rfl, b1, o1, k1⟩
      go_wp2
      go_roundw
      case rel => exact ⟨D, C % D, hd.grew k1, b1, by unfold Hid; rw [← hg.out, Nat.gcd_comm D, ← Nat.gcd_rec, Nat.gcd_comm], ld, Nat.le_trans (dlen_mono (Nat.mod_le _ _)) lc.out, od, fun x hx => (o1 x hx).elim (oc.out x) (fun h => .inr (.inr (Nat.le_trans hk.size h))), hk.trans k1⟩
      case measure => rw [b1.of, hof]; exact hlt

end Go.Proofs.YtcjaafmlflonhaaGreatDoor

/- The plain power. -/
namespace Go.Proofs.YtcjaafmlflonhaaGreatDoor
open Go.RowKit

attribute [local go_sem ↓] Go.wp_at_zero Go.wp_at_succ

theorem dlen_mul (A B : Nat) : dlen (A * B) ≤ dlen A + dlen B := by
  have h1 := (dlen_le A _).1 (Nat.le_refl _)
  have h2 := (dlen_le B _).1 (Nat.le_refl _)
  refine (dlen_le _ _).2 ?_
  rw [Nat.pow_add]
  exact Nat.mul_lt_mul'' h1 h2

theorem dlen_rest (A M : Nat) (hM : 0 < M) : dlen (A % M) ≤ dlen M := dlen_mono (Nat.le_of_lt (Nat.mod_lt _ hM))

/-- One bit more of an exponent. -/
theorem exp_even (A E M j : Nat) (hb : E / 2 ^ j % 2 = 0) : (A ^ (E / 2 ^ (j + 1)) % M) * (A ^ (E / 2 ^ (j + 1)) % M) % M = A ^ (E / 2 ^ j) % M := by
  rw [← Nat.mul_mod, ← Nat.pow_add]
  have : E / 2 ^ (j + 1) = E / 2 ^ j / 2 := by rw [Nat.pow_succ, ← Nat.div_div_eq_div_mul]
  rw [this]
  generalize E / 2 ^ j = q at *
  rw [show q / 2 + q / 2 = q by omega]

theorem exp_odd (A E M j : Nat) (hb : E / 2 ^ j % 2 = 1) : ((A ^ (E / 2 ^ (j + 1)) % M) * (A ^ (E / 2 ^ (j + 1)) % M) % M) * (A % M) % M = A ^ (E / 2 ^ j) % M := by
  rw [← Nat.mul_mod (A ^ (E / 2 ^ (j + 1))) (A ^ (E / 2 ^ (j + 1))) M, ← Nat.mul_mod, ← Nat.pow_add, ← Nat.pow_succ]
  have : E / 2 ^ (j + 1) = E / 2 ^ j / 2 := by rw [Nat.pow_succ, ← Nat.div_div_eq_div_mul]
  rw [this]
  generalize E / 2 ^ j = q at *
  rw [show (q / 2 + q / 2).succ = q by omega]

set_option maxHeartbeats 400000 in
theorem rExpMod (u x m : Value) (A E M : Nat) (w : World) (hu : IsBig w u A) (hx : IsBig w x E) (hm : IsBig w m M) (hM : 0 < M) (hla : dlen A ≤ 10000000) (hlm : dlen M ≤ 1000000) :
    Calls Tryz.prog 79 #[u, x, m] w fun r w' => ∃ v', r = .returned v' ∧ IsBig w' v' (A ^ E % M) ∧ (∀ b, v'.ownBlock = some b → w.heap.size ≤ b) ∧ Kept Nought w w' := by
  have hS := rSmall 1 (by omega) w
  have hbl := blen_bd hx
  have hB := fun W (hk : Kept Nought w W) => rBitLen x E W (hx.grew hk)
  have h1l : dlen 1 ≤ 10000000 := Nat.le_trans ((dlen_le 1 1).2 (by omega)) (by omega)
  go_enter Tryz.func79, Tryz.ntmps79
  go_wp2_with fail
  refine hS.mono ?_
  rintro e w1 ⟨v1, rfl, b1, o1, k1⟩
  clear hS
  go_wp2_with fail
  refine (rMod v1 m 1 M w1 b1 (hm.grew k1) hM h1l).mono ?_
  rintro e w2 ⟨v2, rfl, b2, o2, k2⟩
  have k12 := k1.trans k2
  have o12 : ∀ b, v2.ownBlock = some b → w.heap.size ≤ b := fun b hb => (o2 b hb).elim (o1 b) (fun h => Nat.le_trans k1.size h)
  clear b1 o1 k1 o2 k2 h1l
  go_wp2_with fail
  refine (rMod u m A M w2 (hu.grew k12) (hm.grew k12) hM hla).mono ?_
  rintro e w3 ⟨v3, rfl, b3, o3, k3⟩
  have k13 := k12.trans k3
  have b2' := b2.grew k3
  clear b2 k12 k3 o3 hu hla
  go_wp2_with fail
  refine (hB _ k13).mono ?_
  rintro e w4 ⟨rfl, rfl⟩
  clear hB
  have hst : Hid (1 % M = A ^ (E / 2 ^ blen E) % M) := by
    unfold Hid
    rw [Nat.div_eq_of_lt ((blen_le E _).1 (Nat.le_refl _)), Nat.pow_zero]
  obtain ⟨bl, hbl2⟩ : ∃ bl, bl = blen E := ⟨_, rfl⟩
  rw [← hbl2] at hbl hst
  rw [← hbl2]
  clear hbl2
  rw [hst.out] at b2'
  clear hst
  go_wp2_with fail
  go_loopw [7, 8] (fun o i wr => ∃ k : Nat, k ≤ bl ∧ i = .int .i64 ((k : Int) - 1) ∧ IsBig wr o (A ^ (E / 2 ^ k) % M) ∧ Hid (∀ b, o.ownBlock = some b → w.heap.size ≤ b) ∧ Kept Nought w4 wr) (fun _ i _ => (intOf i + 1).toNat)
  case atStart => exact ⟨bl, Nat.le_refl _, by go_num, b2', o12, Kept.refl _ _⟩
  case round =>
    clear b2' o12
    obtain ⟨k, hk, rfl, ho, hob, hkx⟩ := hrel
    have KW := k13.trans hkx
    cases k with
    | zero =>
      rw [Nat.pow_zero, Nat.div_one] at ho
      go_wp2
      go_ret
      exact ⟨_, rfl, ho, hob.out, KW⟩
    | succ j =>
      obtain ⟨P, hP⟩ : ∃ P, P = A ^ (E / 2 ^ (j + 1)) % M := ⟨_, rfl⟩
      rw [← hP] at ho
      have hPl : dlen P ≤ 1000000 := by rw [hP]; exact Nat.le_trans (dlen_rest _ _ hM) hlm
      have hPP := dlen_mul P P
      have hBt := fun W (hk : Kept Nought w W) => rBit x E (j : Int) W (hx.grew hk) (by omega)
      rw [bitN_nat] at hBt
      have hMM := rMulMod _ _ m P P M wr ho ho (hm.grew KW) hM (by omega) (by omega) (by omega)
      have hsq : dlen (P * P % M) ≤ 1000000 := Nat.le_trans (dlen_rest _ _ hM) hlm
      have hal : dlen (A % M) ≤ 1000000 := Nat.le_trans (dlen_rest _ _ hM) hlm
      have hsa := dlen_mul (P * P % M) (A % M)
      have hsa2 : dlen (P * P % M * (A % M)) ≤ 10000000 := by omega
      clear hPP hsa hPl
      by_cases hb : E / 2 ^ j % 2 = 0
      · have hz : Hid (P * P % M = A ^ (E / 2 ^ j) % M) := by unfold Hid; rw [hP]; exact exp_even A E M j hb
        rw [hb] at hBt
        clear hb hP ho
        go_wp2_with fail
        refine hMM.mono ?_
        rintro e w5 ⟨v5, rfl, b5, o5, k5⟩
        go_wp2_with fail
        refine (hBt _ (KW.trans k5)).mono ?_
        rintro e w6 ⟨rfl, rfl⟩
        go_wp2
        go_roundw
        case rel => exact ⟨j, by omega, by go_num, by rw [← hz.out]; exact b5, fun b hb => Nat.le_trans KW.size (o5 b hb), hkx.trans k5⟩
        case measure => simp [intOf]
      · have h1 : E / 2 ^ j % 2 = 1 := by omega
        have hz : Hid (P * P % M * (A % M) % M = A ^ (E / 2 ^ j) % M) := by unfold Hid; rw [hP]; exact exp_odd A E M j h1
        rw [h1] at hBt
        clear hb hP ho h1
        go_wp2_with fail
        refine hMM.mono ?_
        rintro e w5 ⟨v5, rfl, b5, o5, k5⟩
        go_wp2_with fail
        refine (hBt _ (KW.trans k5)).mono ?_
        rintro e w6 ⟨rfl, rfl⟩
        go_wp2_with fail
        refine (rMulMod v5 v3 m (P * P % M) (A % M) M w6 b5 (b3.grew (hkx.trans k5)) (hm.grew (KW.trans k5)) hM (by omega) (by omega) hsa2).mono ?_
        rintro e w7 ⟨v7, rfl, b7, o7, k7⟩
        go_wp2
        go_roundw
        case rel => exact ⟨j, by omega, by go_num, by rw [← hz.out]; exact b7, fun b hb => Nat.le_trans (KW.trans k5).size (o7 b hb), (hkx.trans k5).trans k7⟩
        case measure => simp [intOf]

end Go.Proofs.YtcjaafmlflonhaaGreatDoor

/- The plain inverse. -/
namespace Go.Proofs.YtcjaafmlflonhaaGreatDoor
open Go.RowKit

attribute [local go_sem ↓] Go.wp_at_zero Go.wp_at_succ

end Go.Proofs.YtcjaafmlflonhaaGreatDoor


/- Melted of: MInv Inv1. -/

/- Plain numbers: inverses modulo 2^64, by steps that double the bits and bit by bit. -/
namespace Go.Proofs.YtcjaafmlflonhaaGreatDoor

theorem pow_le64 (k : Nat) (h : k ≤ 64) : (2 : Int) ^ k ∣ 18446744073709551616 := by
  have : (18446744073709551616 : Int) = 2 ^ k * 2 ^ (64 - k) := by rw [← Int.pow_add, show k + (64 - k) = 64 by omega]; rfl
  exact ⟨_, this⟩

/-- An odd number's square is 1 modulo 8. -/
theorem inv_start (a : Int) (h : a % 2 = 1) : (2 : Int) ^ 3 ∣ 1 - a * a := by
  obtain ⟨b, rfl⟩ : ∃ b, a = 2 * b + 1 := ⟨a / 2, by omega⟩
  have e : (1 : Int) - (2 * b + 1) * (2 * b + 1) = -4 * (b * (b + 1)) := by
    simp only [Int.mul_add, Int.add_mul, Int.mul_one, Int.one_mul, Int.neg_mul]
    rw [show (2 * b * (2 * b) : Int) = 4 * (b * b) by rw [Int.mul_assoc, Int.mul_left_comm b 2 b]; omega]
    omega
  have hp : ∃ c, b * (b + 1) = 2 * c := by
    rcases Int.emod_two_eq b with h2 | h2
    · obtain ⟨c, rfl⟩ : ∃ c, b = 2 * c := ⟨b / 2, by omega⟩
      exact ⟨c * (2 * c + 1), by rw [Int.mul_assoc]⟩
    · obtain ⟨c, rfl⟩ : ∃ c, b = 2 * c + 1 := ⟨b / 2, by omega⟩
      exact ⟨(2 * c + 1) * (c + 1), by rw [show 2 * c + 1 + 1 = 2 * (c + 1) by omega, ← Int.mul_assoc, Int.mul_comm (2 * c + 1) 2, Int.mul_assoc]⟩
  obtain ⟨c, hc⟩ := hp
  rw [e, hc]
  exact ⟨-c, by omega⟩

/-- What a step makes of the rest: its square, modulo 2^64. -/
theorem inv_step (a x y : Int) (k : Nat) (h : (2 : Int) ^ k ∣ 1 - a * x) (hy : (18446744073709551616 : Int) ∣ y - x * (2 - a * x)) (m : Nat) (hm : m ≤ 2 * k) (hm2 : m ≤ 64) :
    (2 : Int) ^ m ∣ 1 - a * y := by
  have e : 1 - a * y = (1 - a * x) * (1 - a * x) - a * (y - x * (2 - a * x)) := by
    simp only [Int.mul_sub, Int.sub_mul, Int.mul_one, Int.one_mul]
    have h1 : a * (x * 2) = a * x * 2 := by rw [Int.mul_assoc]
    have h2 : a * (x * (a * x)) = a * x * (a * x) := by rw [Int.mul_assoc]
    omega
  rw [e]
  refine Int.dvd_sub ?_ ?_
  · have h1 : (2 : Int) ^ (k + k) ∣ (1 - a * x) * (1 - a * x) := by rw [Int.pow_add]; exact Int.mul_dvd_mul h h
    refine Int.dvd_trans ?_ h1
    exact ⟨2 ^ (k + k - m), by rw [← Int.pow_add]; congr 1; omega⟩
  · exact Int.dvd_trans (Int.dvd_trans (pow_le64 m hm2) hy) (Int.dvd_mul_left _ _)

/-- The wrapped step stands for the step. -/
theorem wrap_step (a x : Int) : (18446744073709551616 : Int) ∣ (x * ((2 - a * x % 18446744073709551616) % 18446744073709551616)) % 18446744073709551616 - x * (2 - a * x) := by
  obtain ⟨t, ht⟩ : ∃ t, (2 - a * x % 18446744073709551616) % 18446744073709551616 = 2 - a * x + 18446744073709551616 * t := ⟨((2 - a * x % 18446744073709551616) % 18446744073709551616 - (2 - a * x)) / 18446744073709551616, by omega⟩
  rw [ht, Int.mul_add, Int.mul_left_comm x 18446744073709551616 t]
  generalize x * (2 - a * x) = p
  generalize x * t = q
  omega

end Go.Proofs.YtcjaafmlflonhaaGreatDoor

/- The plain side of layer 1: the inverse of a word modulo 2^64. -/
namespace Go.Proofs.YtcjaafmlflonhaaGreatDoor
open Go.RowKit

/-- x is the inverse of a modulo 2^64, or 0 if a is even. -/
def isInv (a x : Int) : Prop := 0 ≤ x ∧ x < 18446744073709551616 ∧ (a % 2 = 1 → (18446744073709551616 : Int) ∣ 1 - a * x) ∧ (a % 2 = 0 → x = 0)

end Go.Proofs.YtcjaafmlflonhaaGreatDoor


/- Melted of: Ref6A Ref6B Ref6C. -/

/- The plain side of layer 6 (package sconceref06): any number as a modulus. -/
namespace Go.Proofs.YtcjaafmlflonhaaGreatDoor
open Go.RowKit

/-- The error's number of a modulus. -/
def montE (V : Nat) : Nat := if 130 < wordsN V then 2 else if V < 2 then 1 else if V % 2 = 0 then 60 else 0

/-- K is the number that goes with the modulus V. -/
def isKf (V K : Nat) : Prop := K < 18446744073709551616 ∧ (montE V = 0 → (V * K + 1) % 18446744073709551616 = 0) ∧ (montE V ≠ 0 → K = 0)

def modM (V : Nat) : List Nat := if montE V = 0 then digs 18446744073709551616 V (wordsN V) else []

def modR (V : Nat) : List Nat := if montE V = 0 then digs 18446744073709551616 (2 ^ (128 * wordsN V) % V) (wordsN V) else []

theorem montE_ok {V : Nat} (h : montE V = 0) : wordsN V ≤ 130 ∧ 2 ≤ V ∧ V % 2 = 1 := by
  unfold montE at h
  by_cases h1 : 130 < wordsN V
  · rw [if_pos h1] at h; omega
  · rw [if_neg h1] at h
    by_cases h2 : V < 2
    · rw [if_pos h2] at h; omega
    · rw [if_neg h2] at h
      by_cases h3 : V % 2 = 0
      · rw [if_pos h3] at h; omega
      · omega

end Go.Proofs.YtcjaafmlflonhaaGreatDoor

/- The plain side of layer 6: Setup. -/
namespace Go.Proofs.YtcjaafmlflonhaaGreatDoor
open Go.RowKit

/-- The cells of a modulus. -/
def modCells (a : Value) (K : Nat) (b : Value) : Array Value := #[a, .int .u64 (K : Nat), b]

theorem mod_bad {V : Nat} (h : montE V ≠ 0) : modM V = [] ∧ modR V = [] ∧ isKf V 0 := by
  refine ⟨if_neg h, if_neg h, by omega, fun e => absurd e h, fun _ => rfl⟩

end Go.Proofs.YtcjaafmlflonhaaGreatDoor

/- The plain side of layer 6: Check, Member. -/
namespace Go.Proofs.YtcjaafmlflonhaaGreatDoor
open Go.RowKit

/-- A modulus as it should be. -/
def okMod (ms : List Nat) (K : Nat) (rs : List Nat) : Prop :=
  montE (val 18446744073709551616 ms) = 0 ∧ modM (val 18446744073709551616 ms) = ms ∧ isKf (val 18446744073709551616 ms) K ∧ modR (val 18446744073709551616 ms) = rs

end Go.Proofs.YtcjaafmlflonhaaGreatDoor

