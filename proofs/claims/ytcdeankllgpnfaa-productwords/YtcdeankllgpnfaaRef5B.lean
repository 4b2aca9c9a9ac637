/- The plain side of layer 5: a number times a word, and another number. -/
import Derived.Test.YtcdeankllgpnfaaRef5A
namespace Go.Proofs.Ytcdeankllgpnfaa
open Go.RowKit

/-- What MulWord answers. -/
def mwL (X W Y L M : Nat) : List Nat := if okLen L M = true then digs 18446744073709551616 (X * W + Y) (max L M) else []

def mwC (X W Y L M : Nat) : Nat := if okLen L M = true then (X * W + Y) / 18446744073709551616 ^ max L M else 0

theorem mw_lt {X W Y n : Nat} (hX : X < 18446744073709551616 ^ n) (hW : W < 18446744073709551616) (hY : Y < 18446744073709551616 ^ n) : X * W + Y < 18446744073709551616 ^ (n + 1) := by
  rw [Nat.pow_succ]
  generalize 18446744073709551616 ^ n = p at *
  have h1 : X * W ≤ (p - 1) * 18446744073709551615 := Nat.mul_le_mul (by omega) (by omega)
  have h2 : (p - 1) * 18446744073709551615 + p ≤ p * 18446744073709551616 := by
    rw [Nat.sub_mul]; omega
  omega

theorem dig_top {V n : Nat} (h : V < 18446744073709551616 ^ (n + 1)) : dig 18446744073709551616 V n = V / 18446744073709551616 ^ n := by
  unfold dig
  rw [Nat.mod_eq_of_lt]
  rw [Nat.div_lt_iff_lt_mul (Nat.pow_pos (by omega)), Nat.mul_comm, ← Nat.pow_succ]
  exact h

theorem digs_take (V n : Nat) : (digs 18446744073709551616 V (n + 1)).take n = digs 18446744073709551616 V n := by
  rw [digs, List.take_append_of_le_length (by rw [digs_length]; exact Nat.le_refl _), List.take_of_length_le (by rw [digs_length]; exact Nat.le_refl _)]

theorem val_lt_le5 {xs : List Nat} {n : Nat} (hd : Digs 18446744073709551616 xs) (hl : xs.length ≤ n) : val 18446744073709551616 xs < 18446744073709551616 ^ n :=
  Nat.lt_of_lt_of_le (val_lt (by omega) hd) (Nat.pow_le_pow_right (by omega) hl)

theorem Row.cutCap {k : IntKind} {w : World} {ao : Option Addr} {n cap m : Nat} {zs : List Nat} (h : Row k w (.slice ao n cap) zs) (hm : m ≤ zs.length) (ha : ao ≠ none) : Row k w (.slice ao m m) (zs.take m) := by
  obtain ⟨ao', cap', e, h1, h2, h3, h4⟩ := h
  simp only [Value.slice.injEq] at e
  obtain ⟨rfl, _, rfl⟩ := e
  have hl : (zs.take m).length = m := by rw [List.length_take]; omega
  refine ⟨ao, m, by rw [hl], by omega, by omega, fun e => absurd e ha, fun i hi => ?_⟩
  rw [hl] at hi
  obtain ⟨b, off, e, hc⟩ := h4 i (by omega)
  refine ⟨b, off, e, ?_⟩
  rw [hc, List.getD_eq_getElem?_getD, List.getD_eq_getElem?_getD, List.getElem?_take, if_pos hi]

set_option maxRecDepth 20000 in
set_option maxHeartbeats 1000000 in
theorem q5MulWord (ao bo : Option Addr) (L M cap dap : Nat) (xs ys : List Nat) (x c : Nat) (hx : x < 18446744073709551616) (hc : c = mwC (val 18446744073709551616 xs) x (val 18446744073709551616 ys) L M) (w : World) (hu : Row .u64 w (.slice ao L cap) xs) (hv : Row .u64 w (.slice bo M dap) ys) (hdx : Digs 18446744073709551616 xs) (hdy : Digs 18446744073709551616 ys) :
    Calls Try.prog 12 #[.slice ao L cap, .int .u64 (x : Nat), .slice bo M dap] w fun e w' => ∃ v', e = .returned (.tuple #[v', .int .u64 (c : Nat)]) ∧ Row .u64 w' v' (mwL (val 18446744073709551616 xs) x (val 18446744073709551616 ys) L M) ∧ Kept Nought w w' := by
  have lx : xs.length = L := by obtain ⟨_, _, _, e, h, _⟩ := hu.open; cases e; exact h.out
  have ly : ys.length = M := by obtain ⟨_, _, _, e, h, _⟩ := hv.open; cases e; exact h.out
  unfold mwC at hc
  unfold mwL
  by_cases hL : L ≤ 300
  · have l1 := q5Long ao L cap false (by rw [decide_eq_false (by omega)]) w
    by_cases hM : M ≤ 300
    · have l2 := q5Long bo M dap false (by rw [decide_eq_false (by omega)]) w
      have hok : okLen L M = true := by unfold okLen; exact decide_eq_true ⟨hL, hM⟩
      rw [if_pos hok] at hc ⊢
      have hX := val_lt_le5 hdx (show xs.length ≤ max L M by omega)
      have hY := val_lt_le5 hdy (show ys.length ≤ max L M by omega)
      have hS := mw_lt hX hx hY
      have hOx := rOf _ xs w hu hdx (by omega)
      have hOy := fun W (k : Kept Nought w W) => rOf _ ys W (hv.grew k) hdy (by omega)
      have hSm := fun W => rSmall x hx W
      have dx := dlen_val5 hdx
      have dy := dlen_val5 hdy
      have dxw : dlen x ≤ 2 := by rw [dlen_le]; omega
      have hmax : max (L : Int) (M : Int) = ((max L M : Nat) : Int) := by omega
      have hnb : max L M ≤ 300 := by omega
      clear hu hv hdx hdy hX hY hok
      generalize val 18446744073709551616 xs = A at *
      generalize val 18446744073709551616 ys = B at *
      generalize max L M = n at *
      have dxm : dlen (A * x) ≤ 2 * xs.length + 2 := by
        have h1 := (dlen_le A (2 * xs.length)).1 dx
        have h2 := (dlen_le x 2).1 dxw
        rw [dlen_le]
        have h3 : A * x < 4294967296 ^ (2 * xs.length) * 4294967296 ^ 2 := by
          rcases Nat.eq_zero_or_pos x with h0 | h0
          · subst h0; rw [Nat.mul_zero]; exact Nat.mul_pos (Nat.pow_pos (by omega)) (Nat.pow_pos (by omega))
          · exact Nat.lt_of_lt_of_le (Nat.mul_lt_mul_of_pos_right h1 h0) (Nat.mul_le_mul_left _ (Nat.le_of_lt h2))
        rw [← Nat.pow_add] at h3
        exact h3
      have HS := toHid hS
      have HC := toHid hc
      clear hS hc
      go_enter Try.func12, Try.ntmps12
      go_wp2_with fail
      refine l1.mono ?_
      rintro e w' ⟨rfl, rfl⟩
      go_wp2_with fail
      refine l2.mono ?_
      rintro e w' ⟨rfl, rfl⟩
      go_wp2_with fail
      refine hOx.mono ?_
      rintro e w1 ⟨v1, rfl, hb1, _, k1⟩
      go_wp2_with fail
      refine (hSm w1).mono ?_
      rintro e w2 ⟨v2, rfl, hb2, _, k2⟩
      have hA := rMul v1 v2 A x w2 (hb1.grew k2) hb2 (by omega) (by omega)
      have k2' := k1.trans k2
      clear l1 l2 hOx k1 k2 hb1 hb2 hSm
      go_wp2_with fail
      refine hA.mono ?_
      rintro e w3 ⟨v3, rfl, hb3, _, k3⟩
      have k3' := k2'.trans k3
      clear hA k2' k3
      go_wp2_with fail
      refine (hOy w3 k3').mono ?_
      rintro e w4 ⟨v4, rfl, hb4, _, k4⟩
      have k4' := k3'.trans k4
      have hB := rAdd v3 v4 (A * x) B w4 (hb3.grew k4) hb4 (by omega) (by omega)
      clear hOy k3' k4 hb3 hb4
      go_wp2_with fail
      refine hB.mono ?_
      rintro e w5 ⟨v5, rfl, hb5, _, k5⟩
      have k5' := k4'.trans k5
      have hN := rNat v5 (A * x + B) (n + 1) w5 hb5 (by omega)
      rw [show ((n + 1 : Nat) : Int) = (n : Int) + 1 by omega] at hN
      clear hB k4' k5 hb5
      go_wp2_with fail
      refine hN.mono ?_
      rintro e w6 ⟨v6, rfl, hr6, _, k6⟩
      have k6' := k5'.trans k6
      obtain ⟨a6, n6, c6, rfl, hN6, h61, h62, h63, hn6⟩ := hr6.open
      obtain rfl : n6 = n + 1 := by rw [← hN6.out, digs_length]
      obtain ⟨b6, off6, rfl, hc6⟩ := hn6 n (by omega)
      have hcut := toHid (hr6.cutCap (m := n) (by rw [digs_length]; omega) (by simp))
      rw [digs_take] at hcut
      rw [digs_getD _ _ _ _ (by omega), dig_top HS.out] at hc6
      obtain ⟨t, ht⟩ : ∃ t, t = (A * x + B) / 18446744073709551616 ^ n := ⟨_, rfl⟩
      rw [← ht] at hc6
      have HT : Hid (c = t) := HC.out.trans ht.symm
      clear hN k5' k6 hn6 hr6 ht hN6
      go_wp2_with fail
      go_region
      all_goals
        go_wp2
        go_ret2
        rw [HT.out]
        exact ⟨_, rfl, hcut.out, k6'.drew⟩
    · have l2 := q5Long bo M dap true (by rw [decide_eq_true (by omega)]) w
      have hok : ¬ okLen L M = true := by unfold okLen; simp [hM]
      rw [if_neg hok] at hc ⊢
      subst hc
      clear hu hv
      go_enter Try.func12, Try.ntmps12
      go_wp2_with fail
      refine l1.mono ?_
      rintro e w' ⟨rfl, rfl⟩
      go_wp2_with fail
      refine l2.mono ?_
      rintro e w' ⟨rfl, rfl⟩
      go_wp2
      go_ret2
      exact ⟨_, rfl, Row.nil _ _, Kept.refl _ _⟩
  · have l1 := q5Long ao L cap true (by rw [decide_eq_true (by omega)]) w
    have hok : ¬ okLen L M = true := by unfold okLen; simp [hL]
    rw [if_neg hok] at hc ⊢
    subst hc
    clear hu hv
    go_enter Try.func12, Try.ntmps12
    go_wp2_with fail
    refine l1.mono ?_
    rintro e w' ⟨rfl, rfl⟩
    go_wp2
    go_ret2
    exact ⟨_, rfl, Row.nil _ _, Kept.refl _ _⟩

end Go.Proofs.Ytcdeankllgpnfaa
