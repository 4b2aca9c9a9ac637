/- The law ProductBack, walked: whatever the two numbers. -/
import Derived.Test.YtcdeankllgpnfaaL5B
import Derived.Test.YtcdeankllgpnfaaQuH
import Derived.Test.YtcdeankllgpnfaaOpenRow
namespace Go.Proofs.Ytcdeankllgpnfaa
open Go.RowKit

theorem divQ_ok {X Y L M : Nat} (hl : L ≤ 300 ∧ M ≤ 300) (h0 : Y ≠ 0) (hX : X < 18446744073709551616 ^ L) : val 18446744073709551616 (divQ X Y L M) = X / Y ∧ Digs 18446744073709551616 (divQ X Y L M) ∧ (divQ X Y L M).length = L := by
  rw [(div_good hl h0).2.1]
  exact ⟨by rw [val_digs, Nat.mod_eq_of_lt (Nat.lt_of_le_of_lt (Nat.div_le_self _ _) hX)], digs_digs (by omega) _ _, digs_length _ _ _⟩

theorem divR_ok {X Y L M : Nat} (hl : L ≤ 300 ∧ M ≤ 300) (h0 : Y ≠ 0) (hY : Y < 18446744073709551616 ^ M) : val 18446744073709551616 (divR X Y L M) = X % Y ∧ Digs 18446744073709551616 (divR X Y L M) ∧ (divR X Y L M).length = M := by
  rw [(div_good hl h0).2.2]
  exact ⟨by rw [val_digs, Nat.mod_eq_of_lt (Nat.lt_trans (Nat.mod_lt _ (by omega)) hY)], digs_digs (by omega) _ _, digs_length _ _ _⟩

theorem mulAns_ok {X Y L M : Nat} (hl : L ≤ 300 ∧ M ≤ 300) (hX : X < 18446744073709551616 ^ L) (hY : Y < 18446744073709551616 ^ M) : val 18446744073709551616 (mulAns X Y L M) = X * Y ∧ Digs 18446744073709551616 (mulAns X Y L M) ∧ (mulAns X Y L M).length = L + M := by
  unfold mulAns
  rw [if_pos hl]
  refine ⟨?_, digs_digs (by omega) _ _, digs_length _ _ _⟩
  rw [val_digs, Nat.mod_eq_of_lt]
  rw [Nat.pow_add]
  exact Nat.mul_lt_mul_of_lt_of_le hX (Nat.le_of_lt hY) (Nat.pow_pos (by omega))

theorem dlen_small {V n : Nat} (h : V < 18446744073709551616 ^ n) : dlen V ≤ 2 * n := (dlen_le V (2 * n)).2 (by
  rw [show (4294967296 : Nat) ^ (2 * n) = 18446744073709551616 ^ n by rw [Nat.pow_mul]]
  exact h)

set_option maxRecDepth 20000 in
set_option maxHeartbeats 4000000 in
theorem walkProductBack (u : Value) (xs : List Nat) (v : Value) (ys : List Nat) (w : World) (hu : Row .u64 w u xs) (hv : Row .u64 w v ys) (hdx : Digs 18446744073709551616 xs) (hdy : Digs 18446744073709551616 ys) :
    Calls Try.prog 6 #[u, v] w fun e w' => e = .returned (.bool true) ∧ Below w.heap.size w w' := by
  have hA := f5Awake w
  obtain ⟨ao, L, cap, rfl, hL, _, _, _, _⟩ := hu.open
  obtain ⟨bo, M, dap, rfl, hM, _, _, _, _⟩ := hv.open
  by_cases h4 : L ≤ 40 ∧ M ≤ 40
  · have hF := fun W => few2 ao bo L M cap dap W true (decide_eq_true h4).symm
    have hl : L ≤ 300 ∧ M ≤ 300 := by omega
    have hXb : val 18446744073709551616 xs < 18446744073709551616 ^ L := by rw [← hL.out]; exact val_lt (by omega) hdx
    have hYb : val 18446744073709551616 ys < 18446744073709551616 ^ M := by rw [← hM.out]; exact val_lt (by omega) hdy
    obtain ⟨E, hE⟩ : ∃ E, E = divE (val 18446744073709551616 ys) L M := ⟨_, rfl⟩
    have h1 := fun W (k : Kept Nought w W) => pQuick ao bo L M cap dap xs ys E hE W (hu.grew k) (hv.grew k) hdx hdy
    have hOm := fun W (k : Kept Nought w W) => rOf _ ys W (hv.grew k) hdy (by rw [hM.out]; omega)
    have hOa := fun W (k : Kept Nought w W) => rOf _ xs W (hu.grew k) hdx (by rw [hL.out]; omega)
    by_cases h0 : val 18446744073709551616 ys = 0
    · have e1 : E = 1 := by rw [hE, (div_zero (X := 0) hl h0).1]
      subst e1
      clear hu hv hdx hdy hL hM hE hXb hYb hOa
      go_enter Try.func6, Try.ntmps6
      go_wp2_with fail
      refine hA.mono ?_
      rintro e w1 ⟨rfl, k1⟩
      go_wp2_with fail
      refine (hF w1).mono ?_
      rintro e w1' ⟨rfl, rfl⟩
      have k2 := k1.alloc (.cells #[.slice ao L cap, .slice bo M dap] 23)
      generalize w1.alloc (.cells #[.slice ao L cap, .slice bo M dap] 23) = w2 at *
      clear hA hF k1
      go_wp2_with fail
      refine (h1 w2 k2).mono ?_
      rintro e w3 ⟨v3, v3', rfl, _, _, k3⟩
      have k3' := k2.trans k3
      clear h1
      go_wp2_with fail
      refine (hOm w3 k3').mono ?_
      rintro e w4 ⟨v4, rfl, hb4, _, k4⟩
      obtain ⟨ao4, n4, cap4, rfl, hn4⟩ := big_len5 hb4
      have e4 : n4 = 0 := hn4.2 h0
      subst e4
      clear hn4 hb4 hOm
      go_wp2_with fail
      go_ret
      exact ⟨rfl, below_kept (k3'.trans k4) (Nat.le_refl _)⟩
    · have e1 : E = 0 := by rw [hE, (div_good (X := 0) hl h0).1]
      subst e1
      obtain ⟨q1, q2, q3⟩ := divQ_ok (M := M) hl h0 hXb
      obtain ⟨r1, r2, r3⟩ := divR_ok (X := val 18446744073709551616 xs) (L := L) hl h0 hYb
      have hqb := val_lt (by omega) q2
      rw [q3, q1] at hqb
      have hMul := fun W ao' cap' (hq : Row .u64 W (.slice ao' L cap') (divQ (val 18446744073709551616 xs) (val 18446744073709551616 ys) L M)) (k : Kept Nought w W) => mul0 ao' bo L M cap' dap _ ys W hq (hv.grew k) q2 hdy
      rw [q1] at hMul
      obtain ⟨m1, m2, m3⟩ := mulAns_ok (X := val 18446744073709551616 xs / val 18446744073709551616 ys) hl hqb hYb
      have hrest := Nat.div_add_mod (val 18446744073709551616 xs) (val 18446744073709551616 ys)
      rw [Nat.mul_comm] at hrest
      have hrlt : val 18446744073709551616 xs % val 18446744073709551616 ys < val 18446744073709551616 ys := Nat.mod_lt _ (by omega)
      have hd1 : dlen (val 18446744073709551616 xs / val 18446744073709551616 ys * val 18446744073709551616 ys) ≤ 100000000 := Nat.le_trans (dlen_small (n := L) (Nat.lt_of_le_of_lt (Nat.div_mul_le_self _ _) hXb)) (by omega)
      have hd2 : dlen (val 18446744073709551616 xs % val 18446744073709551616 ys) ≤ 100000000 := Nat.le_trans (dlen_small (n := L) (Nat.lt_of_le_of_lt (Nat.mod_le _ _) hXb)) (by omega)
      generalize divQ (val 18446744073709551616 xs) (val 18446744073709551616 ys) L M = ql at *
      generalize divR (val 18446744073709551616 xs) (val 18446744073709551616 ys) L M = rl at *
      generalize mulAns (val 18446744073709551616 xs / val 18446744073709551616 ys) (val 18446744073709551616 ys) L M = ml at *
      have hmlen : ml.length ≤ 100000000 := by rw [m3]; omega
      have hrlen : rl.length ≤ 100000000 := by rw [r3]; omega
      clear hu hv hdx hdy hL hM hE hXb hYb hqb q1 q2 m3 r3
      go_enter Try.func6, Try.ntmps6
      go_wp2_with fail
      refine hA.mono ?_
      rintro e w1 ⟨rfl, k1⟩
      go_wp2_with fail
      refine (hF w1).mono ?_
      rintro e w1' ⟨rfl, rfl⟩
      have k2 := k1.alloc (.cells #[.slice ao L cap, .slice bo M dap] 23)
      generalize w1.alloc (.cells #[.slice ao L cap, .slice bo M dap] 23) = w2 at *
      clear hA hF k1
      go_wp2_with fail
      refine (h1 w2 k2).mono ?_
      rintro e w3 ⟨v3, v3', rfl, hq3, hr3, k3⟩
      have k3' := k2.trans k3
      obtain ⟨qo, qn, qc, rfl, hqn, _, _, _, _⟩ := hq3.open
      obtain rfl : qn = L := hqn.out.symm.trans q3
      clear h1 q3
      go_wp2_with fail
      refine (hMul w3 qo qc hq3 k3').mono ?_
      rintro e w4 ⟨v4, rfl, hm4, k4⟩
      have k4' := k3'.trans k4
      have hO4 := rOf v4 ml w4 hm4 m2 hmlen
      rw [m1] at hO4
      clear hMul
      go_wp2_with fail
      refine hO4.mono ?_
      rintro e w5 ⟨v5, rfl, hb5, _, k5⟩
      have k5' := k4'.trans k5
      have hr5 := (hr3.grew k4).grew k5
      have hO5 := fun W (k : Kept Nought w5 W) => rOf v3' rl W (hr5.grew k) r2 hrlen
      rw [r1] at hO5
      clear hO4
      go_wp2_with fail
      refine (hO5 w5 (Kept.refl _ _)).mono ?_
      rintro e w6 ⟨v6, rfl, hb6, _, k6⟩
      have k6' := k5'.trans k6
      have hAd := rAdd v5 v6 _ _ w6 (hb5.grew k6) hb6 hd1 hd2
      rw [hrest] at hAd
      go_wp2_with fail
      refine hAd.mono ?_
      rintro e w7 ⟨v7, rfl, hb7, _, k7⟩
      have k7' := k6'.trans k7
      clear hAd
      go_wp2_with fail
      refine (hOa w7 k7').mono ?_
      rintro e w8 ⟨v8, rfl, hb8, _, k8⟩
      have k8' := k7'.trans k8
      have hC1 := rCmp v7 v8 _ _ w8 (hb7.grew k8) hb8
      rw [show cmpN (val 18446744073709551616 xs) (val 18446744073709551616 xs) = 0 by unfold cmpN; rw [if_neg (by omega), if_pos rfl]] at hC1
      clear hOa
      go_wp2_with fail
      refine hC1.mono ?_
      rintro e w9 ⟨rfl, m9, rfl⟩
      have kk := (k6.trans k7).trans k8
      have k9 := kk.drewN m9
      have k9' := k8'.drewN m9
      clear hC1
      go_wp2_with fail
      refine (hO5 _ k9).mono ?_
      rintro e w10 ⟨v10, rfl, hb10, _, k10⟩
      have k10' := k9'.trans k10
      go_wp2_with fail
      refine (hOm w10 k10').mono ?_
      rintro e w11 ⟨v11, rfl, hb11, _, k11⟩
      have hC2 := rCmp v10 v11 _ _ w11 (hb10.grew k11) hb11
      rw [cmpN_lt hrlt] at hC2
      have k11' := toHid (k10'.trans k11)
      clear hOm hO5
      go_wp2_with fail
      refine hC2.mono ?_
      rintro e w12 ⟨rfl, m12, rfl⟩
      go_wp2_with fail
      go_ret
      exact ⟨rfl, below_kept (k11'.out.drewN _) (Nat.le_refl _)⟩
  · have hF := fun W => few2 ao bo L M cap dap W false (decide_eq_false h4).symm
    clear hu hv h4
    go_enter Try.func6, Try.ntmps6
    go_wp2_with fail
    refine hA.mono ?_
    rintro e w1 ⟨rfl, k1⟩
    go_wp2_with fail
    refine (hF w1).mono ?_
    rintro e w1' ⟨rfl, rfl⟩
    go_wp2_with fail
    go_ret
    exact ⟨rfl, below_kept (k1.alloc _) (Nat.le_refl _)⟩

end Go.Proofs.Ytcdeankllgpnfaa
