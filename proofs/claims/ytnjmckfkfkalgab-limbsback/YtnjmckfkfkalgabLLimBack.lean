/- The law LimbsBack, walked: whatever the two numbers and the bit. -/
import Derived.Test.YtnjmckfkfkalgabLimO
import Derived.Test.YtnjmckfkfkalgabLimQ
import Derived.Test.YtnjmckfkfkalgabLimT
import Derived.Test.YtnjmckfkfkalgabOpenRow
namespace Go.Proofs.Ytnjmckfkfkalgab
open Go.RowKit

/-- What is added is taken off again. -/
theorem add_off {X Y n : Nat} (hX : X < 18446744073709551616 ^ n) (hY : Y < 18446744073709551616 ^ n) :
    oneN (decide ((X + Y) % 18446744073709551616 ^ n < Y)) = oneN (decide (2 ^ (64 * n) ≤ X + Y)) ∧ subN ((X + Y) % 18446744073709551616 ^ n) Y n = X := by
  unfold subN
  rw [← B64]
  generalize 18446744073709551616 ^ n = p at *
  by_cases h : X + Y < p
  · rw [Nat.mod_eq_of_lt h]
    refine ⟨?_, ?_⟩
    · congr 1
      exact decide_eq_decide.2 (by omega)
    · rw [if_neg (by omega)]; omega
  · have e : (X + Y) % p = X + Y - p := by
      rw [Nat.mod_eq_sub_mod (by omega), Nat.mod_eq_of_lt (by omega)]
    rw [e]
    refine ⟨?_, ?_⟩
    · congr 1
      exact decide_eq_decide.2 (by omega)
    · rw [if_pos (by omega)]; omega

/-- What is shifted out comes back. -/
theorem shift_back {X t n c : Nat} (ht : t ≤ 1) (hX : X < 18446744073709551616 ^ n) (hc : c = (2 * X + t) / 18446744073709551616 ^ n) :
    c ≤ 1 ∧ ((2 * X + t) % 18446744073709551616 ^ n + c % 2 * 18446744073709551616 ^ n) / 2 = X ∧ ((2 * X + t) % 18446744073709551616 ^ n + c % 2 * 18446744073709551616 ^ n) % 2 = t := by
  have hp : 0 < 18446744073709551616 ^ n := Nat.pow_pos (by omega)
  have hm := Nat.mod_add_div (2 * X + t) (18446744073709551616 ^ n)
  rw [← hc] at hm
  generalize 18446744073709551616 ^ n = p at *
  have hc1 : c ≤ 1 := by
    have : c < 2 := by rw [hc, Nat.div_lt_iff_lt_mul hp]; omega
    omega
  rw [Nat.mod_eq_of_lt (show c < 2 by omega), Nat.mul_comm c p, hm]
  omega

set_option maxRecDepth 20000 in
set_option maxHeartbeats 4000000 in
theorem walkLimbsBack (u : Value) (xs : List Nat) (v : Value) (ys : List Nat) (bit : Int) (w : World) (hu : Row .u64 w u xs) (hv : Row .u64 w v ys) (hdx : Digs 18446744073709551616 xs) (hdy : Digs 18446744073709551616 ys) (hb : (Lit.int .u64 bit).wf = true) :
    Calls Try.prog 3 #[u, v, .int .u64 bit] w fun e w' => e = .returned (.bool true) ∧ Below w.heap.size w w' := by
  obtain ⟨bt, rfl, hbt⟩ : ∃ bt : Nat, bit = (bt : Int) ∧ bt < 18446744073709551616 := by
    have := wf_u64 bit hb
    exact ⟨bit.toNat, by omega, by omega⟩
  clear hb
  have hA := lAwake w
  obtain ⟨ao, L, cap, rfl, hL, _, _, _, _⟩ := hu.open
  obtain ⟨bo, M, dap, rfl, hM, _, _, _, _⟩ := hv.open
  have eL := hL.out
  have eM := hM.out
  by_cases h4 : L ≤ 200 ∧ M ≤ 200
  · have hF := fun W => lFew2 ao bo L M cap dap W true (decide_eq_true h4).symm
    obtain ⟨n, hn⟩ : ∃ n, n = max L M := ⟨_, rfl⟩
    have hnL : L ≤ n := by omega
    have hnM : M ≤ n := by omega
    have hnb : n ≤ 200 := by omega
    have hX := val_lt_le hdx (show xs.length ≤ n by omega)
    have hY := val_lt_le hdy (show ys.length ≤ n by omega)
    have hX0 := val_lt_le hdx (Nat.le_refl _)
    obtain ⟨o1, o2⟩ := add_off hX hY
    have h1 := fun W (k : Kept Nought w W) => lAdd0 _ _ xs ys W (hu.grew k) (hv.grew k) hdx hdy (by omega) (by omega)
    rw [eL, eM, ← hn] at h1
    have h2 := fun W s (k : Kept Nought w W) hs => lSub0 s _ (digs 18446744073709551616 (val 18446744073709551616 xs + val 18446744073709551616 ys) n) ys W hs (hv.grew k) (digs_digs (by omega) _ _) hdy (by rw [digs_length]; omega) (by omega)
    rw [digs_length, eM, Nat.max_eq_left hnM, val_digs, o1, o2] at h2
    have h3 := fun W d (k : Kept Nought w W) hd => lEqual0 d _ (digs 18446744073709551616 (val 18446744073709551616 xs) n) xs W hd (hu.grew k) (digs_digs (by omega) _ _) hdx (by rw [digs_length]; omega) (by omega)
    rw [val_digs, Nat.mod_eq_of_lt hX, decide_eq_true (rfl : val 18446744073709551616 xs = val 18446744073709551616 xs), show oneN true = 1 from rfl] at h3
    obtain ⟨c1, hc1⟩ : ∃ c, c = (2 * val 18446744073709551616 xs + bt % 2) / 18446744073709551616 ^ xs.length := ⟨_, rfl⟩
    obtain ⟨q1, q2, q3⟩ := shift_back (t := bt % 2) (by omega) hX0 hc1
    have h5 := fun W (k : Kept Nought w W) => lLeft0 _ xs bt hbt c1 hc1 W (hu.grew k) hdx (by omega)
    have h6 := fun W x hx => lRight0 x (digs 18446744073709551616 (2 * val 18446744073709551616 xs + bt % 2) xs.length) c1 (by omega) (bt % 2) (by rw [val_digs, digs_length]; exact q3.symm) W hx (digs_digs (by omega) _ _) (by rw [digs_length]; omega)
    rw [val_digs, digs_length, q2, digs_val_self hdx] at h6
    have hSm := fun W y (k : Kept Nought w W) hy => rSame y _ xs xs W hy (hu.grew k)
    rw [decide_eq_true (rfl : xs = xs)] at hSm
    have hand := and_one_u64 (bt : Int) (by omega) (by omega)
    have hbb : bt % 2 = 0 ∨ bt % 2 = 1 := by omega
    clear hu hv h4 hL hM eL eM hdx hdy hX hY hX0 o1 o2 q1 q2 q3 hc1 hn
    generalize digs 18446744073709551616 (val 18446744073709551616 xs + val 18446744073709551616 ys) n = r1 at *
    generalize oneN (decide (2 ^ (64 * n) ≤ val 18446744073709551616 xs + val 18446744073709551616 ys)) = k0 at *
    generalize digs 18446744073709551616 (val 18446744073709551616 xs) n = r2 at *
    generalize digs 18446744073709551616 (2 * val 18446744073709551616 xs + bt % 2) xs.length = r3 at *
    rcases hbb with h0 | h0
    all_goals
      rw [show (bt : Int) % 2 = ((bt % 2 : Nat) : Int) by omega, h0] at hand
      rw [h0] at h6
      have hO0 := q1One false
      have hO1 := q1One true
      rw [show oneN false = 0 from rfl] at hO0
      rw [show oneN true = 1 from rfl] at hO1
      clear h0
      go_enter Try.func3, Try.ntmps3
      go_wp2_with fail
      refine hA.mono ?_
      rintro e w1 ⟨rfl, k1⟩
      go_wp2_with fail
      refine (hF w1).mono ?_
      rintro e w1' ⟨rfl, rfl⟩
      have k2 := k1.alloc (.cells #[.slice ao L cap, .slice bo M dap] 23)
      generalize w1.alloc (.cells #[.slice ao L cap, .slice bo M dap] 23) = w2 at *
      clear k1
      go_wp2_with fail
      refine (h1 w2 k2).mono ?_
      rintro e w3 ⟨v3, rfl, hr3, k3⟩
      have k3' := k2.trans k3
      go_wp2_with fail
      refine (h2 w3 v3 k3' hr3).mono ?_
      rintro e w4 ⟨v4, rfl, hr4, k4⟩
      have k4' := k3'.trans k4
      clear k2 k3 k3' k4 hr3
      go_wp2_with fail
      refine (h5 w4 k4').mono ?_
      rintro e w5 ⟨v5, rfl, hr5, k5⟩
      have k5' := k4'.trans k5
      have hr4' := hr4.grew k5
      go_wp2_with fail
      refine (h6 w5 v5 hr5).mono ?_
      rintro e w6 ⟨v6, rfl, hr6, k6⟩
      have k6' := k5'.trans k6
      have hr4'' := hr4'.grew k6
      clear k5 k5' k6 k4' hr4 hr4' hr5
      go_wp2_with fail
      refine (h3 w6 v4 k6' hr4'').mono ?_
      rintro e w7 ⟨rfl, k7⟩
      have k7' := k6'.trans k7
      have hr6' := hr6.grew k7
      go_wp2_with fail
      refine (hSm w7 v6 k7' hr6').mono ?_
      rintro e w8 ⟨rfl, m, rfl⟩
      have k8 := k7'.drewN m
      clear k6' k7 k7' hr4'' hr6 hr6' h1 h2 h3 h5 h6 hSm
      go_wp2_with fail
      first
        | refine (hO0 _).mono ?_
        | refine (hO1 _).mono ?_
      rintro e w9 ⟨rfl, rfl⟩
      go_wp2_with fail
      go_ret
      exact ⟨by first | rfl | simp, below_kept k8 (Nat.le_refl _)⟩
  · have hF := fun W => lFew2 ao bo L M cap dap W false (decide_eq_false h4).symm
    clear hu hv h4
    go_enter Try.func3, Try.ntmps3
    go_wp2_with fail
    refine hA.mono ?_
    rintro e w1 ⟨rfl, k1⟩
    go_wp2_with fail
    refine (hF w1).mono ?_
    rintro e w1' ⟨rfl, rfl⟩
    go_wp2_with fail
    go_ret
    exact ⟨rfl, below_kept (k1.alloc _) (Nat.le_refl _)⟩

end Go.Proofs.Ytnjmckfkfkalgab
