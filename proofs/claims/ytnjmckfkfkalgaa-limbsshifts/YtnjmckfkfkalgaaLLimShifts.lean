/- The law LimbsShifts, walked: whatever the number and the bit. -/
import Derived.Test.YtnjmckfkfkalgaaLimO
import Derived.Test.YtnjmckfkfkalgaaLimT
import Derived.Test.YtnjmckfkfkalgaaRef4E
import Derived.Test.YtnjmckfkfkalgaaOpenRow
namespace Go.Proofs.Ytnjmckfkfkalgaa
open Go.RowKit

/-- The bit that falls out at the top is the top word's highest. -/
theorem left_out {xs : List Nat} {q t : Nat} (hd : Digs 18446744073709551616 xs) (hl : xs.length = q + 1) (ht : t ≤ 1) : (2 * val 18446744073709551616 xs + t) / 18446744073709551616 ^ (q + 1) = xs.getD q 0 / 9223372036854775808 := by
  have e := dig_val (by omega) hd q
  have hX := val_lt (by omega) hd
  rw [hl] at hX
  rw [← e]
  generalize val 18446744073709551616 xs = X at *
  unfold dig
  have h1 : X / 18446744073709551616 ^ q < 18446744073709551616 := by
    rw [Nat.div_lt_iff_lt_mul (Nat.pow_pos (by omega)), Nat.mul_comm, ← Nat.pow_succ]; exact hX
  rw [Nat.mod_eq_of_lt h1, Nat.pow_succ, ← Nat.div_div_eq_div_mul]
  have hp : 0 < 18446744073709551616 ^ q := Nat.pow_pos (by omega)
  generalize 18446744073709551616 ^ q = p at *
  have h2 : X = X % p + p * (X / p) := (Nat.mod_add_div X p).symm
  have h3 : X % p < p := Nat.mod_lt _ hp
  generalize X / p = T at *
  generalize X % p = R at *
  have h4 : 2 * X + t = (2 * R + t) + p * (2 * T) := by rw [h2, Nat.mul_add, Nat.mul_left_comm 2 p T]; omega
  rw [h4, Nat.add_mul_div_left _ _ hp]
  have h5 : (2 * R + t) / p < 2 := by
    rw [Nat.div_lt_iff_lt_mul hp]; omega
  generalize (2 * R + t) / p = s at *
  omega

theorem right_num (X bt q : Nat) : (X + bt % 2 * 18446744073709551616 ^ (q + 1)) / 2 = X / 2 + selN bt (2 ^ (64 * (q + 1) - 1)) 0 := by
  have e : (18446744073709551616 : Nat) ^ (q + 1) = 2 * 2 ^ (64 * (q + 1) - 1) := by
    rw [B64, Nat.mul_comm 2, ← Nat.pow_succ, show (64 * (q + 1) - 1).succ = 64 * (q + 1) by omega]
  rw [e]
  generalize 2 ^ (64 * (q + 1) - 1) = p
  unfold selN
  have : bt % 2 = 0 ∨ bt % 2 = 1 := by omega
  rcases this with h | h
  · rw [h, if_neg (by omega)]; omega
  · rw [h, if_pos rfl]; omega

theorem right_out {xs : List Nat} {q bt : Nat} (hl : xs.length = q + 1) : (val 18446744073709551616 xs + bt % 2 * 18446744073709551616 ^ (q + 1)) % 2 = xs.getD 0 0 % 2 := by
  rw [Nat.pow_succ, ← Nat.mul_assoc]
  cases xs with
  | nil => simp at hl
  | cons x r =>
    simp only [val, List.getD_cons_zero]
    generalize bt % 2 * 18446744073709551616 ^ q = s
    omega

set_option maxRecDepth 20000 in
set_option maxHeartbeats 2000000 in
theorem walkLimbsShifts (u : Value) (xs : List Nat) (bit : Int) (w : World) (hu : Row .u64 w u xs) (hdx : Digs 18446744073709551616 xs) (hb : (Lit.int .u64 bit).wf = true) :
    Calls Try.prog 7 #[u, .int .u64 bit] w fun e w' => e = .returned (.bool true) ∧ Below w.heap.size w w' := by
  obtain ⟨bt, rfl, hbt⟩ : ∃ bt : Nat, bit = (bt : Int) ∧ bt < 18446744073709551616 := by
    have := wf_u64 bit hb
    exact ⟨bit.toNat, by omega, by omega⟩
  clear hb
  have hA := lAwake w
  obtain ⟨ao, L, cap, rfl, hL, _, _, _, _⟩ := hu.open
  have eL := hL.out
  by_cases h4 : L ≤ 200
  · have hF := fun W => lFew1 ao L cap W true (decide_eq_true h4).symm
    obtain ⟨c1, hc1⟩ : ∃ c, c = (2 * val 18446744073709551616 xs + bt % 2) / 18446744073709551616 ^ xs.length := ⟨_, rfl⟩
    obtain ⟨c2, hc2⟩ : ∃ c, c = (val 18446744073709551616 xs + bt % 2 * 18446744073709551616 ^ xs.length) % 2 := ⟨_, rfl⟩
    have h1 := fun W (k : Kept Nought w W) => lLeft0 _ xs bt hbt c1 hc1 W (hu.grew k) hdx (by omega)
    have h3 := fun W (k : Kept Nought w W) => lRight0 _ xs bt hbt c2 hc2 W (hu.grew k) hdx (by omega)
    obtain ⟨r1, hr1⟩ : ∃ r, r = digs 18446744073709551616 (2 * val 18446744073709551616 xs + bt % 2) xs.length := ⟨_, rfl⟩
    obtain ⟨r2, hr2⟩ : ∃ r, r = digs 18446744073709551616 ((val 18446744073709551616 xs + bt % 2 * 18446744073709551616 ^ xs.length) / 2) xs.length := ⟨_, rfl⟩
    have h2 : ∀ W, Kept Nought w W → Calls Try.prog 28 #[.slice ao L cap, .int .u64 (bt : Nat)] W fun e w' => ∃ v', e = .returned (.tuple #[v', .int .u64 (c1 : Nat)]) ∧ Row .u64 w' v' r1 ∧ Kept Nought W w' := by
      intro W k
      cases L with
      | zero =>
        obtain rfl : xs = [] := List.eq_nil_of_length_eq_zero eL
        have e1 : c1 = bt % 2 := by rw [hc1]; simp [val]
        have e2 : r1 = [] := by rw [hr1]; rfl
        rw [e1, e2]
        refine (q4Left0 bt hbt ao cap W).mono ?_
        rintro e w' ⟨rfl, rfl⟩
        exact ⟨_, rfl, Row.nil _ _, Kept.refl _ _⟩
      | succ q =>
        rw [hc1, hr1, eL, left_out hdx eL (by omega)]
        exact q4Left bt hbt ao q cap xs W (hu.grew k) hdx (by omega)
    have h5 : ∀ W, Kept Nought w W → Calls Try.prog 30 #[.slice ao L cap, .int .u64 (bt : Nat)] W fun e w' => ∃ v', e = .returned (.tuple #[v', .int .u64 (c2 : Nat)]) ∧ Row .u64 w' v' r2 ∧ Kept Nought W w' := by
      intro W k
      cases L with
      | zero =>
        obtain rfl : xs = [] := List.eq_nil_of_length_eq_zero eL
        have e1 : c2 = bt % 2 := by rw [hc2]; simp [val]
        have e2 : r2 = [] := by rw [hr2]; rfl
        rw [e1, e2]
        refine (q4Right0 bt hbt ao cap W).mono ?_
        rintro e w' ⟨rfl, rfl⟩
        exact ⟨_, rfl, Row.nil _ _, Kept.refl _ _⟩
      | succ q =>
        rw [hc2, hr2, eL, right_num, right_out eL]
        exact q4Right bt hbt ao q cap xs W (hu.grew k) hdx (by omega)
    rw [← hr1] at h1
    rw [← hr2] at h3
    clear hu h4 hL eL hdx hc1 hc2 hr1 hr2
    go_enter Try.func7, Try.ntmps7
    go_wp2_with fail
    refine hA.mono ?_
    rintro e w1 ⟨rfl, k1⟩
    go_wp2_with fail
    refine (hF w1).mono ?_
    rintro e w1' ⟨rfl, rfl⟩
    have k2 := k1.alloc (.cells #[.slice ao L cap] 23)
    generalize w1.alloc (.cells #[.slice ao L cap] 23) = w2 at *
    clear hA hF k1
    go_wp2_with fail
    refine (h1 w2 k2).mono ?_
    rintro e w3 ⟨v3, rfl, hr3, k3⟩
    have k3' := k2.trans k3
    go_wp2_with fail
    refine (h2 w3 k3').mono ?_
    rintro e w4 ⟨v4, rfl, hr4, k4⟩
    have k4' := k3'.trans k4
    have hr3' := hr3.grew k4
    clear h1 h2 hr3 k2 k3 k3' k4
    go_wp2_with fail
    refine (h3 w4 k4').mono ?_
    rintro e w5 ⟨v5, rfl, hr5, k5⟩
    have k5' := k4'.trans k5
    go_wp2_with fail
    refine (h5 w5 k5').mono ?_
    rintro e w6 ⟨v6, rfl, hr6, k6⟩
    have k6' := toHid (k5'.trans k6)
    have hB1 := lBoth v3 v4 r1 c1 w6 ((hr3'.grew k5).grew k6) ((hr4.grew k5).grew k6)
    have hB2 := fun m => lBoth v5 v6 r2 c2 (w6.drewN m) ((hr5.grew k6).grew ((Kept.refl _ _).drewN m)) (hr6.grew ((Kept.refl _ _).drewN m))
    clear h3 h5 k5 k5' k6 hr3' hr4 hr5 hr6 k4'
    go_wp2_with fail
    refine hB1.mono ?_
    rintro e w7 ⟨rfl, m, rfl⟩
    go_wp2_with fail
    refine (hB2 m).mono ?_
    rintro e w8 ⟨rfl, m2, rfl⟩
    go_wp2_with fail
    go_ret
    exact ⟨rfl, below_kept (k6'.out.drewN _) (Nat.le_refl _)⟩
  · have hF := fun W => lFew1 ao L cap W false (decide_eq_false h4).symm
    clear hu h4
    go_enter Try.func7, Try.ntmps7
    go_wp2_with fail
    refine hA.mono ?_
    rintro e w1 ⟨rfl, k1⟩
    go_wp2_with fail
    refine (hF w1).mono ?_
    rintro e w1' ⟨rfl, rfl⟩
    go_wp2_with fail
    go_ret
    exact ⟨rfl, below_kept (k1.alloc _) (Nat.le_refl _)⟩

end Go.Proofs.Ytnjmckfkfkalgaa
