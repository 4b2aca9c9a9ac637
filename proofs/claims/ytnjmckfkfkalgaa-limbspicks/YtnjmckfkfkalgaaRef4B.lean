/- The plain side of layer 4: differences, tests, choices. -/
import Derived.Test.YtnjmckfkfkalgaaRef4A
namespace Go.Proofs.Ytnjmckfkfkalgaa
open Go.RowKit

/-- What is left, modulo 2^(64 n). -/
def subN (A B n : Nat) : Nat := if A < B then A + 2 ^ (64 * n) - B else A - B

set_option maxHeartbeats 800000 in
theorem q4Sub (ao bo : Option Addr) (L M cap dap : Nat) (xs ys : List Nat) (w : World) (hu : Row .u64 w (.slice ao L cap) xs) (hv : Row .u64 w (.slice bo M dap) ys) (hdx : Digs 18446744073709551616 xs) (hdy : Digs 18446744073709551616 ys) (hL : L ≤ 100000) (hM : M ≤ 100000) :
    Calls Try.prog 14 #[.slice ao L cap, .slice bo M dap] w fun e w' => ∃ v', e = .returned (.tuple #[v', .int .u64 (oneN (decide (val 18446744073709551616 xs < val 18446744073709551616 ys)) : Nat)]) ∧ Row .u64 w' v' (digs 18446744073709551616 (subN (val 18446744073709551616 xs) (val 18446744073709551616 ys) (max L M)) (max L M)) ∧ Kept Nought w w' := by
  have lx : xs.length = L := by obtain ⟨_, _, _, e, h, _⟩ := hu.open; cases e; exact h.out
  have ly : ys.length = M := by obtain ⟨_, _, _, e, h, _⟩ := hv.open; cases e; exact h.out
  have hlg := q4Long ao bo L M cap dap w
  have hOx := rOf _ xs w hu hdx (by omega)
  have hOy := fun W (k : Kept Nought w W) => rOf _ ys W (hv.grew k) hdy (by omega)
  have dx := dlen_val hdx
  have hBt : val 18446744073709551616 ys ≤ 2 ^ (64 * max L M) := by
    have h1 := val_lt (B := 18446744073709551616) (by omega) hdy
    rw [ly, show (18446744073709551616 : Nat) ^ M = 2 ^ (64 * M) by rw [Nat.pow_mul]] at h1
    exact Nat.le_of_lt (Nat.lt_of_lt_of_le h1 (Nat.pow_le_pow_right (by omega) (by omega)))
  have hnb : max L M ≤ 100000 := by omega
  clear hu hv
  generalize val 18446744073709551616 xs = A at *
  generalize val 18446744073709551616 ys = B at *
  generalize max L M = n at *
  by_cases hlt : A < B
  · rw [decide_eq_true hlt, show subN A B n = A + 2 ^ (64 * n) - B from if_pos hlt]
    have hcv : cmpN A B = -1 := cmpN_lt hlt
    go_enter Try.func14, Try.ntmps14
    go_wp2_with fail
    refine hlg.mono ?_
    rintro e w' ⟨rfl, rfl⟩
    go_wp2_with fail
    refine hOx.mono ?_
    rintro e w1 ⟨v1, rfl, hb1, _, k1⟩
    go_wp2_with fail
    refine (hOy w1 k1).mono ?_
    rintro e w2 ⟨v2, rfl, hb2, _, k2⟩
    have hb1' := hb1.grew k2
    have hC := rCmp v1 v2 A B w2 hb1' hb2
    rw [hcv] at hC
    have k2' := k1.trans k2
    clear hlg hOx hOy k1 k2 hb1 hcv
    go_wp2_with fail
    refine hC.mono ?_
    rintro e w3 ⟨rfl, m, rfl⟩
    have kd := (Kept.refl Nought w2).drewN m
    have k3 := k2'.trans kd
    have hb1a := hb1'.grew kd
    have hb2a := hb2.grew kd
    have hT := q4Top n (by omega) (w2.drewN m)
    clear hC k2' kd hb1' hb2
    go_wp2_with fail
    refine hT.mono ?_
    rintro e w4 ⟨v4, rfl, hb4, k4⟩
    have k4' := k3.trans k4
    have hA := rAdd v1 v4 A (2 ^ (64 * n)) w4 (hb1a.grew k4) hb4 (by omega) (by have := dlen_pow n; omega)
    have hb2b := hb2a.grew k4
    clear hT k3 k4 hb1a hb2a hb4
    go_wp2_with fail
    refine hA.mono ?_
    rintro e w5 ⟨v5, rfl, hb5, _, k5⟩
    have k5' := k4'.trans k5
    have hS := rSub v5 v2 (A + 2 ^ (64 * n)) B w5 hb5 (hb2b.grew k5) (by omega)
    clear hA k4' k5 hb5 hb2b
    go_wp2_with fail
    refine hS.mono ?_
    rintro e w6 ⟨v6, rfl, hb6, _, k6⟩
    have k6' := k5'.trans k6
    have hN := rNat v6 (A + 2 ^ (64 * n) - B) n w6 hb6 (by omega)
    clear hS k5' k6 hb6
    go_wp2_with fail
    refine hN.mono ?_
    rintro e w7 ⟨v7, rfl, hr7, _, k7⟩
    go_wp2
    go_ret2
    exact ⟨_, rfl, hr7, k6'.trans k7⟩
  · rw [decide_eq_false hlt, show subN A B n = A - B from if_neg hlt]
    have hcv : ¬ cmpN A B < 0 := by
      rcases Nat.lt_or_ge B A with h | h
      · rw [cmpN_gt h]; omega
      · rw [cmpN_eq (by omega)]; omega
    go_enter Try.func14, Try.ntmps14
    go_wp2_with fail
    refine hlg.mono ?_
    rintro e w' ⟨rfl, rfl⟩
    go_wp2_with fail
    refine hOx.mono ?_
    rintro e w1 ⟨v1, rfl, hb1, _, k1⟩
    go_wp2_with fail
    refine (hOy w1 k1).mono ?_
    rintro e w2 ⟨v2, rfl, hb2, _, k2⟩
    have hb1' := hb1.grew k2
    have hC := rCmp v1 v2 A B w2 hb1' hb2
    generalize cmpN A B = c at *
    have k2' := k1.trans k2
    clear hlg hOx hOy k1 k2 hb1
    go_wp2_with fail
    refine hC.mono ?_
    rintro e w3 ⟨rfl, m, rfl⟩
    have kd := (Kept.refl Nought w2).drewN m
    have k3 := k2'.trans kd
    have hS := rSub v1 v2 A B (w2.drewN m) (hb1'.grew kd) (hb2.grew kd) (by omega)
    clear hC k2' kd hb1' hb2
    go_wp2_with fail
    refine hS.mono ?_
    rintro e w6 ⟨v6, rfl, hb6, _, k6⟩
    have k6' := k3.trans k6
    have hN := rNat v6 (A - B) n w6 hb6 (by omega)
    clear hS k3 k6 hb6
    go_wp2_with fail
    refine hN.mono ?_
    rintro e w7 ⟨v7, rfl, hr7, _, k7⟩
    go_wp2
    go_ret2
    exact ⟨_, rfl, hr7, k6'.trans k7⟩

set_option maxHeartbeats 400000 in
theorem q4Less (u v : Value) (xs ys : List Nat) (w : World) (hu : Row .u64 w u xs) (hv : Row .u64 w v ys) (hdx : Digs 18446744073709551616 xs) (hdy : Digs 18446744073709551616 ys) (hL : xs.length ≤ 100000) (hM : ys.length ≤ 100000) :
    Calls Try.prog 17 #[u, v] w fun e w' => e = .returned (.int .u64 (oneN (decide (val 18446744073709551616 xs < val 18446744073709551616 ys)) : Nat)) ∧ Kept Nought w w' := by
  have hOx := rOf _ xs w hu hdx (by omega)
  have hOy := fun W (k : Kept Nought w W) => rOf _ ys W (hv.grew k) hdy (by omega)
  clear hu hv
  generalize val 18446744073709551616 xs = A at *
  generalize val 18446744073709551616 ys = B at *
  have HC : Hid (decide (cmpN A B < 0) = decide (A < B)) := by
    refine decide_eq_decide.2 ?_
    rcases Nat.lt_trichotomy A B with h | h | h
    · rw [cmpN_lt h]; constructor <;> intro k <;> omega
    · rw [cmpN_eq h]; constructor <;> intro k <;> omega
    · rw [cmpN_gt h]; constructor <;> intro k <;> omega
  have hO := fun W => q1One (decide (cmpN A B < 0)) W
  go_enter Try.func17, Try.ntmps17
  go_wp2_with fail
  refine hOx.mono ?_
  rintro e w1 ⟨v1, rfl, hb1, _, k1⟩
  go_wp2_with fail
  refine (hOy w1 k1).mono ?_
  rintro e w2 ⟨v2, rfl, hb2, _, k2⟩
  have hC := rCmp v1 v2 A B w2 (hb1.grew k2) hb2
  have k2' := k1.trans k2
  generalize cmpN A B = c at *
  clear hOx hOy k1 k2 hb1 hb2
  go_wp2_with fail
  refine hC.mono ?_
  rintro e w3 ⟨rfl, m, rfl⟩
  go_wp2_with fail
  refine (hO _).mono ?_
  rintro e w4 ⟨rfl, rfl⟩
  go_wp2
  go_ret
  exact ⟨by rw [HC.out]; rfl, k2'.drewN m⟩

set_option maxHeartbeats 400000 in
theorem q4Equal (u v : Value) (xs ys : List Nat) (w : World) (hu : Row .u64 w u xs) (hv : Row .u64 w v ys) (hdx : Digs 18446744073709551616 xs) (hdy : Digs 18446744073709551616 ys) (hL : xs.length ≤ 100000) (hM : ys.length ≤ 100000) :
    Calls Try.prog 19 #[u, v] w fun e w' => e = .returned (.int .u64 (oneN (decide (val 18446744073709551616 xs = val 18446744073709551616 ys)) : Nat)) ∧ Kept Nought w w' := by
  have hOx := rOf _ xs w hu hdx (by omega)
  have hOy := fun W (k : Kept Nought w W) => rOf _ ys W (hv.grew k) hdy (by omega)
  clear hu hv
  generalize val 18446744073709551616 xs = A at *
  generalize val 18446744073709551616 ys = B at *
  have HC : Hid ((cmpN A B == 0) = decide (A = B)) := by
    unfold Hid
    rcases Nat.lt_trichotomy A B with h | h | h
    · rw [cmpN_lt h, decide_eq_false (by omega)]; rfl
    · rw [cmpN_eq h, decide_eq_true h]; rfl
    · rw [cmpN_gt h, decide_eq_false (by omega)]; rfl
  have hO := fun W => q1One (cmpN A B == 0) W
  go_enter Try.func19, Try.ntmps19
  go_wp2_with fail
  refine hOx.mono ?_
  rintro e w1 ⟨v1, rfl, hb1, _, k1⟩
  go_wp2_with fail
  refine (hOy w1 k1).mono ?_
  rintro e w2 ⟨v2, rfl, hb2, _, k2⟩
  have hC := rCmp v1 v2 A B w2 (hb1.grew k2) hb2
  have k2' := k1.trans k2
  generalize cmpN A B = c at *
  clear hOx hOy k1 k2 hb1 hb2
  go_wp2_with fail
  refine hC.mono ?_
  rintro e w3 ⟨rfl, m, rfl⟩
  go_wp2_with fail
  refine (hO _).mono ?_
  rintro e w4 ⟨rfl, rfl⟩
  go_wp2
  go_ret
  exact ⟨by rw [HC.out]; rfl, k2'.drewN m⟩

end Go.Proofs.Ytnjmckfkfkalgaa
