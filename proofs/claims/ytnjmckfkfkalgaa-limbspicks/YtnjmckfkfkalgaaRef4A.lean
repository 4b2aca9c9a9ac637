/- The plain side of layer 4 (package sconceref04): sums, differences, tests, choices of any numbers. -/
import Derived.Test.YtnjmckfkfkalgaaBigSub
import Derived.Test.YtnjmckfkfkalgaaBigShift
namespace Go.Proofs.Ytnjmckfkfkalgaa
open Go.RowKit

/-- One, for a test. -/
def oneN (b : Bool) : Nat := if b = true then 1 else 0

theorem q1One (b : Bool) (w : World) : Calls Try.prog 39 #[.bool b] w fun e w' => e = .returned (.int .u64 (oneN b : Nat)) ∧ w' = w := by
  cases b
  · go_enter Try.func39, Try.ntmps39
    go_wp2
    go_ret
    exact ⟨rfl, rfl⟩
  · go_enter Try.func39, Try.ntmps39
    go_wp2
    go_ret
    exact ⟨rfl, rfl⟩

theorem q4Long (ao bo : Option Addr) (L M cap dap : Nat) (w : World) : Calls Try.prog 35 #[.slice ao L cap, .slice bo M dap] w fun e w' => e = .returned (.int .i64 (max L M : Nat)) ∧ w' = w := by
  have e : ((max L M : Nat) : Int) = max (L : Int) (M : Int) := by omega
  rw [e]
  go_enter Try.func35, Try.ntmps35
  go_wp2
  go_ret
  exact ⟨rfl, rfl⟩

theorem dlen_pow (n : Nat) : dlen (2 ^ (64 * n)) ≤ 2 * n + 1 := by
  rw [dlen_le, show (4294967296 : Nat) ^ (2 * n + 1) = 2 ^ (32 * (2 * n + 1)) by rw [Nat.pow_mul]]
  exact Nat.pow_lt_pow_right (by omega) (by omega)

theorem q4Top (n : Nat) (hn : n ≤ 1000000) (w : World) : Calls Try.prog 41 #[.int .i64 n] w fun e w' => ∃ v', e = .returned v' ∧ IsBig w' v' (2 ^ (64 * n)) ∧ Kept Nought w w' := by
  have hS := rSmall 1 (by omega) w
  have h64 : wrap64 (64 * (n : Int)) = ((64 * n : Nat) : Int) := by simp [wrap64]; omega
  go_enter Try.func41, Try.ntmps41
  go_wp2_with fail
  refine hS.mono ?_
  rintro e w1 ⟨v1, rfl, hb1, _, k1⟩
  have hH := rShl v1 1 (64 * n) w1 hb1 (by decide +kernel) (by omega)
  rw [show ((64 * n : Nat) : Int) = 64 * (n : Int) by omega] at hH
  clear hS
  go_wp2_with fail
  refine hH.mono ?_
  rintro e w2 ⟨v2, rfl, hb2, _, k2⟩
  rw [Nat.mul_one] at hb2
  go_wp2
  go_ret
  exact ⟨_, rfl, hb2, k1.trans k2⟩

theorem dlen_val {xs : List Nat} (hd : Digs 18446744073709551616 xs) : dlen (val 18446744073709551616 xs) ≤ 2 * xs.length := by
  rw [dlen_le, show (4294967296 : Nat) ^ (2 * xs.length) = 18446744073709551616 ^ xs.length by rw [Nat.pow_mul]]
  exact val_lt (by omega) hd

set_option maxHeartbeats 800000 in
/-- Sum and carry. -/
theorem q4Add (ao bo : Option Addr) (L M cap dap : Nat) (xs ys : List Nat) (w : World) (hu : Row .u64 w (.slice ao L cap) xs) (hv : Row .u64 w (.slice bo M dap) ys) (hdx : Digs 18446744073709551616 xs) (hdy : Digs 18446744073709551616 ys) (hL : L ≤ 100000) (hM : M ≤ 100000) :
    Calls Try.prog 12 #[.slice ao L cap, .slice bo M dap] w fun e w' => ∃ v', e = .returned (.tuple #[v', .int .u64 (oneN (decide (2 ^ (64 * max L M) ≤ val 18446744073709551616 xs + val 18446744073709551616 ys)) : Nat)]) ∧ Row .u64 w' v' (digs 18446744073709551616 (val 18446744073709551616 xs + val 18446744073709551616 ys) (max L M)) ∧ Kept Nought w w' := by
  have lx : xs.length = L := by obtain ⟨_, _, _, e, h, _⟩ := hu.open; cases e; exact h.out
  have ly : ys.length = M := by obtain ⟨_, _, _, e, h, _⟩ := hv.open; cases e; exact h.out
  have hlg := q4Long ao bo L M cap dap w
  have hOx := rOf _ xs w hu hdx (by omega)
  have hOy := fun W (k : Kept Nought w W) => rOf _ ys W (hv.grew k) hdy (by omega)
  have dx := dlen_val hdx
  have dy := dlen_val hdy
  have hnb : max L M ≤ 100000 := by omega
  clear hu hv
  generalize val 18446744073709551616 xs = A at *
  generalize val 18446744073709551616 ys = B at *
  generalize max L M = n at *
  go_enter Try.func12, Try.ntmps12
  go_wp2_with fail
  refine hlg.mono ?_
  rintro e w' ⟨rfl, rfl⟩
  go_wp2_with fail
  refine hOx.mono ?_
  rintro e w1 ⟨v1, rfl, hb1, _, k1⟩
  go_wp2_with fail
  refine (hOy w1 k1).mono ?_
  rintro e w2 ⟨v2, rfl, hb2, _, k2⟩
  have hA := rAdd v1 v2 A B w2 (hb1.grew k2) hb2 (by omega) (by omega)
  have k2' := k1.trans k2
  clear hlg hOx hOy k1 k2 hb1 hb2
  go_wp2_with fail
  refine hA.mono ?_
  rintro e w3 ⟨v3, rfl, hb3, _, k3⟩
  have k3' := k2'.trans k3
  have hN := rNat v3 (A + B) n w3 hb3 (by omega)
  clear hA k2' k3
  go_wp2_with fail
  refine hN.mono ?_
  rintro e w4 ⟨v4, rfl, hr4, _, k4⟩
  have k4' := k3'.trans k4
  have hb4 := hb3.grew k4
  have hT := q4Top n (by omega) w4
  clear hN k3' k4 hb3
  go_wp2_with fail
  refine hT.mono ?_
  rintro e w5 ⟨v5, rfl, hb5, k5⟩
  have k5' := k4'.trans k5
  have hr5 := hr4.grew k5
  have hC := rCmp v3 v5 (A + B) (2 ^ (64 * n)) w5 (hb4.grew k5) hb5
  clear hT k4' k5 hr4 hb4 hb5
  go_wp2_with fail
  refine hC.mono ?_
  rintro e w6 ⟨rfl, m, rfl⟩
  have k6 := k5'.drewN m
  have hr6 := hr5.grew ((Kept.refl Nought w5).drewN m)
  have hcm : decide (cmpN (A + B) (2 ^ (64 * n)) ≥ 0) = decide (2 ^ (64 * n) ≤ A + B) := by
    refine decide_eq_decide.2 ?_
    rcases Nat.lt_trichotomy (A + B) (2 ^ (64 * n)) with h | h | h
    · rw [cmpN_lt h]; constructor <;> intro k <;> omega
    · rw [cmpN_eq h]; constructor <;> intro k <;> omega
    · rw [cmpN_gt h]; constructor <;> intro k <;> omega
  have HCM : Hid (decide (0 ≤ cmpN (A + B) (2 ^ (64 * n))) = decide (2 ^ (64 * n) ≤ A + B)) := hcm
  have hO := q1One (decide (0 ≤ cmpN (A + B) (2 ^ (64 * n)))) (w5.drewN m)
  clear hC hcm hr5 k5'
  go_wp2_with fail
  refine hO.mono ?_
  rintro e w7 ⟨rfl, rfl⟩
  go_wp2
  go_ret2
  rw [HCM.out]
  exact ⟨_, rfl, hr6, k6⟩

end Go.Proofs.Ytnjmckfkfkalgaa
