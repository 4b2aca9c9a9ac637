/- The plain side of layer 4: 0, choices, sums and differences if a bit is 1, one bit up and down. -/
import Derived.Test.YtnjmckfkfkalgaaRef4B
import Derived.Test.YtnjmckfkfkalgaaBigShr
namespace Go.Proofs.Ytnjmckfkfkalgaa
open Go.RowKit

theorem big_len {w : World} {v : Value} {V : Nat} (h : IsBig w v V) : ∃ ao n cap, v = .slice ao n cap ∧ (n = 0 ↔ V = 0) := by
  obtain ⟨ds, hr, hd, ht, rfl, _⟩ := h
  obtain ⟨ao, n, cap, rfl, hL, _⟩ := hr.open
  refine ⟨ao, n, cap, rfl, ?_⟩
  have h1 := len_le_iff (B := 4294967296) (by omega) hd ht 0
  rw [Nat.pow_zero, hL.out] at h1
  omega

set_option maxHeartbeats 400000 in
theorem q4Zero (u : Value) (xs : List Nat) (w : World) (hu : Row .u64 w u xs) (hdx : Digs 18446744073709551616 xs) (hL : xs.length ≤ 100000) :
    Calls Try.prog 21 #[u] w fun e w' => e = .returned (.int .u64 (oneN (decide (val 18446744073709551616 xs = 0)) : Nat)) ∧ Kept Nought w w' := by
  have hOx := rOf _ xs w hu hdx (by omega)
  clear hu
  generalize val 18446744073709551616 xs = A at *
  go_enter Try.func21, Try.ntmps21
  go_wp2_with fail
  refine hOx.mono ?_
  rintro e w1 ⟨v1, rfl, hb1, _, k1⟩
  obtain ⟨ao, n, cap, rfl, hn⟩ := big_len hb1
  have HC : Hid (((n : Int) == 0) = decide (A = 0)) := by
    unfold Hid
    by_cases h : A = 0
    · rw [decide_eq_true h, hn.2 h]; rfl
    · rw [decide_eq_false h]
      have : n ≠ 0 := fun e => h (hn.1 e)
      simp; omega
  have hO := q1One ((n : Int) == 0) w1
  clear hn hb1 hOx
  go_wp2_with fail
  refine hO.mono ?_
  rintro e w4 ⟨rfl, rfl⟩
  go_wp2
  go_ret
  exact ⟨by rw [HC.out]; rfl, k1⟩

/-- Which of two a bit selects. -/
def selN (bit A B : Nat) : Nat := if bit % 2 = 1 then A else B

set_option maxHeartbeats 400000 in
theorem q4Select (bit : Nat) (hbit : bit < 18446744073709551616) (ao bo : Option Addr) (L M cap dap : Nat) (xs ys : List Nat) (w : World) (hu : Row .u64 w (.slice ao L cap) xs) (hv : Row .u64 w (.slice bo M dap) ys) (hdx : Digs 18446744073709551616 xs) (hdy : Digs 18446744073709551616 ys) (hL : L ≤ 100000) (hM : M ≤ 100000) :
    Calls Try.prog 24 #[.int .u64 bit, .slice ao L cap, .slice bo M dap] w fun e w' => ∃ v', e = .returned v' ∧ Row .u64 w' v' (digs 18446744073709551616 (selN bit (val 18446744073709551616 xs) (val 18446744073709551616 ys)) (max L M)) ∧ Kept Nought w w' := by
  have lx : xs.length = L := by obtain ⟨_, _, _, e, h, _⟩ := hu.open; cases e; exact h.out
  have ly : ys.length = M := by obtain ⟨_, _, _, e, h, _⟩ := hv.open; cases e; exact h.out
  have hlg := fun W => q4Long ao bo L M cap dap W
  have hOx := rOf _ xs w hu hdx (by omega)
  have hOy := rOf _ ys w hv hdy (by omega)
  have hnb : max L M ≤ 100000 := by omega
  have hand := and_one_u64 (bit : Int) (by omega) (by omega)
  clear hu hv
  generalize val 18446744073709551616 xs = A at *
  generalize val 18446744073709551616 ys = B at *
  generalize max L M = n at *
  by_cases hb : bit % 2 = 1
  · rw [show selN bit A B = A from if_pos hb]
    have hb' : (bit : Int) % 2 = 1 := by omega
    rw [hb'] at hand
    go_enter Try.func24, Try.ntmps24
    go_wp2_with fail
    refine hOx.mono ?_
    rintro e w1 ⟨v1, rfl, hb1, _, k1⟩
    go_wp2_with fail
    refine (hlg w1).mono ?_
    rintro e w1' ⟨rfl, rfl⟩
    have hN := rNat v1 A n _ hb1 (by omega)
    go_wp2_with fail
    refine hN.mono ?_
    rintro e w2 ⟨v2, rfl, hr2, _, k2⟩
    go_wp2
    go_ret
    exact ⟨_, rfl, hr2, k1.trans k2⟩
  · rw [show selN bit A B = B from if_neg hb]
    have hb' : (bit : Int) % 2 = 0 := by omega
    rw [hb'] at hand
    go_enter Try.func24, Try.ntmps24
    go_wp2_with fail
    refine hOy.mono ?_
    rintro e w1 ⟨v1, rfl, hb1, _, k1⟩
    go_wp2_with fail
    refine (hlg w1).mono ?_
    rintro e w1' ⟨rfl, rfl⟩
    have hN := rNat v1 B n _ hb1 (by omega)
    go_wp2_with fail
    refine hN.mono ?_
    rintro e w2 ⟨v2, rfl, hr2, _, k2⟩
    go_wp2
    go_ret
    exact ⟨_, rfl, hr2, k1.trans k2⟩

set_option maxHeartbeats 400000 in
theorem q4AddIf (bit : Nat) (hbit : bit < 18446744073709551616) (ao bo : Option Addr) (L M cap dap : Nat) (xs ys : List Nat) (w : World) (hu : Row .u64 w (.slice ao L cap) xs) (hv : Row .u64 w (.slice bo M dap) ys) (hdx : Digs 18446744073709551616 xs) (hdy : Digs 18446744073709551616 ys) (hL : L ≤ 100000) (hM : M ≤ 100000) :
    Calls Try.prog 32 #[.int .u64 bit, .slice ao L cap, .slice bo M dap] w fun e w' => ∃ v', e = .returned (.tuple #[v', .int .u64 (selN bit (oneN (decide (2 ^ (64 * max L M) ≤ val 18446744073709551616 xs + val 18446744073709551616 ys))) 0 : Nat)]) ∧ Row .u64 w' v' (digs 18446744073709551616 (selN bit (val 18446744073709551616 xs + val 18446744073709551616 ys) (val 18446744073709551616 xs)) (max L M)) ∧ Kept Nought w w' := by
  have hA := q4Add ao bo L M cap dap xs ys w hu hv hdx hdy hL hM
  have hS := q4Select 1 (by omega) ao bo L M cap dap xs ys w hu hv hdx hdy hL hM
  have hand := and_one_u64 (bit : Int) (by omega) (by omega)
  clear hu hv
  generalize val 18446744073709551616 xs = A at *
  generalize val 18446744073709551616 ys = B at *
  generalize oneN (decide (2 ^ (64 * max L M) ≤ A + B)) = k at *
  generalize max L M = n at *
  rw [show selN 1 A B = A from if_pos rfl] at hS
  by_cases hb : bit % 2 = 1
  · rw [show selN bit k 0 = k from if_pos hb, show selN bit (A + B) A = A + B from if_pos hb]
    have hb' : (bit : Int) % 2 = 1 := by omega
    rw [hb'] at hand
    clear hS
    go_enter Try.func32, Try.ntmps32
    go_wp2_with fail
    refine hA.mono ?_
    rintro e w1 ⟨v1, rfl, hr1, k1⟩
    go_wp2
    go_ret2
    exact ⟨_, rfl, hr1, k1⟩
  · rw [show selN bit k 0 = 0 from if_neg hb, show selN bit (A + B) A = A from if_neg hb]
    have hb' : (bit : Int) % 2 = 0 := by omega
    rw [hb'] at hand
    clear hA
    go_enter Try.func32, Try.ntmps32
    go_wp2_with fail
    refine hS.mono ?_
    rintro e w1 ⟨v1, rfl, hr1, k1⟩
    go_wp2
    go_ret2
    exact ⟨_, rfl, hr1, k1⟩

set_option maxHeartbeats 400000 in
theorem q4SubIf (bit : Nat) (hbit : bit < 18446744073709551616) (ao bo : Option Addr) (L M cap dap : Nat) (xs ys : List Nat) (w : World) (hu : Row .u64 w (.slice ao L cap) xs) (hv : Row .u64 w (.slice bo M dap) ys) (hdx : Digs 18446744073709551616 xs) (hdy : Digs 18446744073709551616 ys) (hL : L ≤ 100000) (hM : M ≤ 100000) :
    Calls Try.prog 34 #[.int .u64 bit, .slice ao L cap, .slice bo M dap] w fun e w' => ∃ v', e = .returned (.tuple #[v', .int .u64 (selN bit (oneN (decide (val 18446744073709551616 xs < val 18446744073709551616 ys))) 0 : Nat)]) ∧ Row .u64 w' v' (digs 18446744073709551616 (selN bit (subN (val 18446744073709551616 xs) (val 18446744073709551616 ys) (max L M)) (val 18446744073709551616 xs)) (max L M)) ∧ Kept Nought w w' := by
  have hA := q4Sub ao bo L M cap dap xs ys w hu hv hdx hdy hL hM
  have hS := q4Select 1 (by omega) ao bo L M cap dap xs ys w hu hv hdx hdy hL hM
  have hand := and_one_u64 (bit : Int) (by omega) (by omega)
  clear hu hv
  generalize val 18446744073709551616 xs = A at *
  generalize val 18446744073709551616 ys = B at *
  generalize oneN (decide (A < B)) = k at *
  generalize subN A B (max L M) = D at *
  generalize max L M = n at *
  rw [show selN 1 A B = A from if_pos rfl] at hS
  by_cases hb : bit % 2 = 1
  · rw [show selN bit k 0 = k from if_pos hb, show selN bit D A = D from if_pos hb]
    have hb' : (bit : Int) % 2 = 1 := by omega
    rw [hb'] at hand
    clear hS
    go_enter Try.func34, Try.ntmps34
    go_wp2_with fail
    refine hA.mono ?_
    rintro e w1 ⟨v1, rfl, hr1, k1⟩
    go_wp2
    go_ret2
    exact ⟨_, rfl, hr1, k1⟩
  · rw [show selN bit k 0 = 0 from if_neg hb, show selN bit D A = A from if_neg hb]
    have hb' : (bit : Int) % 2 = 0 := by omega
    rw [hb'] at hand
    clear hA
    go_enter Try.func34, Try.ntmps34
    go_wp2_with fail
    refine hS.mono ?_
    rintro e w1 ⟨v1, rfl, hr1, k1⟩
    go_wp2
    go_ret2
    exact ⟨_, rfl, hr1, k1⟩

end Go.Proofs.Ytnjmckfkfkalgaa
