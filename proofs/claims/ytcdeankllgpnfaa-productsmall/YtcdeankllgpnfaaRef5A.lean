/- The plain side of layer 5 (package sconceref05): products, quotients, rests of any numbers. -/
import Derived.Test.YtcdeankllgpnfaaBigDivMod
import Derived.Test.YtcdeankllgpnfaaBase2
import Derived.Test.YtcdeankllgpnfaaBase1
namespace Go.Proofs.Ytcdeankllgpnfaa
open Go.RowKit

/-- Whether numbers of these lengths are within the bound. -/
def okLen (L M : Nat) : Bool := decide (L ≤ 300 ∧ M ≤ 300)

theorem q5Long (ao : Option Addr) (L cap : Nat) (R : Bool) (hR : R = decide (300 < L)) (w : World) : Calls Try.prog 30 #[.slice ao L cap] w fun e w' => e = .returned (.bool R) ∧ w' = w := by
  go_enter Try.func30, Try.ntmps30
  go_wp2
  go_ret
  refine ⟨?_, rfl⟩
  rw [hR, show decide (300 < L) = decide (300 < (L : Int)) from decide_eq_decide.2 (by omega)]
  rfl

theorem dlen_val5 {xs : List Nat} (hd : Digs 18446744073709551616 xs) : dlen (val 18446744073709551616 xs) ≤ 2 * xs.length := by
  rw [dlen_le, show (4294967296 : Nat) ^ (2 * xs.length) = 18446744073709551616 ^ xs.length by rw [Nat.pow_mul]]
  exact val_lt (by omega) hd

/-- What Mul answers. -/
def mulL (X Y L M : Nat) : List Nat := if okLen L M = true then digs 18446744073709551616 (X * Y) (L + M) else []

/-- What Divide answers: the error's number, quotient, rest. -/
def divE (Y L M : Nat) : Nat := if okLen L M = true then (if Y = 0 then 1 else 0) else 2

def divQ (X Y L M : Nat) : List Nat := if divE Y L M = 0 then digs 18446744073709551616 (X / Y) L else []

def divR (X Y L M : Nat) : List Nat := if divE Y L M = 0 then digs 18446744073709551616 (X % Y) M else []

theorem big_len5 {w : World} {v : Value} {V : Nat} (h : IsBig w v V) : ∃ ao n cap, v = .slice ao n cap ∧ (n = 0 ↔ V = 0) := by
  obtain ⟨ds, hr, hd, ht, rfl, _⟩ := h
  obtain ⟨ao, n, cap, rfl, hN, _⟩ := hr.open
  refine ⟨ao, n, cap, rfl, ?_⟩
  rw [← hN.out]
  constructor
  · intro h
    obtain rfl : ds = [] := List.eq_nil_of_length_eq_zero h
    rfl
  · intro h
    have := (len_le_iff (by omega) hd ht 0).2 (by rw [h]; simp)
    omega

set_option maxRecDepth 20000 in
set_option maxHeartbeats 1000000 in
theorem q5Divide (ao bo : Option Addr) (L M cap dap : Nat) (xs ys : List Nat) (E : Nat) (hE : E = divE (val 18446744073709551616 ys) L M) (w : World) (hu : Row .u64 w (.slice ao L cap) xs) (hv : Row .u64 w (.slice bo M dap) ys) (hdx : Digs 18446744073709551616 xs) (hdy : Digs 18446744073709551616 ys) :
    Calls Try.prog 16 #[.slice ao L cap, .slice bo M dap] w fun e w' => ∃ v1 v2, e = .returned (.tuple #[v1, v2, .int .i64 (E : Nat)]) ∧ Row .u64 w' v1 (divQ (val 18446744073709551616 xs) (val 18446744073709551616 ys) L M) ∧ Row .u64 w' v2 (divR (val 18446744073709551616 xs) (val 18446744073709551616 ys) L M) ∧ Kept Nought w w' := by
  have lx : xs.length = L := by obtain ⟨_, _, _, e, h, _⟩ := hu.open; cases e; exact h.out
  have ly : ys.length = M := by obtain ⟨_, _, _, e, h, _⟩ := hv.open; cases e; exact h.out
  unfold divQ divR
  rw [← hE]
  by_cases hL : L ≤ 300
  · have l1 := q5Long ao L cap false (by rw [decide_eq_false (by omega)]) w
    by_cases hM : M ≤ 300
    · have l2 := q5Long bo M dap false (by rw [decide_eq_false (by omega)]) w
      unfold divE okLen at hE
      rw [if_pos (decide_eq_true ⟨hL, hM⟩)] at hE
      have hOx := fun W (k : Kept Nought w W) => rOf _ xs W (hu.grew k) hdx (by omega)
      have hOy := rOf _ ys w hv hdy (by omega)
      have dx := dlen_val5 hdx
      have dy := dlen_val5 hdy
      clear hu hv hdx hdy
      generalize val 18446744073709551616 xs = A at *
      generalize val 18446744073709551616 ys = B at *
      by_cases hB : B = 0
      · rw [if_pos hB] at hE
        subst hE
        go_enter Try.func16, Try.ntmps16
        go_wp2_with fail
        refine l1.mono ?_
        rintro e w' ⟨rfl, rfl⟩
        go_wp2_with fail
        refine l2.mono ?_
        rintro e w' ⟨rfl, rfl⟩
        go_wp2_with fail
        refine hOy.mono ?_
        rintro e w2 ⟨v2, rfl, hb2, _, k2⟩
        obtain ⟨a2, n2, c2, rfl, hz⟩ := big_len5 hb2
        obtain rfl : n2 = 0 := hz.2 hB
        clear hb2 hOx hz hB
        go_wp2
        go_ret3
        exact ⟨_, _, rfl, Row.nil _ _, Row.nil _ _, k2⟩
      · rw [if_neg hB] at hE
        subst hE
        go_enter Try.func16, Try.ntmps16
        go_wp2_with fail
        refine l1.mono ?_
        rintro e w' ⟨rfl, rfl⟩
        go_wp2_with fail
        refine l2.mono ?_
        rintro e w' ⟨rfl, rfl⟩
        go_wp2_with fail
        refine hOy.mono ?_
        rintro e w2 ⟨v2, rfl, hb2, _, k2⟩
        obtain ⟨a2, n2, c2, rfl, hz⟩ := big_len5 hb2
        have hn2 : ¬ (n2 : Int) = 0 := by
          intro h
          exact hB (hz.1 (by omega))
        clear hz
        go_wp2_with fail
        refine (hOx w2 k2).mono ?_
        rintro e w3 ⟨v3, rfl, hb3, _, k3⟩
        have hD := rDivMod v3 _ A B w3 hb3 (hb2.grew k3) (by omega) (by omega)
        have k3' := k2.trans k3
        clear l1 l2 hOx hOy k2 k3 hb2 hb3 hn2
        go_wp2_with fail
        refine hD.mono ?_
        rintro e w4 ⟨q, r, rfl, hq, hr, _, _, k4⟩
        have k4' := k3'.trans k4
        have hN1 := rNat q _ L w4 hq (by omega)
        clear hD k3' k4
        go_wp2_with fail
        refine hN1.mono ?_
        rintro e w5 ⟨v5, rfl, hr5, _, k5⟩
        have k5' := k4'.trans k5
        have hN2 := rNat r _ M w5 (hr.grew k5) (by omega)
        clear hN1 k4' k5
        go_wp2_with fail
        refine hN2.mono ?_
        rintro e w6 ⟨v6, rfl, hr6, _, k6⟩
        have hr5' := hr5.grew k6
        go_wp2
        go_ret3
        exact ⟨_, _, rfl, hr5', hr6, k5'.trans k6⟩
    · have l2 := q5Long bo M dap true (by rw [decide_eq_true (by omega)]) w
      have hE2 : E = 2 := by rw [hE]; unfold divE okLen; rw [if_neg (by simp [hM])]
      subst hE2
      clear hu hv hE
      go_enter Try.func16, Try.ntmps16
      go_wp2_with fail
      refine l1.mono ?_
      rintro e w' ⟨rfl, rfl⟩
      go_wp2_with fail
      refine l2.mono ?_
      rintro e w' ⟨rfl, rfl⟩
      go_wp2
      go_ret3
      exact ⟨_, _, rfl, Row.nil _ _, Row.nil _ _, Kept.refl _ _⟩
  · have l1 := q5Long ao L cap true (by rw [decide_eq_true (by omega)]) w
    have hE2 : E = 2 := by rw [hE]; unfold divE okLen; rw [if_neg (by simp [hL])]
    subst hE2
    clear hu hv hE
    go_enter Try.func16, Try.ntmps16
    go_wp2_with fail
    refine l1.mono ?_
    rintro e w' ⟨rfl, rfl⟩
    go_wp2
    go_ret3
    exact ⟨_, _, rfl, Row.nil _ _, Row.nil _ _, Kept.refl _ _⟩

end Go.Proofs.Ytcdeankllgpnfaa
