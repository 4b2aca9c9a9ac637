/- Put together of: Ref5C Prm1 Prm2. -/
import Derived.Test.YtcjaafmlflonhaaGreatDoorPk1
import Derived.Test.YtcjaafmlflonhaaGreatDoorPk5
import Derived.Test.YtcjaafmlflonhaaGreatDoorPk15

/- The plain side of layer 5: the rest of a number by a word. -/
namespace Go.Proofs.YtcjaafmlflonhaaGreatDoor
open Go.RowKit

/-- One bit more of a rest. -/
theorem rest_step (X k D : Nat) : X / 2 ^ k % D = (2 * (X / 2 ^ (k + 1) % D) + X / 2 ^ k % 2) % D := by
  have e : X / 2 ^ k = 2 * (X / 2 ^ (k + 1)) + X / 2 ^ k % 2 := by
    rw [Nat.pow_succ, ← Nat.div_div_eq_div_mul]; omega
  rw [show X / 2 ^ k % D = (2 * (X / 2 ^ (k + 1)) + X / 2 ^ k % 2) % D by rw [← e]]
  generalize X / 2 ^ (k + 1) = Y
  generalize X / 2 ^ k % 2 = b
  have h := Nat.mod_add_div Y D
  have h2 : 2 * Y + b = (2 * (Y % D) + b) + D * (2 * (Y / D)) := by
    rw [Nat.mul_left_comm D 2]; omega
  rw [h2, Nat.add_mul_mod_self_left]

theorem shl_or5 (x c : Nat) (hc : c ≤ 1) : bits .or .u64 (IntKind.u64.wrap ((x : Int) * 2)) (c : Int) = (((2 * x) % 18446744073709551616 + c : Nat) : Int) := by
  rw [IntKind.wrap_u64, show ((x : Int) * 2) % 18446744073709551616 = (((2 * x) % 18446744073709551616 : Nat) : Int) by omega, u64_or_nat _ _ (by omega) (by omega)]
  congr 1
  have h0 : c = 0 ∨ c = 1 := by omega
  rcases h0 with rfl | rfl
  · rw [Nat.or_zero, Nat.add_zero]
  · have e : (2 * x) % 18446744073709551616 = 2 ^ 1 * (x % 9223372036854775808) := by omega
    rw [e, ← Nat.two_pow_add_eq_or_of_lt (by omega : 1 < 2 ^ 1)]

set_option maxRecDepth 20000 in
set_option maxHeartbeats 2000000 in
theorem q5Small (ao : Option Addr) (L cap : Nat) (xs : List Nat) (D R : Nat) (hD : D < 18446744073709551616) (hD0 : 0 < D) (hR : R = val 18446744073709551616 xs % D) (w : World) (hu : Row .u64 w (.slice ao L cap) xs) (hdx : Digs 18446744073709551616 xs) (hL : L ≤ 1000000) :
    Calls Tryz.prog 119 #[.slice ao L cap, .int .u64 (D : Nat)] w fun e w' => e = .returned (.tuple #[.int .u64 (R : Nat), .int .i64 0]) ∧ w' = w := by
  obtain ⟨ao', L', cap', e0, hLx, _, _, _, h4⟩ := hu.open
  simp only [Value.slice.injEq] at e0
  obtain ⟨rfl, rfl, rfl⟩ := e0
  have hX := val_lt (by omega) hdx
  rw [hLx.out, show (18446744073709551616 : Nat) ^ L = 2 ^ (64 * L) by rw [Nat.pow_mul]] at hX
  have hdig : ∀ i, xs.getD i 0 = dig 18446744073709551616 (val 18446744073709551616 xs) i := fun i => (dig_val (by omega) hdx i).symm
  have HB : Hid (∀ j, j < 64 * L → NumAt .u64 w ao xs (j / 64) ∧ xs.getD (j / 64) 0 < 18446744073709551616 ∧ xs.getD (j / 64) 0 / 2 ^ (j % 64) % 2 = val 18446744073709551616 xs / 2 ^ j % 2) := fun j hj => ⟨h4 _ (by omega), hdx.getD (by omega) _, by rw [hdig, bit_dig64]⟩
  have HX := toHid hX
  have HR := toHid hR
  clear hu hdx h4 hX hdig hR hLx
  generalize val 18446744073709551616 xs = X at *
  have hD1 : ¬ (D : Int) = 0 := by omega
  go_enter Tryz.func119, Tryz.ntmps119
  go_wp2_with fail
  go_loop [6, 7] (fun r i => ∃ (k rr : Nat), k ≤ 64 * L ∧ i = .int .i64 ((k : Int) - 1) ∧ r = .int .u64 (rr : Int) ∧ rr < D ∧ Hid (rr = X / 2 ^ k % D)) (fun _ i => (intOf i + 1).toNat)
  case atStart => exact ⟨64 * L, 0, Nat.le_refl _, by rw [show ((64 * L : Nat) : Int) = 64 * (L : Int) by omega], rfl, hD0, by unfold Hid; rw [Nat.div_eq_of_lt HX.out, Nat.zero_mod]⟩
  case round =>
    obtain ⟨k, r, hk, hi, rfl, hr, Hr⟩ := hrel
    cases k with
    | zero =>
      have e : (((0 : Nat) : Int) - 1) = -1 := by omega
      rw [e] at hi
      subst hi
      have E : Hid (R = r) := by rw [Hid, HR.out, Hr.out, Nat.pow_zero, Nat.div_one]
      go_wp2_with fail
      go_ret2
      rw [E.out]
      exact ⟨rfl, rfl⟩
    | succ j =>
      have e : (((j + 1 : Nat) : Int) - 1) = (j : Int) := by omega
      rw [e] at hi
      subst hi
      obtain ⟨hnum, hx, hbit⟩ := HB.out j (by omega)
      obtain ⟨b, off, rfl, hc⟩ := hnum
      have hst := rest_step X j D
      rw [← Hr.out] at hst
      obtain ⟨bt, hbt⟩ : ∃ bt, bt = X / 2 ^ j % 2 := ⟨_, rfl⟩
      rw [← hbt] at hst hbit
      have hb1 : bt ≤ 1 := by omega
      generalize xs.getD (j / 64) 0 = x at *
      have g0 : (0 : Int) ≤ (j : Int) := Int.natCast_nonneg _
      have g1 : (j : Int) / 64 < (L : Int) := by omega
      have g2 : (0 : Int) ≤ (j : Int) / 64 := by omega
      have g3 : ((j : Int) / 64).toNat = j / 64 := by omega
      have hy := Nat.div_le_self x (2 ^ (j % 64))
      have hand : bits .and .u64 ((x : Int) / 2 ^ (j % 64)) 1 = (bt : Int) := by
        have e : (x : Int) / 2 ^ (j % 64) = ((x / 2 ^ (j % 64) : Nat) : Int) := by simp
        rw [e]
        generalize x / 2 ^ (j % 64) = Y at *
        rw [and_one_u64 (Y : Int) (by omega) (by omega)]
        omega
      have hor := shl_or5 r bt hb1
      obtain ⟨s, hs⟩ : ∃ s, s = (2 * r) % 18446744073709551616 + bt := ⟨_, rfl⟩
      rw [← hs] at hor
      have hsl : s < 18446744073709551616 := by omega
      have Hst := toHid hst
      have Hs := toHid hs
      clear hst hs hbt hbit hy Hr
      by_cases htop : r / 9223372036854775808 = 1
      · have t1 : (r : Int) / 9223372036854775808 = 1 := by omega
        have hw : Hid (IntKind.u64.wrap ((s : Int) - (D : Int)) = ((2 * r + bt - D : Nat) : Int)) := by
          unfold Hid; rw [IntKind.wrap_u64]; have := Hs.out; omega
        have hm : Hid (2 * r + bt - D = X / 2 ^ j % D) := by
          unfold Hid; rw [Hst.out, Nat.mod_eq_sub_mod (by omega), Nat.mod_eq_of_lt (by omega)]
        go_wp2_with fail
        rw [hw.out]
        go_round
        case rel => exact ⟨j, 2 * r + bt - D, by omega, rfl, rfl, by omega, hm⟩
        case measure => first | (simp [intOf]; done) | (simp [intOf]; omega)
      · have t1 : ¬ (r : Int) / 9223372036854775808 = 1 := by omega
        have hs2 : s = 2 * r + bt := by have := Hs.out; omega
        rw [IntKind.wrap_u64, show ((r : Int) * 2) % 18446744073709551616 = (r : Int) * 2 by omega] at hor
        by_cases hsD : D ≤ s
        · have t2 : (s : Int) ≥ (D : Int) := by omega
          have hw : Hid (IntKind.u64.wrap ((s : Int) - (D : Int)) = ((2 * r + bt - D : Nat) : Int)) := by
            unfold Hid; rw [IntKind.wrap_u64]; omega
          have hm : Hid (2 * r + bt - D = X / 2 ^ j % D) := by
            unfold Hid; rw [Hst.out, Nat.mod_eq_sub_mod (by omega), Nat.mod_eq_of_lt (by omega)]
          have Hs2 := toHid hs2
          clear hs2
          go_wp2_with fail
          first
            | rw [hw.out]
            | (rw [show ((s : Int) - (D : Int)) = ((2 * r + bt - D : Nat) : Int) by have := Hs2.out; omega])
          go_round
          case rel => first | exact ⟨j, by omega, rfl, 2 * r + bt - D, rfl, by have := Hs2.out; omega, hm⟩ | exact ⟨j, 2 * r + bt - D, by omega, rfl, rfl, by have := Hs2.out; omega, hm⟩
          case measure => first | (simp [intOf]; done) | (simp [intOf]; omega)
        · have t2 : ¬ (s : Int) ≥ (D : Int) := by omega
          have hm : Hid (s = X / 2 ^ j % D) := by
            unfold Hid; rw [Hst.out, Nat.mod_eq_of_lt (by omega)]; exact hs2
          clear hs2
          go_wp2_with fail
          go_round
          case rel => first | exact ⟨j, by omega, rfl, s, rfl, by omega, hm⟩ | exact ⟨j, s, by omega, rfl, rfl, by omega, hm⟩
          case measure => first | (simp [intOf]; done) | (simp [intOf]; omega)

end Go.Proofs.YtcjaafmlflonhaaGreatDoor


/- The plain side of layer 16 (package sconceref16): small, Primes, Factor, Passes. -/
namespace Go.Proofs.YtcjaafmlflonhaaGreatDoor
open Go.RowKit

/-- A prime. -/
def PrimeN (n : Nat) : Prop := 2 ≤ n ∧ ∀ d, 2 ≤ d → d < n → n % d ≠ 0

instance (n : Nat) : Decidable (PrimeN n) :=
  if h : 2 ≤ n then
    if g : ∀ d, d < n → 2 ≤ d → n % d ≠ 0 then isTrue ⟨h, fun d h1 h2 => g d h2 h1⟩ else isFalse (fun p => g (fun d h1 h2 => p.2 d h2 h1))
  else isFalse (fun p => h p.1)

/-- Trial by numbers whose squares aren't above it. -/
theorem prime_of_trial {n k : Nat} (hn : 2 ≤ n) (hk : n < k * k) (h : ∀ d, 2 ≤ d → d < k → n % d ≠ 0) : PrimeN n := by
  refine ⟨hn, fun d hd hdn e => ?_⟩
  by_cases hdk : d < k
  · exact h d hd hdk e
  · obtain ⟨c, hc⟩ := Nat.dvd_of_mod_eq_zero e
    have hc2 : 2 ≤ c := by
      rcases Nat.lt_or_ge c 2 with h1 | h1
      · have h01 : c = 0 ∨ c = 1 := by omega
        rcases h01 with rfl | rfl
        · omega
        · omega
      · exact h1
    have hck : c < k := by
      rcases Nat.lt_or_ge c k with h1 | h1
      · exact h1
      · have := Nat.mul_le_mul (show k ≤ d by omega) h1
        omega
    refine h c hc2 hck ?_
    rw [hc, Nat.mul_comm]
    exact Nat.mul_mod_right c d

theorem not_prime_of {n d : Nat} (hd : 2 ≤ d) (hdn : d * d ≤ n) (h : n % d = 0) : ¬ PrimeN n := by
  intro p
  have : d < n := by
    have := Nat.mul_le_mul_left d hd
    omega
  exact p.2 d hd this h

set_option maxHeartbeats 800000 in
/-- small. -/
theorem r16small (n : Nat) (hn : n ≤ 1000000) (R : Bool) (hR : R = true ↔ PrimeN n) (w : World) :
    Calls Tryz.prog 118 #[.int .i64 (n : Nat)] w fun e w' => e = .returned (.bool R) ∧ w' = w := by
  have HR := toHid hR
  clear hR
  go_enter Tryz.func118, Tryz.ntmps118
  go_wp2_with fail
  go_loopw [3] (fun dv wr => wr = w ∧ ∃ d : Nat, 2 ≤ d ∧ d ≤ 1002 ∧ dv = .int .i64 (d : Int) ∧ Hid (∀ c, 2 ≤ c → c < d → n % c ≠ 0)) (fun dv _ => 1002 - (intOf dv).toNat)
  case atStart => exact ⟨rfl, 2, by omega, by omega, rfl, fun c h1 h2 => by omega⟩
  case round =>
    obtain ⟨rfl, d, hd2, hd, rfl, hall⟩ := hrel
    have hdm : d * d ≤ 1002 * 1002 := Nat.mul_le_mul hd hd
    obtain ⟨q, hq⟩ : ∃ q, q = d * d := ⟨_, rfl⟩
    have hw : IntKind.i64.wrap ((d : Int) * (d : Int)) = (q : Int) := by
      have e : (d : Int) * (d : Int) = ((d * d : Nat) : Int) := by simp
      rw [e, ← hq, IntKind.wrap_i64]
      omega
    have HQ := toHid hq
    rw [← hq] at hdm
    clear hq
    by_cases hqn : q ≤ n
    · have hdn : d * d ≤ n := by rw [← HQ.out]; exact hqn
      have hd1 : d ≤ 1000 := by
        rcases Nat.lt_or_ge 1000 d with h | h
        · have := Nat.mul_le_mul (show 1001 ≤ d by omega) (show 1001 ≤ d by omega)
          omega
        · exact h
      have g1 : (q : Int) ≤ (n : Int) := by omega
      have g0 : ¬ (d : Int) = 0 := by omega
      have hmod : (n : Int).tmod (d : Int) = ((n % d : Nat) : Int) := by rw [Int.tmod_eq_emod_of_nonneg (by omega)]; simp
      by_cases hm : n % d = 0
      · have HF : Hid (R = false) := by
          unfold Hid
          cases h : R with
          | false => rfl
          | true => exact absurd (HR.out.1 h) (not_prime_of hd2 hdn hm)
        rw [hm] at hmod
        clear hm hdn
        go_wp2_with fail
        go_ret
        exact ⟨by rw [HF.out]; rfl, rfl⟩
      · have HA : Hid (∀ c, 2 ≤ c → c < d + 1 → n % c ≠ 0) := fun c h1 h2 => by
          by_cases e : c = d
          · subst e; exact hm
          · exact hall.out c h1 (by omega)
        obtain ⟨r, hr⟩ : ∃ r, r = n % d := ⟨_, rfl⟩
        rw [← hr] at hmod hm
        have g2 : ¬ (r : Int) = 0 := by omega
        clear hr hdn
        go_wp2_with fail
        go_roundw
        case rel => exact ⟨trivial, d + 1, by omega, by omega, by go_num, HA⟩
        case measure => simp [intOf]; omega
    · have g1 : ¬ (q : Int) ≤ (n : Int) := by omega
      have HB : Hid (R = decide ((n : Int) > 1)) := by
        unfold Hid
        by_cases h : 2 ≤ n
        · rw [decide_eq_true (by omega)]
          exact HR.out.2 (prime_of_trial h (by rw [← HQ.out]; omega) hall.out)
        · rw [decide_eq_false (by omega)]
          cases h2 : R with
          | false => rfl
          | true => exact absurd (HR.out.1 h2).1 h
      go_wp2_with fail
      go_ret
      exact ⟨by rw [HB.out]; rfl, rfl⟩

/-- The primes up to m, rising. -/
def primesTo (m : Nat) : List Nat := (List.range (m + 1)).filter (fun p => decide (PrimeN p))

theorem primesTo_succ (m : Nat) : primesTo (m + 1) = primesTo m ++ (if PrimeN (m + 1) then [m + 1] else []) := by
  unfold primesTo
  rw [List.range_succ, List.filter_append]
  congr 1
  by_cases h : PrimeN (m + 1)
  · rw [if_pos h]; simp [h]
  · rw [if_neg h]; simp [h]

theorem primesTo_low {m : Nat} (h : m ≤ 1) : primesTo m = [] := by
  have h01 : m = 0 ∨ m = 1 := by omega
  rcases h01 with rfl | rfl <;> decide

theorem primesTo_mem {m p : Nat} : p ∈ primesTo m ↔ PrimeN p ∧ p ≤ m := by
  unfold primesTo
  rw [List.mem_filter, List.mem_range, decide_eq_true_iff]
  exact ⟨fun h => ⟨h.2, by omega⟩, fun h => ⟨by omega, h.1⟩⟩

/-- How far Primes and Factor go. -/
def upTo (n : Int) : Nat := if n ≤ 10000 then n.toNat else 10000

theorem upTo_le (n : Int) : upTo n ≤ 10000 := by unfold upTo; split <;> omega

/-- R is the least prime up to b that divides X; 0: none does. -/
def IsFac (X b R : Nat) : Prop := (R = 0 ∧ ∀ p, PrimeN p → p ≤ b → X % p ≠ 0) ∨ (PrimeN R ∧ R ≤ b ∧ X % R = 0 ∧ ∀ p, PrimeN p → p < R → X % p ≠ 0)

theorem IsFac.uniq {X b R S : Nat} (h : IsFac X b R) (g : IsFac X b S) : R = S := by
  rcases h with ⟨rfl, h⟩ | ⟨h1, h2, h3, h4⟩
  · rcases g with ⟨rfl, _⟩ | ⟨g1, g2, g3, _⟩
    · rfl
    · exact absurd g3 (h S g1 g2)
  · rcases g with ⟨rfl, g⟩ | ⟨g1, g2, g3, g4⟩
    · exact absurd h3 (g R h1 h2)
    · rcases Nat.lt_trichotomy R S with h | h | h
      · exact absurd h3 (g4 R h1 h)
      · exact h
      · exact absurd g3 (h4 S g1 h)

theorem IsFac.le {X b R : Nat} (h : IsFac X b R) : R ≤ b := by
  rcases h with ⟨rfl, _⟩ | ⟨_, h2, _⟩
  · exact Nat.zero_le _
  · exact h2

theorem fac_none {X b p : Nat} (h : ∀ q, PrimeN q → q < p → X % q ≠ 0) (hp : b < p) : IsFac X b 0 := .inl ⟨rfl, fun q hq hb => h q hq (by omega)⟩

set_option maxHeartbeats 1000000 in
/-- Factor. -/
theorem r16Factor (ao : Option Addr) (L cap : Nat) (xs : List Nat) (n : Int) (h0 : -9223372036854775808 ≤ n) (h1 : n ≤ 9223372036854775807) (w : World) (hu : Row .u64 w (.slice ao L cap) xs) (hdx : Digs 18446744073709551616 xs) (hL : L ≤ 1000000) :
    Calls Tryz.prog 78 #[.slice ao L cap, .int .i64 n] w fun e w' => ∃ R : Nat, e = .returned (.int .i64 (R : Int)) ∧ IsFac (val 18446744073709551616 xs) (upTo n) R ∧ w' = w := by
  have HU : Hid (∀ p : Nat, 2 ≤ p → ((p : Int) ≤ n ∧ (p : Int) ≤ 10000 ↔ p ≤ upTo n)) := fun p hp => by
    unfold upTo
    split <;> omega
  have hul := upTo_le n
  obtain ⟨X, hX⟩ : ∃ X, X = val 18446744073709551616 xs := ⟨_, rfl⟩
  have JS : Hid (∀ (D R : Nat), D < 18446744073709551616 → 0 < D → R = X % D → Calls Tryz.prog 119 #[.slice ao L cap, .int .u64 (D : Nat)] w fun e w' => e = .returned (.tuple #[.int .u64 (R : Nat), .int .i64 0]) ∧ w' = w) := fun D R h1 h2 h3 => q5Small ao L cap xs D R h1 h2 (by rw [← hX]; exact h3) w hu hdx hL
  rw [← hX]
  clear hX hu hdx hL
  go_enter Tryz.func78, Tryz.ntmps78
  go_wp2_with fail
  go_loopw [5] (fun pv wr => wr = w ∧ ∃ p : Nat, 2 ≤ p ∧ p ≤ 10001 ∧ pv = .int .i64 (p : Int) ∧ Hid (∀ q, PrimeN q → q < p → X % q ≠ 0)) (fun pv _ => 10001 - (intOf pv).toNat)
  case atStart => exact ⟨rfl, 2, by omega, by omega, rfl, fun q hq h => absurd hq.1 (by omega)⟩
  case round =>
    obtain ⟨rfl, p, hp2, hp, rfl, hall⟩ := hrel
    by_cases hin : p ≤ upTo n
    · obtain ⟨g1, g2⟩ := (HU.out p hp2).2 hin
      by_cases hP : PrimeN p
      · have hS := r16small p (by omega) true (by simp [hP]) wr
        have HP := toHid hP
        clear hP
        go_wp2_with fail
        refine hS.mono ?_
        rintro e w2 ⟨rfl, rfl⟩
        clear hS
        by_cases hm : X % p = 0
        · have hQ := JS.out p 0 (by omega) (by omega) hm.symm
          have HM := toHid hm
          clear hm
          go_wp2_with fail
          refine hQ.mono ?_
          rintro e w3 ⟨rfl, rfl⟩
          go_wp2_with fail
          go_ret
          exact ⟨p, rfl, .inr ⟨HP.out, hin, HM.out, hall.out⟩, rfl⟩
        · obtain ⟨r, hr⟩ : ∃ r, r = X % p := ⟨_, rfl⟩
          have hQ := JS.out p r (by omega) (by omega) hr
          have HA : Hid (∀ q, PrimeN q → q < p + 1 → X % q ≠ 0) := fun q hq h => by
            by_cases e : q = p
            · subst e; exact hm
            · exact hall.out q hq (by omega)
          rw [← hr] at hm
          have g3 : ¬ (r : Int) = 0 := by omega
          clear hr
          go_wp2_with fail
          refine hQ.mono ?_
          rintro e w3 ⟨rfl, rfl⟩
          go_wp2_with fail
          go_roundw
          case rel => exact ⟨trivial, p + 1, by omega, by omega, by go_num, HA⟩
          case measure => simp [intOf]; omega
      · have hS := r16small p (by omega) false (by simp [hP]) wr
        have HA : Hid (∀ q, PrimeN q → q < p + 1 → X % q ≠ 0) := fun q hq h => by
          by_cases e : q = p
          · subst e; exact absurd hq hP
          · exact hall.out q hq (by omega)
        clear hP
        go_wp2_with fail
        refine hS.mono ?_
        rintro e w2 ⟨rfl, rfl⟩
        clear hS
        go_wp2_with fail
        go_roundw
        case rel => exact ⟨trivial, p + 1, by omega, by omega, by go_num, HA⟩
        case measure => simp [intOf]; omega
    · have hg : ¬ ((p : Int) ≤ n ∧ (p : Int) ≤ 10000) := fun h => hin ((HU.out p hp2).1 h)
      have HF := toHid (fac_none hall.out (show upTo n < p by omega))
      by_cases g1 : (p : Int) ≤ n
      · have g2 : ¬ (p : Int) ≤ 10000 := fun h => hg ⟨g1, h⟩
        clear hg
        go_wp2_with fail
        go_ret
        exact ⟨0, rfl, HF.out, rfl⟩
      · clear hg
        go_wp2_with fail
        go_ret
        exact ⟨0, rfl, HF.out, rfl⟩

theorem cmpN_nn {a b : Nat} (h : b ≤ a) : ¬ cmpN a b < 0 := by
  unfold cmpN
  rw [if_neg (by omega)]
  split <;> omega

theorem cmpNne {a b : Nat} (h : ¬ a = b) : ¬ cmpN a b = 0 := by
  unfold cmpN
  rw [if_neg h]
  split <;> omega

/-- Passes, as a number tells it. -/
def passN (X : Nat) : Prop := 2 ≤ X ∧ ∃ F, IsFac X 1000 F ∧ (F = 0 ∨ X = F)

set_option maxHeartbeats 1000000 in
/-- Passes. -/
theorem r16Passes (ao : Option Addr) (L cap : Nat) (xs : List Nat) (R : Bool) (hR : R = true ↔ passN (val 18446744073709551616 xs)) (w : World) (hu : Row .u64 w (.slice ao L cap) xs) (hdx : Digs 18446744073709551616 xs) (hL : L ≤ 1000000) :
    Calls Tryz.prog 49 #[.slice ao L cap] w fun e w' => e = .returned (.bool R) ∧ Kept Nought w w' := by
  obtain ⟨_, _, _, e1, hLx, _, _, _, _⟩ := hu.open
  cases e1
  have hO := rOf _ xs w hu hdx (by rw [hLx.out]; omega)
  have JF : Hid (∀ W, Kept Nought w W → Calls Tryz.prog 78 #[.slice ao L cap, .int .i64 1000] W fun e w' => ∃ F : Nat, e = .returned (.int .i64 (F : Int)) ∧ IsFac (val 18446744073709551616 xs) (upTo 1000) F ∧ w' = W) := fun W k => r16Factor ao L cap xs 1000 (by omega) (by omega) W (hu.grew k) hdx hL
  rw [show upTo 1000 = 1000 from rfl] at JF
  have HR := toHid hR
  clear hR hu hdx hL hLx
  generalize val 18446744073709551616 xs = X at *
  go_enter Tryz.func49, Tryz.ntmps49
  go_wp2_with fail
  refine hO.mono ?_
  rintro e w1 ⟨v1, rfl, hb1, _, k1⟩
  have hS := rSmall 2 (by omega) w1
  clear hO
  go_wp2_with fail
  refine hS.mono ?_
  rintro e w2 ⟨v2, rfl, hb2, _, k2⟩
  have hC := rCmp v1 v2 X 2 w2 (hb1.grew k2) hb2
  have K2 := k1.trans k2
  clear hS
  by_cases h2 : 2 ≤ X
  · have hc := cmpN_nn h2
    generalize cmpN X 2 = cc at *
    go_wp2_with fail
    refine hC.mono ?_
    rintro e w3 ⟨rfl, m3, rfl⟩
    have K3 := K2.drewN m3
    have hF := JF.out _ K3
    have hb3 := (hb1.grew k2).grew ((Kept.refl Nought w2).drewN m3)
    clear hC hb1 hb2 k1 k2 K2
    go_wp2_with fail
    refine hF.mono ?_
    rintro e w4 ⟨F, rfl, hfac, rfl⟩
    clear hF
    have hFle := hfac.le
    by_cases hF0 : F = 0
    · subst hF0
      have HT : Hid (R = true) := HR.out.2 ⟨h2, 0, hfac, .inl rfl⟩
      go_wp2_with fail
      go_ret
      exact ⟨by rw [HT.out]; rfl, K3⟩
    · have gF : ¬ (F : Int) = 0 := by omega
      have hS := rSmall F (by omega) (w2.drewN m3)
      go_wp2_with fail
      refine hS.mono ?_
      rintro e w5 ⟨v5, rfl, hb5, _, k5⟩
      have hC2 := rCmp v1 v5 X F w5 (hb3.grew k5) hb5
      have K5 := K3.trans k5
      clear hS
      by_cases hXF : X = F
      · have HT : Hid (R = true) := HR.out.2 ⟨h2, F, hfac, .inr hXF⟩
        rw [cmpN_eq hXF] at hC2
        go_wp2_with fail
        refine hC2.mono ?_
        rintro e w6 ⟨rfl, m6, rfl⟩
        go_wp2_with fail
        go_ret
        exact ⟨by rw [HT.out]; rfl, K5.drewN m6⟩
      · have HT : Hid (R = false) := by
          unfold Hid
          cases h : R with
          | false => rfl
          | true =>
            obtain ⟨_, G, hG, hG2⟩ := HR.out.1 h
            have := hG.uniq hfac
            subst this
            rcases hG2 with h3 | h3
            · exact absurd h3 hF0
            · exact absurd h3 hXF
        have hc2 := cmpNne hXF
        generalize cmpN X F = cd at *
        go_wp2_with fail
        refine hC2.mono ?_
        rintro e w6 ⟨rfl, m6, rfl⟩
        go_wp2_with fail
        go_ret
        exact ⟨by rw [HT.out]; show Ending.returned (Value.bool ((F : Int) == 0 || cd == 0)) = _; rw [show ((F : Int) == 0) = false by simp; omega, show (cd == 0) = false by simpa using hc2]; rfl, K5.drewN m6⟩
  · have HT : Hid (R = false) := by
      unfold Hid
      cases h : R with
      | false => rfl
      | true => exact absurd (HR.out.1 h).1 h2
    rw [cmpN_lt (show X < 2 by omega)] at hC
    go_wp2_with fail
    refine hC.mono ?_
    rintro e w3 ⟨rfl, m3, rfl⟩
    go_wp2_with fail
    go_ret
    exact ⟨by rw [HT.out]; rfl, K2.drewN m3⟩

end Go.Proofs.YtcjaafmlflonhaaGreatDoor


/- The plain side of layer 17 (package sconceref16): odd, Strong. -/
namespace Go.Proofs.YtcjaafmlflonhaaGreatDoor
open Go.RowKit

/-- What odd answers. -/
def oddE (X : Nat) : Nat := if 130 < wordsN X then 2 else if X ≤ 3 ∨ X % 2 = 0 then 1 else 0

theorem wordsTrim {xs : List Nat} {k : Nat} (hd : Digs 18446744073709551616 xs) (hk : k ≤ xs.length) (hz : ∀ i, k ≤ i → xs.getD i 0 = 0) (ht : k = 0 ∨ xs.getD (k - 1) 0 ≠ 0) : wordsN (val 18446744073709551616 xs) = k := by
  have hl : (xs.take k).length = k := by rw [List.length_take]; omega
  have hT := trimmed_take hk ht
  have hv := take_trim (B := 18446744073709551616) hk hz
  have h1 := fun n => len_le_iff (B := 18446744073709551616) (by omega) (hd.take k) hT n
  rw [hl, hv] at h1
  have h2 := fun n => wordsN_le (val 18446744073709551616 xs) n
  have h3 := (h2 k).2 ((h1 k).1 (Nat.le_refl _))
  have h4 := (h1 _).2 ((h2 _).1 (Nat.le_refl _))
  omega

theorem bigLow {w : World} {v : Value} {X : Nat} (h : IsBig w v X) (hX : 0 < X) : ∃ b off n cap d, v = .slice (some ⟨b, off, none⟩) n cap ∧ 0 < n ∧ w.cell? ⟨b, off, none⟩ = some (.int .u32 ((d : Nat) : Int)) ∧ d % 2 = X % 2 ∧ d < 4294967296 := by
  obtain ⟨ds, hr, hd, _, rfl, _⟩ := h
  cases ds with
  | nil => simp [val] at hX
  | cons d ds =>
    obtain ⟨ao, n, cap, rfl, hL, _, _, _, h4⟩ := hr.open
    have hn : 0 < n := by rw [← hL.out]; simp
    obtain ⟨b, off, rfl, hc⟩ := h4 0 hn
    refine ⟨b, off, n, cap, d, rfl, hn, by simpa using hc, ?_, hd d (by simp)⟩
    simp only [val]
    omega

theorem cmpN_le {a b : Nat} (h : a ≤ b) : cmpN a b ≤ 0 := by
  unfold cmpN
  split
  · omega
  · rw [if_pos (by omega)]
    omega

set_option maxRecDepth 20000 in
set_option maxHeartbeats 1000000 in
/-- odd. -/
theorem r16odd (ao : Option Addr) (L cap : Nat) (xs : List Nat) (E : Nat) (hE : E = oddE (val 18446744073709551616 xs)) (w : World) (hu : Row .u64 w (.slice ao L cap) xs) (hdx : Digs 18446744073709551616 xs) (hLb : L ≤ 1000000) :
    Calls Tryz.prog 53 #[.slice ao L cap] w fun e w' => e = .returned (.int .i64 (E : Int)) ∧ Kept Nought w w' := by
  have hu' := hu
  obtain ⟨_, _, _, e1, hL, c1, c2, c3, h4⟩ := hu.open
  cases e1
  have HC : Hid (∀ k, k ≤ L → Row .u64 w (.slice ao k cap) (xs.take k)) := fun k hk => hu'.cut (by rw [hL.out]; exact hk)
  have HZ : Hid (∀ i, L ≤ i → xs.getD i 0 = 0) := fun i hi => by have := hL.out; rw [List.getD_eq_getElem?_getD, List.getElem?_eq_none (by omega)]; rfl
  have HD := toHid hdx
  have HE := toHid hE
  have HLL := toHid hL
  clear hu hu' hdx hE hL c3
  go_enter Tryz.func53, Tryz.ntmps53
  go_wp2_with fail
  go_loopw [3] (fun kv wr => wr = w ∧ ∃ k : Nat, k ≤ L ∧ kv = .int .i64 (k : Int) ∧ Hid (∀ i, k ≤ i → xs.getD i 0 = 0)) (fun kv _ => (intOf kv).toNat)
  case atStart => exact ⟨rfl, L, Nat.le_refl _, rfl, HZ⟩
  case round =>
    obtain ⟨rfl, k, hk, rfl, hz⟩ := hrel
    have hgo : ∀ (ht : Hid (k = 0 ∨ xs.getD (k - 1) 0 ≠ 0)), wordsN (val 18446744073709551616 xs) = k ∧ val 18446744073709551616 (xs.take k) = val 18446744073709551616 xs := fun ht => ⟨wordsTrim HD.out (by rw [HLL.out.out]; exact hk) hz.out ht.out, take_trim (by rw [HLL.out.out]; exact hk) hz.out⟩
    by_cases hst : k = 0 ∨ xs.getD (k - 1) 0 ≠ 0
    · obtain ⟨hw, hv⟩ := hgo hst
      have hrow := HC.out k hk
      have hdt : Digs 18446744073709551616 (xs.take k) := HD.out.take k
      have hO := rOf _ _ wr hrow hdt (by rw [List.length_take, HLL.out.out]; omega)
      rw [hv] at hO
      have HE2 : Hid (E = if 130 < k then 2 else if val 18446744073709551616 xs ≤ 3 ∨ val 18446744073709551616 xs % 2 = 0 then 1 else 0) := by
        unfold Hid
        rw [HE.out, oddE, hw]
      generalize val 18446744073709551616 xs = X at *
      clear hgo hrow hdt hw hv
      by_cases hk0 : k = 0
      · subst hk0
        rw [if_neg (by omega)] at HE2
        go_wp2_with fail
        refine hO.mono ?_
        rintro e w1 ⟨v1, rfl, hb1, _, k1⟩
        have hS := rSmall 3 (by omega) w1
        clear hO
        go_wp2_with fail
        refine hS.mono ?_
        rintro e w2 ⟨v2, rfl, hb2, _, k2⟩
        have hb3 := hb1.grew k2
        have hC := rCmp v1 v2 X 3 w2 hb3 hb2
        have K2 := k1.trans k2
        clear hS hb1 hb2
        by_cases h3 : X ≤ 3
        · have HT : Hid (E = 1) := by unfold Hid; rw [HE2.out, if_pos (.inl h3)]
          have hc := cmpN_le h3
          generalize cmpN X 3 = cc at *
          go_wp2_with fail
          refine hC.mono ?_
          rintro e w3 ⟨rfl, m3, rfl⟩
          go_wp2_with fail
          go_ret
          exact ⟨by rw [HT.out]; rfl, K2.drewN m3⟩
        · rw [cmpN_gt (show 3 < X by omega)] at hC
          obtain ⟨b5, off5, n5, cap5, d5, rfl, hn5, hc5, hd5, hd6⟩ := bigLow hb3 (by omega)
          have gn5 : (0 : Int) < (n5 : Int) := by omega
          go_wp2_with fail
          refine hC.mono ?_
          rintro e w3 ⟨rfl, m3, rfl⟩
          have hc6 : (w2.drewN m3).cell? ⟨b5, off5, none⟩ = some (.int .u32 (d5 : Int)) := ((Kept.refl Nought w2).drewN m3).cellN hc5
          have hm5 : (d5 : Int).tmod 2 = ((d5 % 2 : Nat) : Int) := by rw [Int.tmod_eq_emod_of_nonneg (by omega)]; omega
          clear hC hc5
          by_cases h2 : X % 2 = 0
          · have HT : Hid (E = 1) := by unfold Hid; rw [HE2.out, if_pos (.inr h2)]
            have hz5 : (d5 : Int) % 2 = 0 := by omega
            rw [show d5 % 2 = 0 by omega] at hm5
            go_wp2_with fail
            go_ret
            exact ⟨by rw [HT.out]; rfl, K2.drewN m3⟩
          · have HT : Hid (E = 0) := by unfold Hid; rw [HE2.out, if_neg (by omega)]
            have hz5 : (d5 : Int) % 2 = 1 := by omega
            rw [show d5 % 2 = 1 by omega] at hm5
            go_wp2_with fail
            go_ret
            exact ⟨by rw [HT.out]; rfl, K2.drewN m3⟩
      · have hne : xs.getD (k - 1) 0 ≠ 0 := by
          rcases hst with h | h
          · exact absurd h hk0
          · exact h
        obtain ⟨q, rfl⟩ : ∃ q, k = q + 1 := ⟨k - 1, by omega⟩
        rw [Nat.add_sub_cancel] at hne
        obtain ⟨b, off, rfl, hc⟩ := h4 q (by omega)
        generalize xs.getD q 0 = z at *
        have gz : ¬ (z : Int) = 0 := by omega
        have gq : ((q + 1 : Nat) : Int) - 1 = (q : Int) := by omega
        have gq1 : (q : Int) < (L : Int) := by omega
        clear h4
        generalize hkk : q + 1 = k at *
        by_cases h130 : 130 < k
        · have g3 : (k : Int) > 130 := by omega
          have HT : Hid (E = 2) := by unfold Hid; rw [HE2.out, if_pos h130]
          clear hO HE2
          go_wp2_with fail
          go_ret
          exact ⟨by rw [HT.out]; rfl, Kept.refl _ _⟩
        · have g3 : ¬ (k : Int) > 130 := by omega
          rw [if_neg h130] at HE2
          go_wp2_with fail
          refine hO.mono ?_
          rintro e w1 ⟨v1, rfl, hb1, _, k1⟩
          have hS := rSmall 3 (by omega) w1
          clear hO
          go_wp2_with fail
          refine hS.mono ?_
          rintro e w2 ⟨v2, rfl, hb2, _, k2⟩
          have hb3 := hb1.grew k2
          have hC := rCmp v1 v2 X 3 w2 hb3 hb2
          have K2 := k1.trans k2
          clear hS hb1 hb2
          by_cases h3 : X ≤ 3
          · have HT : Hid (E = 1) := by unfold Hid; rw [HE2.out, if_pos (.inl h3)]
            have hc := cmpN_le h3
            generalize cmpN X 3 = cc at *
            go_wp2_with fail
            refine hC.mono ?_
            rintro e w3 ⟨rfl, m3, rfl⟩
            go_wp2_with fail
            go_ret
            exact ⟨by rw [HT.out]; rfl, K2.drewN m3⟩
          · rw [cmpN_gt (show 3 < X by omega)] at hC
            obtain ⟨b5, off5, n5, cap5, d5, rfl, hn5, hc5, hd5, hd6⟩ := bigLow hb3 (by omega)
            have gn5 : (0 : Int) < (n5 : Int) := by omega
            go_wp2_with fail
            refine hC.mono ?_
            rintro e w3 ⟨rfl, m3, rfl⟩
            have hc6 : (w2.drewN m3).cell? ⟨b5, off5, none⟩ = some (.int .u32 (d5 : Int)) := ((Kept.refl Nought w2).drewN m3).cellN hc5
            have hm5 : (d5 : Int).tmod 2 = ((d5 % 2 : Nat) : Int) := by rw [Int.tmod_eq_emod_of_nonneg (by omega)]; omega
            clear hC hc5
            by_cases h2 : X % 2 = 0
            · have HT : Hid (E = 1) := by unfold Hid; rw [HE2.out, if_pos (.inr h2)]
              have hz5 : (d5 : Int) % 2 = 0 := by omega
              rw [show d5 % 2 = 0 by omega] at hm5
              go_wp2_with fail
              go_ret
              exact ⟨by rw [HT.out]; rfl, K2.drewN m3⟩
            · have HT : Hid (E = 0) := by unfold Hid; rw [HE2.out, if_neg (by omega)]
              have hz5 : (d5 : Int) % 2 = 1 := by omega
              rw [show d5 % 2 = 1 by omega] at hm5
              go_wp2_with fail
              go_ret
              exact ⟨by rw [HT.out]; rfl, K2.drewN m3⟩
    · have hk0 : ¬ k = 0 := fun h => hst (.inl h)
      have hz0 : xs.getD (k - 1) 0 = 0 := Classical.byContradiction fun h => hst (.inr h)
      obtain ⟨q, rfl⟩ : ∃ q, k = q + 1 := ⟨k - 1, by omega⟩
      rw [Nat.add_sub_cancel] at hz0
      obtain ⟨b, off, rfl, hc⟩ := h4 q (by omega)
      have HA : Hid (∀ i, q ≤ i → xs.getD i 0 = 0) := fun i hi => by
        by_cases e : i = q
        · subst e; exact hz0
        · exact hz.out i (by omega)
      rw [hz0] at hc
      have gq : ((q + 1 : Nat) : Int) - 1 = (q : Int) := by omega
      have gq1 : (q : Int) < (L : Int) := by omega
      clear h4 hz0 hst hgo hk0
      go_wp2_with fail
      go_roundw
      case rel => exact ⟨trivial, q, by omega, by go_num, HA⟩
      case measure => simp [intOf]

end Go.Proofs.YtcjaafmlflonhaaGreatDoor

