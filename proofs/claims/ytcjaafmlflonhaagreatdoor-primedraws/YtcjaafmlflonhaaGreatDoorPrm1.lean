/- The plain side of layer 16 (package sconceref16): small, Primes, Factor, Passes. -/
import Derived.Test.YtcjaafmlflonhaaGreatDoorRef5C
import Derived.Test.YtcjaafmlflonhaaGreatDoorBase2
namespace Go.Proofs.YtcjaafmlflonhaaGreatDoor
open Go.RowKit

/-- A prime. -/
def PrimeN (n : Nat) : Prop := 2 ≤ n ∧ ∀ d, 2 ≤ d → d < n → n % d ≠ 0

instance (n : Nat) : Decidable (PrimeN n) :=
  if h : 2 ≤ n then
    if g : ∀ d, d < n → 2 ≤ d → n % d ≠ 0 then isTrue ⟨h, fun d h1 h2 => g d h2 h1⟩ else isFalse (fun p => g (fun d h1 h2 => p.2 d h2 h1))
  else isFalse (fun p => h p.1)

/-- Trial by numbers whose squares aren't above it. -/
theorem prime_of_trial {n k : Nat} (hn : 2 ≤ n) (hk : n < k * k) (h : ∀ d, 2 ≤ d → d < k → n % d ≠ 0) : PrimeN n := by
  refine ⟨hn, fun d hd hdn e => ?_⟩
  by_cases hdk : d < k
  · exact h d hd hdk e
  · obtain ⟨c, hc⟩ := Nat.dvd_of_mod_eq_zero e
    have hc2 : 2 ≤ c := by
      rcases Nat.lt_or_ge c 2 with h1 | h1
      · have h01 : c = 0 ∨ c = 1 := by omega
        rcases h01 with rfl | rfl
        · omega
        · omega
      · exact h1
    have hck : c < k := by
      rcases Nat.lt_or_ge c k with h1 | h1
      · exact h1
      · have := Nat.mul_le_mul (show k ≤ d by omega) h1
        omega
    refine h c hc2 hck ?_
    rw [hc, Nat.mul_comm]
    exact Nat.mul_mod_right c d

theorem not_prime_of {n d : Nat} (hd : 2 ≤ d) (hdn : d * d ≤ n) (h : n % d = 0) : ¬ PrimeN n := by
  intro p
  have : d < n := by
    have := Nat.mul_le_mul_left d hd
    omega
  exact p.2 d hd this h

set_option maxHeartbeats 800000 in
/-- small. -/
theorem r16small (n : Nat) (hn : n ≤ 1000000) (R : Bool) (hR : R = true ↔ PrimeN n) (w : World) :
    Calls Tryz.prog 118 #[.int .i64 (n : Nat)] w fun e w' => e = .returned (.bool R) ∧ w' = w := by
  have HR := toHid hR
  clear hR
  go_enter Tryz.func118, Tryz.ntmps118
  go_wp2_with fail
  go_loopw [3] (fun dv wr => wr = w ∧ ∃ d : Nat, 2 ≤ d ∧ d ≤ 1002 ∧ dv = .int .i64 (d : Int) ∧ Hid (∀ c, 2 ≤ c → c < d → n % c ≠ 0)) (fun dv _ => 1002 - (intOf dv).toNat)
  case atStart => exact ⟨rfl, 2, by omega, by omega, rfl, fun c h1 h2 => by omega⟩
  case round =>
    obtain ⟨rfl, d, hd2, hd, rfl, hall⟩ := hrel
    have hdm : d * d ≤ 1002 * 1002 := Nat.mul_le_mul hd hd
    obtain ⟨q, hq⟩ : ∃ q, q = d * d := ⟨_, rfl⟩
    have hw : IntKind.i64.wrap ((d : Int) * (d : Int)) = (q : Int) := by
      have e : (d : Int) * (d : Int) = ((d * d : Nat) : Int) := by simp
      rw [e, ← hq, IntKind.wrap_i64]
      omega
    have HQ := toHid hq
    rw [← hq] at hdm
    clear hq
    by_cases hqn : q ≤ n
    · have hdn : d * d ≤ n := by rw [← HQ.out]; exact hqn
      have hd1 : d ≤ 1000 := by
        rcases Nat.lt_or_ge 1000 d with h | h
        · have := Nat.mul_le_mul (show 1001 ≤ d by omega) (show 1001 ≤ d by omega)
          omega
        · exact h
      have g1 : (q : Int) ≤ (n : Int) := by omega
      have g0 : ¬ (d : Int) = 0 := by omega
      have hmod : (n : Int).tmod (d : Int) = ((n % d : Nat) : Int) := by rw [Int.tmod_eq_emod_of_nonneg (by omega)]; simp
      by_cases hm : n % d = 0
      · have HF : Hid (R = false) := by
          unfold Hid
          cases h : R with
          | false => rfl
          | true => exact absurd (HR.out.1 h) (not_prime_of hd2 hdn hm)
        rw [hm] at hmod
        clear hm hdn
        go_wp2_with fail
        go_ret
        exact ⟨by rw [HF.out]; rfl, rfl⟩
      · have HA : Hid (∀ c, 2 ≤ c → c < d + 1 → n % c ≠ 0) := fun c h1 h2 => by
          by_cases e : c = d
          · subst e; exact hm
          · exact hall.out c h1 (by omega)
        obtain ⟨r, hr⟩ : ∃ r, r = n % d := ⟨_, rfl⟩
        rw [← hr] at hmod hm
        have g2 : ¬ (r : Int) = 0 := by omega
        clear hr hdn
        go_wp2_with fail
        go_roundw
        case rel => exact ⟨trivial, d + 1, by omega, by omega, by go_num, HA⟩
        case measure => simp [intOf]; omega
    · have g1 : ¬ (q : Int) ≤ (n : Int) := by omega
      have HB : Hid (R = decide ((n : Int) > 1)) := by
        unfold Hid
        by_cases h : 2 ≤ n
        · rw [decide_eq_true (by omega)]
          exact HR.out.2 (prime_of_trial h (by rw [← HQ.out]; omega) hall.out)
        · rw [decide_eq_false (by omega)]
          cases h2 : R with
          | false => rfl
          | true => exact absurd (HR.out.1 h2).1 h
      go_wp2_with fail
      go_ret
      exact ⟨by rw [HB.out]; rfl, rfl⟩

/-- The primes up to m, rising. -/
def primesTo (m : Nat) : List Nat := (List.range (m + 1)).filter (fun p => decide (PrimeN p))

theorem primesTo_succ (m : Nat) : primesTo (m + 1) = primesTo m ++ (if PrimeN (m + 1) then [m + 1] else []) := by
  unfold primesTo
  rw [List.range_succ, List.filter_append]
  congr 1
  by_cases h : PrimeN (m + 1)
  · rw [if_pos h]; simp [h]
  · rw [if_neg h]; simp [h]

theorem primesTo_one : primesTo 1 = [] := by decide

theorem primesTo_low {m : Nat} (h : m ≤ 1) : primesTo m = [] := by
  have h01 : m = 0 ∨ m = 1 := by omega
  rcases h01 with rfl | rfl <;> decide

theorem primesTo_len (m : Nat) : (primesTo m).length ≤ m + 1 := by
  unfold primesTo
  have := List.length_filter_le (fun p => decide (PrimeN p)) (List.range (m + 1))
  rw [List.length_range] at this
  exact this

theorem primesTo_mem {m p : Nat} : p ∈ primesTo m ↔ PrimeN p ∧ p ≤ m := by
  unfold primesTo
  rw [List.mem_filter, List.mem_range, decide_eq_true_iff]
  exact ⟨fun h => ⟨h.2, by omega⟩, fun h => ⟨by omega, h.1⟩⟩

/-- How far Primes and Factor go. -/
def upTo (n : Int) : Nat := if n ≤ 10000 then n.toNat else 10000

theorem upTo_le (n : Int) : upTo n ≤ 10000 := by unfold upTo; split <;> omega

theorem Tryz.info3 : (Tryz.prog.info? 3).map (fun i => (i.zero, i.size, i.bytes)) = some (some (.int .i64 0), 1, 8) := by kernel_rfl

/-- R is the least prime up to b that divides X; 0: none does. -/
def IsFac (X b R : Nat) : Prop := (R = 0 ∧ ∀ p, PrimeN p → p ≤ b → X % p ≠ 0) ∨ (PrimeN R ∧ R ≤ b ∧ X % R = 0 ∧ ∀ p, PrimeN p → p < R → X % p ≠ 0)

theorem IsFac.uniq {X b R S : Nat} (h : IsFac X b R) (g : IsFac X b S) : R = S := by
  rcases h with ⟨rfl, h⟩ | ⟨h1, h2, h3, h4⟩
  · rcases g with ⟨rfl, _⟩ | ⟨g1, g2, g3, _⟩
    · rfl
    · exact absurd g3 (h S g1 g2)
  · rcases g with ⟨rfl, g⟩ | ⟨g1, g2, g3, g4⟩
    · exact absurd h3 (g R h1 h2)
    · rcases Nat.lt_trichotomy R S with h | h | h
      · exact absurd h3 (g4 R h1 h)
      · exact h
      · exact absurd g3 (h4 S g1 h)

theorem IsFac.le {X b R : Nat} (h : IsFac X b R) : R ≤ b := by
  rcases h with ⟨rfl, _⟩ | ⟨_, h2, _⟩
  · exact Nat.zero_le _
  · exact h2

theorem fac_none {X b p : Nat} (h : ∀ q, PrimeN q → q < p → X % q ≠ 0) (hp : b < p) : IsFac X b 0 := .inl ⟨rfl, fun q hq hb => h q hq (by omega)⟩

set_option maxHeartbeats 1000000 in
/-- Factor. -/
theorem r16Factor (ao : Option Addr) (L cap : Nat) (xs : List Nat) (n : Int) (h0 : -9223372036854775808 ≤ n) (h1 : n ≤ 9223372036854775807) (w : World) (hu : Row .u64 w (.slice ao L cap) xs) (hdx : Digs 18446744073709551616 xs) (hL : L ≤ 1000000) :
    Calls Tryz.prog 78 #[.slice ao L cap, .int .i64 n] w fun e w' => ∃ R : Nat, e = .returned (.int .i64 (R : Int)) ∧ IsFac (val 18446744073709551616 xs) (upTo n) R ∧ w' = w := by
  have HU : Hid (∀ p : Nat, 2 ≤ p → ((p : Int) ≤ n ∧ (p : Int) ≤ 10000 ↔ p ≤ upTo n)) := fun p hp => by
    unfold upTo
    split <;> omega
  have hul := upTo_le n
  obtain ⟨X, hX⟩ : ∃ X, X = val 18446744073709551616 xs := ⟨_, rfl⟩
  have JS : Hid (∀ (D R : Nat), D < 18446744073709551616 → 0 < D → R = X % D → Calls Tryz.prog 119 #[.slice ao L cap, .int .u64 (D : Nat)] w fun e w' => e = .returned (.tuple #[.int .u64 (R : Nat), .int .i64 0]) ∧ w' = w) := fun D R h1 h2 h3 => q5Small ao L cap xs D R h1 h2 (by rw [← hX]; exact h3) w hu hdx hL
  rw [← hX]
  clear hX hu hdx hL
  go_enter Tryz.func78, Tryz.ntmps78
  go_wp2_with fail
  go_loopw [5] (fun pv wr => wr = w ∧ ∃ p : Nat, 2 ≤ p ∧ p ≤ 10001 ∧ pv = .int .i64 (p : Int) ∧ Hid (∀ q, PrimeN q → q < p → X % q ≠ 0)) (fun pv _ => 10001 - (intOf pv).toNat)
  case atStart => exact ⟨rfl, 2, by omega, by omega, rfl, fun q hq h => absurd hq.1 (by omega)⟩
  case round =>
    obtain ⟨rfl, p, hp2, hp, rfl, hall⟩ := hrel
    by_cases hin : p ≤ upTo n
    · obtain ⟨g1, g2⟩ := (HU.out p hp2).2 hin
      by_cases hP : PrimeN p
      · have hS := r16small p (by omega) true (by simp [hP]) wr
        have HP := toHid hP
        clear hP
        go_wp2_with fail
        refine hS.mono ?_
        rintro e w2 ⟨rfl, rfl⟩
        clear hS
        by_cases hm : X % p = 0
        · have hQ := JS.out p 0 (by omega) (by omega) hm.symm
          have HM := toHid hm
          clear hm
          go_wp2_with fail
          refine hQ.mono ?_
          rintro e w3 ⟨rfl, rfl⟩
          go_wp2_with fail
          go_ret
          exact ⟨p, rfl, .inr ⟨HP.out, hin, HM.out, hall.out⟩, rfl⟩
        · obtain ⟨r, hr⟩ : ∃ r, r = X % p := ⟨_, rfl⟩
          have hQ := JS.out p r (by omega) (by omega) hr
          have HA : Hid (∀ q, PrimeN q → q < p + 1 → X % q ≠ 0) := fun q hq h => by
            by_cases e : q = p
            · subst e; exact hm
            · exact hall.out q hq (by omega)
          rw [← hr] at hm
          have g3 : ¬ (r : Int) = 0 := by omega
          clear hr
          go_wp2_with fail
          refine hQ.mono ?_
          rintro e w3 ⟨rfl, rfl⟩
          go_wp2_with fail
          go_roundw
          case rel => exact ⟨trivial, p + 1, by omega, by omega, by go_num, HA⟩
          case measure => simp [intOf]; omega
      · have hS := r16small p (by omega) false (by simp [hP]) wr
        have HA : Hid (∀ q, PrimeN q → q < p + 1 → X % q ≠ 0) := fun q hq h => by
          by_cases e : q = p
          · subst e; exact absurd hq hP
          · exact hall.out q hq (by omega)
        clear hP
        go_wp2_with fail
        refine hS.mono ?_
        rintro e w2 ⟨rfl, rfl⟩
        clear hS
        go_wp2_with fail
        go_roundw
        case rel => exact ⟨trivial, p + 1, by omega, by omega, by go_num, HA⟩
        case measure => simp [intOf]; omega
    · have hg : ¬ ((p : Int) ≤ n ∧ (p : Int) ≤ 10000) := fun h => hin ((HU.out p hp2).1 h)
      have HF := toHid (fac_none hall.out (show upTo n < p by omega))
      by_cases g1 : (p : Int) ≤ n
      · have g2 : ¬ (p : Int) ≤ 10000 := fun h => hg ⟨g1, h⟩
        clear hg
        go_wp2_with fail
        go_ret
        exact ⟨0, rfl, HF.out, rfl⟩
      · clear hg
        go_wp2_with fail
        go_ret
        exact ⟨0, rfl, HF.out, rfl⟩

theorem cmpN_nn {a b : Nat} (h : b ≤ a) : ¬ cmpN a b < 0 := by
  unfold cmpN
  rw [if_neg (by omega)]
  split <;> omega

theorem cmpNne {a b : Nat} (h : ¬ a = b) : ¬ cmpN a b = 0 := by
  unfold cmpN
  rw [if_neg h]
  split <;> omega

/-- Passes, as a number tells it. -/
def passN (X : Nat) : Prop := 2 ≤ X ∧ ∃ F, IsFac X 1000 F ∧ (F = 0 ∨ X = F)

set_option maxHeartbeats 1000000 in
/-- Passes. -/
theorem r16Passes (ao : Option Addr) (L cap : Nat) (xs : List Nat) (R : Bool) (hR : R = true ↔ passN (val 18446744073709551616 xs)) (w : World) (hu : Row .u64 w (.slice ao L cap) xs) (hdx : Digs 18446744073709551616 xs) (hL : L ≤ 1000000) :
    Calls Tryz.prog 49 #[.slice ao L cap] w fun e w' => e = .returned (.bool R) ∧ Kept Nought w w' := by
  obtain ⟨_, _, _, e1, hLx, _, _, _, _⟩ := hu.open
  cases e1
  have hO := rOf _ xs w hu hdx (by rw [hLx.out]; omega)
  have JF : Hid (∀ W, Kept Nought w W → Calls Tryz.prog 78 #[.slice ao L cap, .int .i64 1000] W fun e w' => ∃ F : Nat, e = .returned (.int .i64 (F : Int)) ∧ IsFac (val 18446744073709551616 xs) (upTo 1000) F ∧ w' = W) := fun W k => r16Factor ao L cap xs 1000 (by omega) (by omega) W (hu.grew k) hdx hL
  rw [show upTo 1000 = 1000 from rfl] at JF
  have HR := toHid hR
  clear hR hu hdx hL hLx
  generalize val 18446744073709551616 xs = X at *
  go_enter Tryz.func49, Tryz.ntmps49
  go_wp2_with fail
  refine hO.mono ?_
  rintro e w1 ⟨v1, rfl, hb1, _, k1⟩
  have hS := rSmall 2 (by omega) w1
  clear hO
  go_wp2_with fail
  refine hS.mono ?_
  rintro e w2 ⟨v2, rfl, hb2, _, k2⟩
  have hC := rCmp v1 v2 X 2 w2 (hb1.grew k2) hb2
  have K2 := k1.trans k2
  clear hS
  by_cases h2 : 2 ≤ X
  · have hc := cmpN_nn h2
    generalize cmpN X 2 = cc at *
    go_wp2_with fail
    refine hC.mono ?_
    rintro e w3 ⟨rfl, m3, rfl⟩
    have K3 := K2.drewN m3
    have hF := JF.out _ K3
    have hb3 := (hb1.grew k2).grew ((Kept.refl Nought w2).drewN m3)
    clear hC hb1 hb2 k1 k2 K2
    go_wp2_with fail
    refine hF.mono ?_
    rintro e w4 ⟨F, rfl, hfac, rfl⟩
    clear hF
    have hFle := hfac.le
    by_cases hF0 : F = 0
    · subst hF0
      have HT : Hid (R = true) := HR.out.2 ⟨h2, 0, hfac, .inl rfl⟩
      go_wp2_with fail
      go_ret
      exact ⟨by rw [HT.out]; rfl, K3⟩
    · have gF : ¬ (F : Int) = 0 := by omega
      have hS := rSmall F (by omega) (w2.drewN m3)
      go_wp2_with fail
      refine hS.mono ?_
      rintro e w5 ⟨v5, rfl, hb5, _, k5⟩
      have hC2 := rCmp v1 v5 X F w5 (hb3.grew k5) hb5
      have K5 := K3.trans k5
      clear hS
      by_cases hXF : X = F
      · have HT : Hid (R = true) := HR.out.2 ⟨h2, F, hfac, .inr hXF⟩
        rw [cmpN_eq hXF] at hC2
        go_wp2_with fail
        refine hC2.mono ?_
        rintro e w6 ⟨rfl, m6, rfl⟩
        go_wp2_with fail
        go_ret
        exact ⟨by rw [HT.out]; rfl, K5.drewN m6⟩
      · have HT : Hid (R = false) := by
          unfold Hid
          cases h : R with
          | false => rfl
          | true =>
            obtain ⟨_, G, hG, hG2⟩ := HR.out.1 h
            have := hG.uniq hfac
            subst this
            rcases hG2 with h3 | h3
            · exact absurd h3 hF0
            · exact absurd h3 hXF
        have hc2 := cmpNne hXF
        generalize cmpN X F = cd at *
        go_wp2_with fail
        refine hC2.mono ?_
        rintro e w6 ⟨rfl, m6, rfl⟩
        go_wp2_with fail
        go_ret
        exact ⟨by rw [HT.out]; show Ending.returned (Value.bool ((F : Int) == 0 || cd == 0)) = _; rw [show ((F : Int) == 0) = false by simp; omega, show (cd == 0) = false by simpa using hc2]; rfl, K5.drewN m6⟩
  · have HT : Hid (R = false) := by
      unfold Hid
      cases h : R with
      | false => rfl
      | true => exact absurd (HR.out.1 h).1 h2
    rw [cmpN_lt (show X < 2 by omega)] at hC
    go_wp2_with fail
    refine hC.mono ?_
    rintro e w3 ⟨rfl, m3, rfl⟩
    go_wp2_with fail
    go_ret
    exact ⟨by rw [HT.out]; rfl, K2.drewN m3⟩

end Go.Proofs.YtcjaafmlflonhaaGreatDoor
