/- The plain side of layer 16 (package sconceref16): small, Primes, Factor, Passes. -/
import Derived.Test.YtgcbbadakfdcgaaRef5C
import Derived.Test.YtgcbbadakfdcgaaBase2
namespace Go.Proofs.Ytgcbbadakfdcgaa
open Go.RowKit

/-- A prime. -/
def PrimeN (n : Nat) : Prop := 2 ≤ n ∧ ∀ d, 2 ≤ d → d < n → n % d ≠ 0

instance (n : Nat) : Decidable (PrimeN n) :=
  if h : 2 ≤ n then
    if g : ∀ d, d < n → 2 ≤ d → n % d ≠ 0 then isTrue ⟨h, fun d h1 h2 => g d h2 h1⟩ else isFalse (fun p => g (fun d h1 h2 => p.2 d h2 h1))
  else isFalse (fun p => h p.1)

/-- Trial by numbers whose squares aren't above it. -/
theorem prime_of_trial {n k : Nat} (hn : 2 ≤ n) (hk : n < k * k) (h : ∀ d, 2 ≤ d → d < k → n % d ≠ 0) : PrimeN n := by
  refine ⟨hn, fun d hd hdn e => ?_⟩
  by_cases hdk : d < k
  · exact h d hd hdk e
  · obtain ⟨c, hc⟩ := Nat.dvd_of_mod_eq_zero e
    have hc2 : 2 ≤ c := by
      rcases Nat.lt_or_ge c 2 with h1 | h1
      · have h01 : c = 0 ∨ c = 1 := by omega
        rcases h01 with rfl | rfl
        · omega
        · omega
      · exact h1
    have hck : c < k := by
      rcases Nat.lt_or_ge c k with h1 | h1
      · exact h1
      · have := Nat.mul_le_mul (show k ≤ d by omega) h1
        omega
    refine h c hc2 hck ?_
    rw [hc, Nat.mul_comm]
    exact Nat.mul_mod_right c d

theorem not_prime_of {n d : Nat} (hd : 2 ≤ d) (hdn : d * d ≤ n) (h : n % d = 0) : ¬ PrimeN n := by
  intro p
  have : d < n := by
    have := Nat.mul_le_mul_left d hd
    omega
  exact p.2 d hd this h

set_option maxHeartbeats 800000 in
/-- small. -/
theorem r16small (n : Nat) (hn : n ≤ 1000000) (R : Bool) (hR : R = true ↔ PrimeN n) (w : World) :
    Calls Try.prog 14 #[.int .i64 (n : Nat)] w fun e w' => e = .returned (.bool R) ∧ w' = w := by
  have HR := toHid hR
  clear hR
  go_enter Try.func14, Try.ntmps14
  go_wp2_with fail
  go_loopw [3] (fun dv wr => wr = w ∧ ∃ d : Nat, 2 ≤ d ∧ d ≤ 1002 ∧ dv = .int .i64 (d : Int) ∧ Hid (∀ c, 2 ≤ c → c < d → n % c ≠ 0)) (fun dv _ => 1002 - (intOf dv).toNat)
  case atStart => exact ⟨rfl, 2, by omega, by omega, rfl, fun c h1 h2 => by omega⟩
  case round =>
    obtain ⟨rfl, d, hd2, hd, rfl, hall⟩ := hrel
    have hdm : d * d ≤ 1002 * 1002 := Nat.mul_le_mul hd hd
    obtain ⟨q, hq⟩ : ∃ q, q = d * d := ⟨_, rfl⟩
    have hw : IntKind.i64.wrap ((d : Int) * (d : Int)) = (q : Int) := by
      have e : (d : Int) * (d : Int) = ((d * d : Nat) : Int) := by simp
      rw [e, ← hq, IntKind.wrap_i64]
      omega
    have HQ := toHid hq
    rw [← hq] at hdm
    clear hq
    by_cases hqn : q ≤ n
    · have hdn : d * d ≤ n := by rw [← HQ.out]; exact hqn
      have hd1 : d ≤ 1000 := by
        rcases Nat.lt_or_ge 1000 d with h | h
        · have := Nat.mul_le_mul (show 1001 ≤ d by omega) (show 1001 ≤ d by omega)
          omega
        · exact h
      have g1 : (q : Int) ≤ (n : Int) := by omega
      have g0 : ¬ (d : Int) = 0 := by omega
      have hmod : (n : Int).tmod (d : Int) = ((n % d : Nat) : Int) := by rw [Int.tmod_eq_emod_of_nonneg (by omega)]; simp
      by_cases hm : n % d = 0
      · have HF : Hid (R = false) := by
          unfold Hid
          cases h : R with
          | false => rfl
          | true => exact absurd (HR.out.1 h) (not_prime_of hd2 hdn hm)
        rw [hm] at hmod
        clear hm hdn
        go_wp2_with fail
        go_ret
        exact ⟨by rw [HF.out]; rfl, rfl⟩
      · have HA : Hid (∀ c, 2 ≤ c → c < d + 1 → n % c ≠ 0) := fun c h1 h2 => by
          by_cases e : c = d
          · subst e; exact hm
          · exact hall.out c h1 (by omega)
        obtain ⟨r, hr⟩ : ∃ r, r = n % d := ⟨_, rfl⟩
        rw [← hr] at hmod hm
        have g2 : ¬ (r : Int) = 0 := by omega
        clear hr hdn
        go_wp2_with fail
        go_roundw
        case rel => exact ⟨trivial, d + 1, by omega, by omega, by go_num, HA⟩
        case measure => simp [intOf]; omega
    · have g1 : ¬ (q : Int) ≤ (n : Int) := by omega
      have HB : Hid (R = decide ((n : Int) > 1)) := by
        unfold Hid
        by_cases h : 2 ≤ n
        · rw [decide_eq_true (by omega)]
          exact HR.out.2 (prime_of_trial h (by rw [← HQ.out]; omega) hall.out)
        · rw [decide_eq_false (by omega)]
          cases h2 : R with
          | false => rfl
          | true => exact absurd (HR.out.1 h2).1 h
      go_wp2_with fail
      go_ret
      exact ⟨by rw [HB.out]; rfl, rfl⟩

/-- The primes up to m, rising. -/
def primesTo (m : Nat) : List Nat := (List.range (m + 1)).filter (fun p => decide (PrimeN p))

theorem primesTo_succ (m : Nat) : primesTo (m + 1) = primesTo m ++ (if PrimeN (m + 1) then [m + 1] else []) := by
  unfold primesTo
  rw [List.range_succ, List.filter_append]
  congr 1
  by_cases h : PrimeN (m + 1)
  · rw [if_pos h]; simp [h]
  · rw [if_neg h]; simp [h]

theorem primesTo_one : primesTo 1 = [] := by decide

theorem primesTo_low {m : Nat} (h : m ≤ 1) : primesTo m = [] := by
  have h01 : m = 0 ∨ m = 1 := by omega
  rcases h01 with rfl | rfl <;> decide

theorem primesTo_len (m : Nat) : (primesTo m).length ≤ m + 1 := by
  unfold primesTo
  have := List.length_filter_le (fun p => decide (PrimeN p)) (List.range (m + 1))
  rw [List.length_range] at this
  exact this

theorem primesTo_mem {m p : Nat} : p ∈ primesTo m ↔ PrimeN p ∧ p ≤ m := by
  unfold primesTo
  rw [List.mem_filter, List.mem_range, decide_eq_true_iff]
  exact ⟨fun h => ⟨h.2, by omega⟩, fun h => ⟨by omega, h.1⟩⟩

/-- How far Primes and Factor go. -/
def upTo (n : Int) : Nat := if n ≤ 10000 then n.toNat else 10000

theorem upTo_le (n : Int) : upTo n ≤ 10000 := by unfold upTo; split <;> omega

theorem Try.info3 : (Try.prog.info? 3).map (fun i => (i.zero, i.size, i.bytes)) = some (some (.int .i64 0), 1, 8) := by kernel_rfl

set_option maxHeartbeats 1000000 in
/-- Primes. -/
theorem r16Primes (n : Int) (h0 : -9223372036854775808 ≤ n) (h1 : n ≤ 9223372036854775807) (w : World) :
    Calls Try.prog 6 #[.int .i64 n] w fun e w' => ∃ v', e = .returned v' ∧ Row .i64 w' v' (primesTo (upTo n)) ∧ (∀ b, v'.ownBlock = some b → w.heap.size ≤ b) ∧ Kept Nought w w' := by
  obtain ⟨i0, hi0, hz0, hz1, hz2⟩ := info_parts Try.info3
  have HU : Hid (∀ p : Nat, 2 ≤ p → ((p : Int) ≤ n ∧ (p : Int) ≤ 10000 ↔ p ≤ upTo n)) := fun p hp => by
    unfold upTo
    split <;> omega
  have hul := upTo_le n
  go_enter Try.func6, Try.ntmps6
  go_wp2_with fail
  go_loopw [3, 4] (fun a pv wr => ∃ p : Nat, 2 ≤ p ∧ (p ≤ upTo n + 1 ∨ p = 2) ∧ p ≤ 10001 ∧ pv = .int .i64 (p : Int) ∧ wr.ownsRow w.heap.size 3 1 a (primesTo (p - 1)).length ((primesTo (p - 1)).map fun z => .int .i64 (z : Nat)) ∧ Hid (Kept Nought w wr)) (fun _ pv _ => 10001 - (intOf pv).toNat)
  case atStart => exact ⟨2, by omega, .inr rfl, by omega, rfl, by rw [show primesTo (2 - 1) = [] from primesTo_one]; exact World.ownsRow_nil _ _ _ _, Kept.refl _ _⟩
  case round =>
    obtain ⟨p, hp2, hpu, hp, rfl, ho, hkp⟩ := hrel
    by_cases hin : p ≤ upTo n
    · obtain ⟨g1, g2⟩ := (HU.out p hp2).2 hin
      have hlen := primesTo_len (p - 1)
      obtain ⟨q, rfl⟩ : ∃ q, p = q + 1 := ⟨p - 1, by omega⟩
      have hps := primesTo_succ q
      rw [Nat.add_sub_cancel] at ho hlen
      by_cases hP : PrimeN (q + 1)
      · rw [if_pos hP] at hps
        have hS := r16small (q + 1) (by omega) true (by simp [hP]) wr
        have HPS := toHid hps
        generalize hL : primesTo q = L at *
        clear hL hps hP
        generalize hpp : q + 1 = p at *
        go_wp2_with fail
        refine hS.mono ?_
        rintro e w2 ⟨rfl, rfl⟩
        clear hS
        go_wp2_with (at_builtin; refine wpList_append_lies _ rfl _ _ 29 rfl w.heap.size 3 i0 _ 1 8 Try.underlying29 hi0 hz0 hz1 hz2 rfl (by omega) _ _ _ rfl (ho.alloc _) ⟨w2.heap.size, 0, none⟩ 1 1 [.int .i64 (p : Int)] rfl rfl (new1_cells w2 _ _) (by simp [Value.oneCell']) (by omega) (by unfold maxLen; omega) (by omega) (by have := hkp.out.size; simp; omega) (w2.heap.size + 1) (by simp) ?_; intro gg c' w4 ho4 hg hat hgl)
        have hk5 : Kept Nought w w4 := (hkp.out.alloc _).grown hg (fun b hb hlt => by have := (ho.lt b hb).1; omega)
        have HO : Hid (w4.ownsRow w.heap.size 3 1 (.slice (some ⟨gg, 0, none⟩) (L.length + 1) c') (primesTo p).length ((primesTo p).map fun z => .int .i64 (z : Nat))) := by
          unfold Hid
          rw [HPS.out, List.map_append, List.length_append]
          exact ho4
        clear ho4 hg hat hgl ho
        go_roundw
        case rel => exact ⟨p + 1, by omega, .inl (by omega), by omega, by go_num, by rw [Nat.add_sub_cancel]; exact HO.out, hk5⟩
        case measure => simp [intOf]; omega
      · rw [if_neg hP, List.append_nil] at hps
        have hS := r16small (q + 1) (by omega) false (by simp [hP]) wr
        have HO : Hid (wr.ownsRow w.heap.size 3 1 u3 (primesTo (q + 1)).length ((primesTo (q + 1)).map fun z => .int .i64 (z : Nat))) := by
          unfold Hid
          rw [hps]
          exact ho
        clear ho hps hP
        generalize hpp : q + 1 = p at *
        go_wp2_with fail
        refine hS.mono ?_
        rintro e w2 ⟨rfl, rfl⟩
        clear hS
        go_wp2_with fail
        go_roundw
        case rel => exact ⟨p + 1, by omega, .inl (by omega), by omega, by go_num, by rw [Nat.add_sub_cancel]; exact HO.out, hkp⟩
        case measure => simp [intOf]; omega
    · have hg : ¬ ((p : Int) ≤ n ∧ (p : Int) ≤ 10000) := fun h => hin ((HU.out p hp2).1 h)
      have HE : Hid (primesTo (p - 1) = primesTo (upTo n)) := by
        unfold Hid
        rcases hpu with h | h
        · rw [show p - 1 = upTo n by omega]
        · subst h
          rw [primesTo_low (show 2 - 1 ≤ 1 by omega), primesTo_low (show upTo n ≤ 1 by omega)]
      have HR : Hid (Row .i64 wr u3 (primesTo (upTo n))) := by
        unfold Hid
        rw [← HE.out]
        exact Row.of_own ho
      have HL := toHid ho
      clear ho
      by_cases g1 : (p : Int) ≤ n
      · have g2 : ¬ (p : Int) ≤ 10000 := fun h => hg ⟨g1, h⟩
        clear hg
        go_wp2_with fail
        go_ret
        exact ⟨_, rfl, HR.out, fun b hb => (HL.out.lt b hb).1, hkp.out⟩
      · clear hg
        go_wp2_with fail
        go_ret
        exact ⟨_, rfl, HR.out, fun b hb => (HL.out.lt b hb).1, hkp.out⟩

/-- R is the least prime up to b that divides X; 0: none does. -/
def IsFac (X b R : Nat) : Prop := (R = 0 ∧ ∀ p, PrimeN p → p ≤ b → X % p ≠ 0) ∨ (PrimeN R ∧ R ≤ b ∧ X % R = 0 ∧ ∀ p, PrimeN p → p < R → X % p ≠ 0)

theorem IsFac.uniq {X b R S : Nat} (h : IsFac X b R) (g : IsFac X b S) : R = S := by
  rcases h with ⟨rfl, h⟩ | ⟨h1, h2, h3, h4⟩
  · rcases g with ⟨rfl, _⟩ | ⟨g1, g2, g3, _⟩
    · rfl
    · exact absurd g3 (h S g1 g2)
  · rcases g with ⟨rfl, g⟩ | ⟨g1, g2, g3, g4⟩
    · exact absurd h3 (g R h1 h2)
    · rcases Nat.lt_trichotomy R S with h | h | h
      · exact absurd h3 (g4 R h1 h)
      · exact h
      · exact absurd g3 (h4 S g1 h)

theorem IsFac.le {X b R : Nat} (h : IsFac X b R) : R ≤ b := by
  rcases h with ⟨rfl, _⟩ | ⟨_, h2, _⟩
  · exact Nat.zero_le _
  · exact h2

theorem fac_none {X b p : Nat} (h : ∀ q, PrimeN q → q < p → X % q ≠ 0) (hp : b < p) : IsFac X b 0 := .inl ⟨rfl, fun q hq hb => h q hq (by omega)⟩

theorem cmpN_nn {a b : Nat} (h : b ≤ a) : ¬ cmpN a b < 0 := by
  unfold cmpN
  rw [if_neg (by omega)]
  split <;> omega

theorem cmpNne {a b : Nat} (h : ¬ a = b) : ¬ cmpN a b = 0 := by
  unfold cmpN
  rw [if_neg h]
  split <;> omega

/-- Passes, as a number tells it. -/
def passN (X : Nat) : Prop := 2 ≤ X ∧ ∃ F, IsFac X 1000 F ∧ (F = 0 ∨ X = F)

end Go.Proofs.Ytgcbbadakfdcgaa
