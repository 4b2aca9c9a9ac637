/- Numbers of a sieve: which places are struck out; no program in it. -/
import Derived.Test.YtcjaafmlflonhaaGreatDoorPrm1
namespace Go.Proofs.YtcjaafmlflonhaaGreatDoor
open Go.RowKit

/-- Place j is struck out once the primes below p had their multiples struck out. -/
def Struck (m p j : Nat) : Prop := j ≤ m ∧ ∃ q, PrimeN q ∧ q < p ∧ q * q ≤ j ∧ j % q = 0

/-- The places, as they lie in the array. -/
def StkL (m p : Nat) (zs : List Nat) : Prop := zs.length = 10001 ∧ ∀ j, zs.getD j 0 = 1 ↔ Struck m p j

/-- The places while the multiples of p up to t are struck out. -/
def StkM (m p t : Nat) (zs : List Nat) : Prop := zs.length = 10001 ∧ ∀ j, zs.getD j 0 = 1 ↔ (Struck m p j ∨ (j ≤ m ∧ p * p ≤ j ∧ j < t ∧ j % p = 0))

theorem stk_zero (m : Nat) : StkL m 2 (List.replicate 10001 0) := by
  refine ⟨List.length_replicate, fun j => ⟨fun h => ?_, fun h => ?_⟩⟩
  · rw [List.getD_eq_getElem?_getD, List.getElem?_replicate] at h
    split at h
    · cases h
    · cases h
  · obtain ⟨_, q, hq, h2, _⟩ := h
    exact absurd hq.1 (by omega)

/-- The least divisor above 1. -/
theorem least_div {n : Nat} (hn : 2 ≤ n) : ∃ d, 2 ≤ d ∧ d ≤ n ∧ n % d = 0 ∧ ∀ e, 2 ≤ e → e < d → n % e ≠ 0 := by
  have key : ∀ k, (∀ e, 2 ≤ e → e < n + 1 - k → n % e ≠ 0) ∨ ∃ d, 2 ≤ d ∧ d ≤ n ∧ n % d = 0 ∧ ∀ e, 2 ≤ e → e < d → n % e ≠ 0 := by
    intro k
    have : ∀ b, (∀ e, 2 ≤ e → e < b → n % e ≠ 0) ∨ ∃ d, 2 ≤ d ∧ d < b ∧ n % d = 0 ∧ ∀ e, 2 ≤ e → e < d → n % e ≠ 0 := by
      intro b
      induction b with
      | zero => exact .inl (fun e _ h => by omega)
      | succ b ih =>
        rcases ih with h | ⟨d, h1, h2, h3, h4⟩
        · by_cases hb : 2 ≤ b ∧ n % b = 0
          · exact .inr ⟨b, hb.1, by omega, hb.2, h⟩
          · refine .inl (fun e h1 h2 => ?_)
            by_cases eb : e = b
            · subst eb
              exact fun h3 => hb ⟨h1, h3⟩
            · exact h e h1 (by omega)
        · exact .inr ⟨d, h1, by omega, h3, h4⟩
    rcases this (n + 1) with h | ⟨d, h1, h2, h3, h4⟩
    · exact absurd (Nat.mod_self n) (h n hn (by omega))
    · exact .inr ⟨d, h1, by omega, h3, h4⟩
  rcases key 0 with h | h
  · exact absurd (Nat.mod_self n) (h n hn (by omega))
  · exact h

theorem least_prime {n d : Nat} (hd : 2 ≤ d) (h : n % d = 0) (hl : ∀ e, 2 ≤ e → e < d → n % e ≠ 0) : PrimeN d := by
  refine ⟨hd, fun e h1 h2 h3 => hl e h1 h2 ?_⟩
  exact Nat.mod_eq_zero_of_dvd (Nat.dvd_trans (Nat.dvd_of_mod_eq_zero h3) (Nat.dvd_of_mod_eq_zero h))

/-- What isn't struck out when its turn comes is a prime. -/
theorem stk_prime {m p : Nat} (h2 : 2 ≤ p) (hm : p ≤ m) : ¬ Struck m p p ↔ PrimeN p := by
  constructor
  · intro h
    obtain ⟨d, h3, h4, h5, h6⟩ := least_div h2
    by_cases hdp : d = p
    · subst hdp
      exact least_prime h3 h5 h6
    · exfalso
      refine h ⟨hm, d, least_prime h3 h5 h6, by omega, ?_, h5⟩
      obtain ⟨c, hc⟩ := Nat.dvd_of_mod_eq_zero h5
      have hc2 : d ≤ c := by
        rcases Nat.lt_or_ge c d with h7 | h7
        · exfalso
          have hc1 : 2 ≤ c := by
            rcases Nat.lt_or_ge c 2 with h8 | h8
            · have h01 : c = 0 ∨ c = 1 := by omega
              rcases h01 with rfl | rfl
              · omega
              · omega
            · exact h8
          refine h6 c hc1 h7 ?_
          rw [hc, Nat.mul_comm]
          exact Nat.mul_mod_right c d
        · exact h7
      rw [hc]
      exact Nat.mul_le_mul_left d hc2
  · rintro hp ⟨_, q, hq, h3, _, h5⟩
    exact hp.2 q hq.1 h3 h5

theorem StkL.skip {m p : Nat} {zs : List Nat} (h : StkL m p zs) (hp : ¬ PrimeN p) : StkL m (p + 1) zs := by
  refine ⟨h.1, fun j => (h.2 j).trans ⟨?_, ?_⟩⟩
  · rintro ⟨h1, q, h2, h3, h4, h5⟩
    exact ⟨h1, q, h2, by omega, h4, h5⟩
  · rintro ⟨h1, q, h2, h3, h4, h5⟩
    refine ⟨h1, q, h2, ?_, h4, h5⟩
    have : q ≠ p := fun e => hp (e ▸ h2)
    omega

theorem StkL.into {m p : Nat} {zs : List Nat} (h : StkL m p zs) : StkM m p (p * p) zs :=
  ⟨h.1, fun j => (h.2 j).trans ⟨.inl, fun e => by
    rcases e with e | ⟨_, h2, h3, _⟩
    · exact e
    · omega⟩⟩

theorem StkM.set {m p t : Nat} {zs : List Nat} (h : StkM m p t zs) (hm : m ≤ 10000) (ht : t ≤ m) (hp : p * p ≤ t) (hd : t % p = 0) (h0 : 0 < p) : StkM m p (t + p) (zs.set t 1) := by
  refine ⟨by rw [List.length_set]; exact h.1, fun j => ?_⟩
  by_cases hj : j = t
  · subst hj
    rw [List.getD_eq_getElem?_getD, List.getElem?_set_self (by rw [h.1]; omega)]
    exact ⟨fun _ => .inr ⟨ht, hp, by omega, hd⟩, fun _ => rfl⟩
  · have e1 : (zs.set t 1).getD j 0 = zs.getD j 0 := by
      rw [List.getD_eq_getElem?_getD, List.getD_eq_getElem?_getD, List.getElem?_set_ne (fun e => hj e.symm)]
    rw [e1, h.2 j]
    constructor
    · rintro (e | ⟨h1, h2, h3, h4⟩)
      · exact .inl e
      · exact .inr ⟨h1, h2, by omega, h4⟩
    · rintro (e | ⟨h1, h2, h3, h4⟩)
      · exact .inl e
      · refine .inr ⟨h1, h2, ?_, h4⟩
        rcases Nat.lt_or_ge j t with h5 | h5
        · exact h5
        · exfalso
          obtain ⟨r, rfl⟩ : ∃ r, j = t + r := ⟨j - t, by omega⟩
          rw [Nat.add_mod, hd, Nat.zero_add, Nat.mod_mod, Nat.mod_eq_of_lt (by omega)] at h4
          omega

theorem StkM.out {m p t : Nat} {zs : List Nat} (h : StkM m p t zs) (ht : m < t) (hp : PrimeN p) : StkL m (p + 1) zs := by
  refine ⟨h.1, fun j => (h.2 j).trans ⟨?_, ?_⟩⟩
  · rintro (⟨h1, q, h2, h3, h4, h5⟩ | ⟨h1, h2, _, h4⟩)
    · exact ⟨h1, q, h2, by omega, h4, h5⟩
    · exact ⟨h1, p, hp, by omega, h2, h4⟩
  · rintro ⟨h1, q, h2, h3, h4, h5⟩
    by_cases e : q = p
    · subst e
      exact .inr ⟨h1, h4, by omega, h5⟩
    · exact .inl ⟨h1, q, h2, by omega, h4, h5⟩

theorem primesTo_step {p : Nat} (h : 1 ≤ p) (hp : PrimeN p) : primesTo (p - 1) ++ [p] = primesTo p := by
  obtain ⟨q, rfl⟩ : ∃ q, p = q + 1 := ⟨p - 1, by omega⟩
  rw [Nat.add_sub_cancel, primesTo_succ, if_pos hp]

theorem primesTo_skip {p : Nat} (h : 1 ≤ p) (hp : ¬ PrimeN p) : primesTo (p - 1) = primesTo p := by
  obtain ⟨q, rfl⟩ : ∃ q, p = q + 1 := ⟨p - 1, by omega⟩
  rw [Nat.add_sub_cancel, primesTo_succ, if_neg hp, List.append_nil]

/-- Noughts, as many as they should be. -/
def zerB : List Value → Nat → Bool
  | [], n => n == 0
  | v :: l, n => match v with
    | .int .u8 0 => (match n with | 0 => false | m + 1 => zerB l m)
    | _ => false

theorem zerB_spec : ∀ (l : List Value) (n : Nat), zerB l n = true → l = List.replicate n (.int .u8 0)
  | [], n, h => by
    have : n = 0 := by simpa [zerB] using h
    subst this; rfl
  | v :: l, n, h => by
    unfold zerB at h
    split at h
    · cases n with
      | zero => cases h
      | succ m => rw [List.replicate_succ, ← zerB_spec l m h]
    · cases h

theorem Tryz.zeros16 : (match (Tryz.prog.info? 157).bind (fun i => i.zero) with | some (.agg cs) => zerB cs.toList 10001 | _ => false) = true := by kernel_rfl

/-- What a new array of places holds. -/
theorem zero16 : ∃ cs : Array Value, cs = ((List.replicate 10001 0).map fun z : Nat => Value.int .u8 (z : Int)).toArray ∧ ∀ w, Sem.run Tryz.prog (zeroValue 157) w = .ok (.agg cs) w := by
  have h := Tryz.zeros16
  cases hi : Tryz.prog.info? 157 with
  | none => rw [hi] at h; cases h
  | some i =>
    rw [hi] at h
    simp only [Option.bind_some] at h
    split at h
    · rename_i cs hz
      refine ⟨cs, ?_, fun w => ?_⟩
      · have e := zerB_spec _ _ h
        rw [List.map_replicate]
        show cs = (List.replicate 10001 (Value.int .u8 0)).toArray
        rw [← e]
      · simp only [zeroValue, typeInfo]
        simp [go_sem, hi, hz]
    · cases h

end Go.Proofs.YtcjaafmlflonhaaGreatDoor
