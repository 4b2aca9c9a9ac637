/- Numbers: Fermat, Pocklington, powers that undo one another. -/
import Derived.Test.YtiljkgoafknefabGreatPrm1
namespace Go.Proofs.YtiljkgoafknefabGreat
open Go.RowKit

theorem PrimeN.pos {p : Nat} (h : PrimeN p) : 0 < p := by have := h.1; omega

theorem PrimeN.dvd {p d : Nat} (h : PrimeN p) (hd : d ∣ p) : d = 1 ∨ d = p := by
  have h0 := h.pos
  have hle := Nat.le_of_dvd h0 hd
  have hm := Nat.mod_eq_zero_of_dvd hd
  rcases Nat.lt_or_ge d 2 with h1 | h1
  · have h01 : d = 0 ∨ d = 1 := by omega
    rcases h01 with rfl | rfl
    · simp at hm
      omega
    · exact .inl rfl
  · rcases Nat.lt_or_ge d p with h2 | h2
    · exact absurd hm (h.2 d h1 h2)
    · exact .inr (by omega)

theorem PrimeN.coprime {p a : Nat} (h : PrimeN p) (ha : a % p ≠ 0) : Nat.Coprime p a := by
  have hg := Nat.gcd_dvd_left p a
  rcases h.dvd hg with h1 | h1
  · exact h1
  · have := Nat.gcd_dvd_right p a
    rw [h1] at this
    exact absurd (Nat.mod_eq_zero_of_dvd this) ha

/-- A member of one list that has no doubles, all of whose members are in a second one, no longer: they are the same up to order. -/
theorem perm_of_sub : ∀ {l m : List Nat}, l.Nodup → (∀ x ∈ l, x ∈ m) → m.length ≤ l.length → l.Perm m
  | [], m, _, _, h => by
    have : m = [] := List.length_eq_zero_iff.1 (by simpa using h)
    rw [this]
  | a :: l, m, hn, hs, h => by
    have ha := hs a (by simp)
    have hp := List.perm_cons_erase ha
    have hl := hp.length_eq
    rw [List.nodup_cons] at hn
    refine List.Perm.trans (List.Perm.cons a (perm_of_sub hn.2 (fun x hx => ?_) ?_)) hp.symm
    · have hxa : x ≠ a := fun e => by subst e; exact hn.1 hx
      exact (List.mem_erase_of_ne hxa).2 (hs x (by simp [hx]))
    · simp at hl h
      omega

def prodL : List Nat → Nat
  | [] => 1
  | a :: l => a * prodL l

theorem prodL_perm {l m : List Nat} (h : l.Perm m) : prodL l = prodL m := by
  induction h with
  | nil => rfl
  | cons a _ ih => simp [prodL, ih]
  | swap a b l => simp only [prodL]; rw [← Nat.mul_assoc, ← Nat.mul_assoc, Nat.mul_comm a b]
  | trans _ _ h1 h2 => exact h1.trans h2

theorem prodL_map (a p : Nat) : ∀ l : List Nat, prodL (l.map fun x => a * x % p) % p = a ^ l.length * prodL l % p
  | [] => by simp [prodL]
  | x :: l => by
    simp only [List.map_cons, prodL, List.length_cons]
    rw [Nat.mul_mod, prodL_map a p l, Nat.mod_mod, ← Nat.mul_mod, Nat.pow_succ]
    congr 1
    rw [Nat.mul_mul_mul_comm, Nat.mul_comm (a ^ l.length) a]

theorem prodL_coprime {p : Nat} : ∀ {l : List Nat}, (∀ x ∈ l, Nat.Coprime p x) → Nat.Coprime p (prodL l)
  | [], _ => Nat.coprime_one_right p
  | x :: l, h => Nat.Coprime.mul_right (h x (by simp)) (prodL_coprime fun y hy => h y (by simp [hy]))

theorem cancel_left {p a b c : Nat} (hc : Nat.Coprime p c) (h : c * a % p = c * b % p) : a % p = b % p := by
  rcases Nat.le_total a b with hab | hab
  · have h1 : (c * b - c * a) % p = 0 := Nat.sub_mod_eq_zero_of_mod_eq h.symm
    rw [← Nat.mul_sub] at h1
    have h2 := hc.dvd_of_dvd_mul_left (Nat.dvd_of_mod_eq_zero h1)
    obtain ⟨k, hk⟩ := h2
    rw [show b = a + p * k by omega]
    simp
  · have h1 : (c * a - c * b) % p = 0 := Nat.sub_mod_eq_zero_of_mod_eq h
    rw [← Nat.mul_sub] at h1
    have h2 := hc.dvd_of_dvd_mul_left (Nat.dvd_of_mod_eq_zero h1)
    obtain ⟨k, hk⟩ := h2
    rw [show a = b + p * k by omega]
    simp

/-- Fermat. -/
theorem fermat {p a : Nat} (h : PrimeN p) (ha : a % p ≠ 0) : a ^ (p - 1) % p = 1 := by
  have hp2 := h.1
  have hca := h.coprime ha
  have hmem : ∀ x ∈ List.range' 1 (p - 1), 1 ≤ x ∧ x < p := fun x hx => by
    rw [List.mem_range'_1] at hx
    omega
  have hperm : ((List.range' 1 (p - 1)).map fun x => a * x % p).Perm (List.range' 1 (p - 1)) := by
    refine perm_of_sub ?_ ?_ (by simp)
    · unfold List.Nodup
      rw [List.pairwise_map]
      have hnd : List.Pairwise (fun a b => a ≠ b) (List.range' 1 (p - 1)) := List.nodup_range'
      refine List.Pairwise.imp_of_mem ?_ hnd
      intro x y hx hy hxy e
      have h1 := hmem x hx
      have h2 := hmem y hy
      have := cancel_left hca e
      rw [Nat.mod_eq_of_lt h1.2, Nat.mod_eq_of_lt h2.2] at this
      exact hxy this
    · intro y hy
      obtain ⟨x, hx, rfl⟩ := List.mem_map.1 hy
      have h1 := hmem x hx
      rw [List.mem_range'_1]
      have hlt : a * x % p < p := Nat.mod_lt _ (by omega)
      have hne : a * x % p ≠ 0 := fun e => by
        have := hca.dvd_of_dvd_mul_left (Nat.dvd_of_mod_eq_zero e)
        have := Nat.le_of_dvd (by omega) this
        omega
      omega
  have h1 := prodL_map a p (List.range' 1 (p - 1))
  rw [prodL_perm hperm, List.length_range'] at h1
  have hcp : Nat.Coprime p (prodL (List.range' 1 (p - 1))) := prodL_coprime fun x hx => by
    have := hmem x hx
    exact h.coprime (by rw [Nat.mod_eq_of_lt this.2]; omega)
  have h2 : prodL (List.range' 1 (p - 1)) * 1 % p = prodL (List.range' 1 (p - 1)) * a ^ (p - 1) % p := by
    rw [Nat.mul_one, Nat.mul_comm _ (a ^ (p - 1))]
    exact h1
  have h3 := cancel_left hcp h2
  rw [← h3, Nat.mod_eq_of_lt (by omega)]

theorem inv_exists {a m : Nat} (hm : 1 < m) (h : Nat.Coprime m a) : ∃ u, a * u % m = 1 := by
  have hperm : ((List.range m).map fun x => a * x % m).Perm (List.range m) := by
    refine perm_of_sub ?_ ?_ (by simp)
    · unfold List.Nodup
      rw [List.pairwise_map]
      have hnd : List.Pairwise (fun a b => a ≠ b) (List.range m) := List.nodup_range
      refine List.Pairwise.imp_of_mem ?_ hnd
      intro x y hx hy hxy e
      have := cancel_left h e
      rw [Nat.mod_eq_of_lt (List.mem_range.1 hx), Nat.mod_eq_of_lt (List.mem_range.1 hy)] at this
      exact hxy this
    · intro y hy
      obtain ⟨x, _, rfl⟩ := List.mem_map.1 hy
      exact List.mem_range.2 (Nat.mod_lt _ (by omega))
  have h1 : 1 ∈ List.range m := List.mem_range.2 hm
  obtain ⟨u, _, hu⟩ := List.mem_map.1 (hperm.mem_iff.2 h1)
  exact ⟨u, hu⟩

theorem pow_one_mod {x p k : Nat} (hp : 1 < p) (h : x ^ k % p = 1) (u : Nat) : x ^ (k * u) % p = 1 := by
  rw [Nat.pow_mul, Nat.pow_mod, h, Nat.one_pow, Nat.mod_eq_of_lt hp]

theorem prime_div : ∀ (n : Nat), 2 ≤ n → ∃ p, PrimeN p ∧ p ∣ n := by
  intro n
  induction n using Nat.strongRecOn with
  | ind n ih =>
    intro hn
    by_cases h : ∀ d, 2 ≤ d → d < n → n % d ≠ 0
    · exact ⟨n, ⟨hn, h⟩, Nat.dvd_refl n⟩
    · have : ∃ d, 2 ≤ d ∧ d < n ∧ n % d = 0 := Classical.byContradiction fun hc => h fun d h1 h2 h3 => hc ⟨d, h1, h2, h3⟩
      obtain ⟨d, h1, h2, h3⟩ := this
      obtain ⟨p, hp, hpd⟩ := ih d h2 h1
      exact ⟨p, hp, Nat.dvd_trans hpd (Nat.dvd_of_mod_eq_zero h3)⟩

/-- A power that is 1 only at multiples of q: q divides p - 1. -/
theorem order_dvd {p q x : Nat} (hp : PrimeN p) (hq : PrimeN q) (hx : x ^ q % p = 1) (hne : x % p ≠ 1) : q ∣ p - 1 := by
  have hp2 := hp.1
  have hq2 := hq.1
  refine Classical.byContradiction fun hnd => ?_
  have hx0 : x % p ≠ 0 := fun e => by
    rw [Nat.pow_mod, e, Nat.zero_pow (by omega)] at hx
    simp at hx
  have hf := fermat hp hx0
  by_cases h1 : p - 1 = 1
  · rw [h1, Nat.pow_one] at hf
    exact hne hf
  · have hc := hq.coprime (a := p - 1) (fun e => hnd (Nat.dvd_of_mod_eq_zero e))
    obtain ⟨u, hu⟩ := inv_exists (a := q) (m := p - 1) (by omega) hc.symm
    have he : q * u = (p - 1) * (q * u / (p - 1)) + 1 := by
      have := Nat.div_add_mod (q * u) (p - 1)
      omega
    have h2 := pow_one_mod (by omega) hx u
    rw [he, Nat.pow_add, Nat.pow_one, Nat.mul_mod, pow_one_mod (by omega) hf, Nat.one_mul, Nat.mod_mod] at h2
    exact hne h2

/-- Pocklington, as it is used here. -/
theorem pocklington {n q x : Nat} (hq : PrimeN q) (hn : 1 < n) (hqq : n < q * q) (hx : x ^ q % n = 1) (hg : Nat.gcd (x - 1) n = 1) : PrimeN n := by
  refine ⟨hn, fun d hd hdn e => ?_⟩
  have key : ∀ p, PrimeN p → p ∣ n → q < p := fun p hp hpn => by
    have hp2 := hp.1
    have h1 : x ^ q % p = 1 := by
      rw [← Nat.mod_mod_of_dvd _ hpn, hx, Nat.mod_eq_of_lt (by omega)]
    have h2 : x % p ≠ 1 := fun e => by
      have h3 : p ∣ x - 1 := Nat.dvd_of_mod_eq_zero (Nat.sub_mod_eq_zero_of_mod_eq (by rw [e, Nat.mod_eq_of_lt (by omega)]))
      have h4 := Nat.dvd_gcd h3 hpn
      rw [hg] at h4
      have := Nat.le_of_dvd (by omega) h4
      omega
    obtain ⟨k, hk⟩ := order_dvd hp hq h1 h2
    have hk0 : 0 < k := by
      rcases Nat.eq_zero_or_pos k with e | e
      · subst e
        omega
      · exact e
    have := Nat.mul_le_mul_left q hk0
    omega
  obtain ⟨c, hc⟩ := Nat.dvd_of_mod_eq_zero e
  have hc2 : 2 ≤ c := by
    rcases Nat.lt_or_ge c 2 with h1 | h1
    · have h01 : c = 0 ∨ c = 1 := by omega
      rcases h01 with rfl | rfl <;> omega
    · exact h1
  obtain ⟨p, hp, hpd⟩ := prime_div d hd
  obtain ⟨r, hr, hrc⟩ := prime_div c hc2
  have h1 := key p hp (Nat.dvd_trans hpd ⟨c, hc⟩)
  have h2 := key r hr (Nat.dvd_trans hrc ⟨d, by rw [hc, Nat.mul_comm]⟩)
  have h3 := Nat.le_of_dvd (by omega) hpd
  have h4 := Nat.le_of_dvd (by omega) hrc
  have := Nat.mul_le_mul (show q ≤ d by omega) (show q ≤ c by omega)
  omega

/-- A power whose exponent is 1 modulo p - 1. -/
theorem pow_back {p x t : Nat} (hp : PrimeN p) (ht : ∃ v, t = (p - 1) * v + 1) : x ^ t % p = x % p := by
  have hp2 := hp.1
  obtain ⟨v, rfl⟩ := ht
  by_cases h0 : x % p = 0
  · rw [Nat.pow_mod, h0, Nat.zero_pow (by omega)]
    simp
  · rw [Nat.pow_add, Nat.pow_one, Nat.mul_mod, pow_one_mod (by omega) (fermat hp h0), Nat.one_mul, Nat.mod_mod]

/-- Two numbers that are alike modulo p and modulo q, which have no divisor together. -/
theorem crt_same {p q a b : Nat} (hc : Nat.Coprime p q) (h1 : a % p = b % p) (h2 : a % q = b % q) : a % (p * q) = b % (p * q) := by
  rcases Nat.le_total a b with hab | hab
  · have e1 := Nat.dvd_of_mod_eq_zero (Nat.sub_mod_eq_zero_of_mod_eq h1.symm)
    have e2 := Nat.dvd_of_mod_eq_zero (Nat.sub_mod_eq_zero_of_mod_eq h2.symm)
    obtain ⟨k, hk⟩ := Nat.Coprime.mul_dvd_of_dvd_of_dvd hc e1 e2
    rw [show b = a + p * q * k by omega]
    simp
  · have e1 := Nat.dvd_of_mod_eq_zero (Nat.sub_mod_eq_zero_of_mod_eq h1)
    have e2 := Nat.dvd_of_mod_eq_zero (Nat.sub_mod_eq_zero_of_mod_eq h2)
    obtain ⟨k, hk⟩ := Nat.Coprime.mul_dvd_of_dvd_of_dvd hc e1 e2
    rw [show a = b + p * q * k by omega]
    simp

/-- The private power undoes the public one. -/
theorem rsa_back {p q e d x : Nat} (hp : PrimeN p) (hq : PrimeN q) (hc : Nat.Coprime p q) (h1 : ∃ v, e * d = (p - 1) * v + 1) (h2 : ∃ v, e * d = (q - 1) * v + 1) : x ^ (e * d) % (p * q) = x % (p * q) :=
  crt_same hc (pow_back hp h1) (pow_back hq h2)

end Go.Proofs.YtiljkgoafknefabGreat
