/- Melted of: PrH BitA PrI PrJ. -/
import Derived.Test.YtiljkgoafknefaaGreatLim2
import Derived.Test.YtiljkgoafknefaaGreatLim3
import Derived.Test.YtiljkgoafknefaaGreatPro1
import Derived.Test.YtiljkgoafknefaaGreatBase1
import Derived.Test.YtiljkgoafknefaaGreatPro2
import Derived.BigRegion
import Derived.Deep.OwnRows
import Derived.StillTailTactics

/- Package product: bringDown, divideByBits. -/
namespace Go.Proofs.YtiljkgoafknefaaGreat
open Go.RowKit

/-- How often (0 or 1) the divisor m goes into twice a rest and a bit, as it is reckoned in n words. -/
def takenN (V M n : Nat) : Nat := if 18446744073709551616 ^ n ≤ V ∨ M ≤ V % 18446744073709551616 ^ n then 1 else 0

/-- What is left of it. -/
def leftN (V M n : Nat) : Nat := selN (takenN V M n) (subN (V % 18446744073709551616 ^ n) M n) (V % 18446744073709551616 ^ n)

theorem taken_le (V M n : Nat) : takenN V M n ≤ 1 := by unfold takenN; split <;> omega

theorem taken_bits (V M n : Nat) (hV : V < 2 * 18446744073709551616 ^ n) : bits .or .u64 ((V / 18446744073709551616 ^ n : Nat) : Int) (bits .xor .u64 ((oneN (decide (V % 18446744073709551616 ^ n < M)) : Nat) : Int) 1) = (takenN V M n : Int) := by
  have hp : 0 < 18446744073709551616 ^ n := Nat.pow_pos (by omega)
  have hq : V / 18446744073709551616 ^ n < 2 := by rw [Nat.div_lt_iff_lt_mul hp]; exact hV
  unfold takenN oneN
  generalize 18446744073709551616 ^ n = P at *
  have hc : V / P = 0 ∨ V / P = 1 := by
    generalize V / P = d at *
    omega
  have h1 : P ≤ V ↔ V / P = 1 := by
    constructor
    · intro h
      exact Nat.le_antisymm (Nat.le_of_lt_succ hq) (Nat.div_pos h hp)
    · intro h
      rcases Nat.lt_or_ge V P with h2 | h2
      · rw [Nat.div_eq_of_lt h2] at h; omega
      · exact h2
  by_cases h2 : V % P < M
  · rcases hc with h3 | h3
    · rw [h3, decide_eq_true h2, if_pos rfl, if_neg (by rw [h1, h3]; omega)]
      decide
    · rw [h3, decide_eq_true h2, if_pos rfl, if_pos (by rw [h1, h3]; exact .inl rfl)]
      decide
  · rcases hc with h3 | h3
    · rw [h3, decide_eq_false h2, if_neg (by decide), if_pos (.inr (by omega))]
      decide
    · rw [h3, decide_eq_false h2, if_neg (by decide), if_pos (.inr (by omega))]
      decide

theorem subN_lt {X Y n : Nat} (hX : X < 18446744073709551616 ^ n) : subN X Y n < 18446744073709551616 ^ n := by
  unfold subN
  rw [← B64]
  split <;> omega

end Go.Proofs.YtiljkgoafknefaaGreat

/- Division bit by bit: plain mathematics. -/
namespace Go.Proofs.YtiljkgoafknefaaGreat
open Go.RowKit

/-- One bit of a quotient. -/
theorem bring_ok {R M n bit : Nat} (hM : 0 < M) (hR : R < M) (hn : M < 18446744073709551616 ^ n) (hb : bit ≤ 1) : takenN (2 * R + bit) M n = (2 * R + bit) / M ∧ leftN (2 * R + bit) M n = (2 * R + bit) % M := by
  have hV : 2 * R + bit < M * 2 := by omega
  generalize 2 * R + bit = V at *
  have hd : V / M = if M ≤ V then 1 else 0 := by
    split
    · rename_i h
      have h1 : V / M < 2 := (Nat.div_lt_iff_lt_mul hM).2 (by omega)
      have h2 : 0 < V / M := Nat.div_pos h hM
      exact Nat.le_antisymm (Nat.le_of_lt_succ h1) h2
    · exact Nat.div_eq_of_lt (by omega)
  have hm : V % M = if M ≤ V then V - M else V := by
    split
    · rename_i h
      rw [Nat.mod_eq_sub_mod h, Nat.mod_eq_of_lt (by omega)]
    · exact Nat.mod_eq_of_lt (by omega)
  have ht : takenN V M n = if M ≤ V then 1 else 0 := by
    unfold takenN
    generalize 18446744073709551616 ^ n = P at *
    by_cases h : P ≤ V
    · rw [if_pos (.inl h), if_pos (by omega)]
    · rw [Nat.mod_eq_of_lt (by omega : V < P)]
      by_cases h2 : M ≤ V
      · rw [if_pos (.inr h2), if_pos h2]
      · rw [if_neg (by omega), if_neg h2]
  refine ⟨by rw [ht, hd], ?_⟩
  unfold leftN
  rw [ht, hm]
  unfold selN subN
  rw [← B64]
  generalize 18446744073709551616 ^ n = P at *
  by_cases h2 : M ≤ V
  · rw [if_pos h2, if_pos h2, if_pos (by decide)]
    by_cases h : P ≤ V
    · have e : V % P = V - P := by rw [Nat.mod_eq_sub_mod h, Nat.mod_eq_of_lt (by omega)]
      rw [e, if_pos (by omega)]
      omega
    · rw [Nat.mod_eq_of_lt (by omega : V < P), if_neg (by omega)]
  · rw [if_neg h2, if_neg h2, if_neg (by decide), Nat.mod_eq_of_lt (by omega)]

theorem val_setB {B : Nat} : ∀ {zs : List Nat} {i : Nat} (z : Nat), i < zs.length → val B (zs.set i z) + B ^ i * zs.getD i 0 = val B zs + B ^ i * z
  | [], _, _, h => absurd h (by simp)
  | x :: r, 0, z, _ => by simp [val]; omega
  | x :: r, i + 1, z, h => by
    have ih := val_setB (B := B) (zs := r) (i := i) z (by simpa using h)
    simp only [List.set_cons_succ, val, List.getD_cons_succ]
    have e : B * (val B (r.set i z) + B ^ i * r.getD i 0) = B * (val B r + B ^ i * z) := by rw [ih]
    rw [Nat.mul_add, Nat.mul_add, ← Nat.mul_assoc, ← Nat.mul_assoc, ← Nat.pow_succ'] at e
    simp only [Nat.succ_eq_add_one] at e
    omega

theorem digs_setB {B : Nat} {zs : List Nat} (h : Digs B zs) {i z : Nat} (hz : z < B) : Digs B (zs.set i z) := fun d hd => by
  rcases List.mem_or_eq_of_mem_set hd with h1 | h1
  · exact h d h1
  · omega

/-- The quotient with one bit more. -/
theorem quot_bit {qs : List Nat} {X M p T : Nat} (hM : 0 < M) (hd : Digs 18446744073709551616 qs) (hi : p / 64 < qs.length) (hv : val 18446744073709551616 qs = X / 2 ^ (p + 1) / M * 2 ^ (p + 1)) (hT : T = (2 * (X / 2 ^ (p + 1) % M) + X / 2 ^ p % 2) / M) (hT1 : T ≤ 1) :
    val 18446744073709551616 (qs.set (p / 64) (qs.getD (p / 64) 0 ||| T * 2 ^ (p % 64))) = X / 2 ^ p / M * 2 ^ p := by
  have hq : qs.getD (p / 64) 0 = 2 ^ (p % 64 + 1) * (X / 2 ^ (p + 1) / M % 2 ^ (63 - p % 64)) := by
    rw [← dig_val (by omega) hd, hv, dig, B64, Nat.mul_div_assoc _ (Nat.pow_dvd_pow 2 (by omega)), Nat.pow_div (by omega) (by omega), show p + 1 - 64 * (p / 64) = p % 64 + 1 by omega, Nat.mul_comm, show (18446744073709551616 : Nat) = 2 ^ (p % 64 + 1) * 2 ^ (63 - p % 64) by rw [← Nat.pow_add, show p % 64 + 1 + (63 - p % 64) = 64 by omega], Nat.mul_mod_mul_left]
  have hor : qs.getD (p / 64) 0 ||| T * 2 ^ (p % 64) = qs.getD (p / 64) 0 + T * 2 ^ (p % 64) := by
    rw [hq]
    have hlt : T * 2 ^ (p % 64) < 2 ^ (p % 64 + 1) := by
      rw [Nat.pow_succ]
      have : T * 2 ^ (p % 64) ≤ 1 * 2 ^ (p % 64) := Nat.mul_le_mul_right _ hT1
      have : 0 < 2 ^ (p % 64) := Nat.pow_pos (by omega)
      omega
    exact (Nat.two_pow_add_eq_or_of_lt hlt _).symm
  have hs := val_setB (B := 18446744073709551616) (zs := qs) (i := p / 64) (qs.getD (p / 64) 0 ||| T * 2 ^ (p % 64)) hi
  rw [hor] at hs ⊢
  rw [Nat.mul_add] at hs
  have e1 : 18446744073709551616 ^ (p / 64) * (T * 2 ^ (p % 64)) = T * 2 ^ p := by
    rw [B64, Nat.mul_left_comm, ← Nat.pow_add, show 64 * (p / 64) + p % 64 = p by omega]
  rw [e1, hv] at hs
  have e2 : X / 2 ^ p = 2 * (X / 2 ^ (p + 1)) + X / 2 ^ p % 2 := by
    rw [Nat.pow_succ, ← Nat.div_div_eq_div_mul]; omega
  have e3 : X / 2 ^ p / M = 2 * (X / 2 ^ (p + 1) / M) + T := by
    rw [e2, hT]
    have h1 := Nat.div_add_mod (X / 2 ^ (p + 1)) M
    generalize X / 2 ^ (p + 1) = Z at *
    generalize X / 2 ^ p % 2 = b at *
    have h2 : 2 * Z + b = M * (2 * (Z / M)) + (2 * (Z % M) + b) := by
      have : M * (2 * (Z / M)) = 2 * (M * (Z / M)) := Nat.mul_left_comm ..
      omega
    rw [h2, Nat.mul_add_div hM]
  have e4 : X / 2 ^ p / M * 2 ^ p = X / 2 ^ (p + 1) / M * 2 ^ (p + 1) + T * 2 ^ p := by
    rw [e3]
    generalize X / 2 ^ (p + 1) / M = Z
    rw [Nat.add_mul, Nat.pow_succ, Nat.mul_comm 2 Z, Nat.mul_assoc, Nat.mul_comm 2 (2 ^ p)]
  rw [e4]
  omega

theorem rest_bit {X M p : Nat} : (2 * (X / 2 ^ (p + 1) % M) + X / 2 ^ p % 2) % M = X / 2 ^ p % M := by
  have e2 : X / 2 ^ p = 2 * (X / 2 ^ (p + 1)) + X / 2 ^ p % 2 := by
    rw [Nat.pow_succ, ← Nat.div_div_eq_div_mul]; omega
  generalize hb : X / 2 ^ p % 2 = b at *
  rw [e2, Nat.add_mod, Nat.mul_mod, Nat.mod_mod, ← Nat.mul_mod, ← Nat.add_mod]

end Go.Proofs.YtiljkgoafknefaaGreat

/- Package product: divideByBits. -/
namespace Go.Proofs.YtiljkgoafknefaaGreat
open Go.RowKit

theorem evs3 (k : Nat) (e : Ev) : List.replicate (3 * k) e ++ [e, e, e] = List.replicate (3 * (k + 1)) e := by
  rw [show [e, e, e] = List.replicate 3 e from rfl, List.replicate_append_replicate, Nat.mul_add]

theorem made_map (n : Nat) : madeCells #[Value.int .u64 0] n = ((List.replicate n 0).map fun z : Nat => Value.int .u64 (z : Int)).toArray := by
  have := zeros_map .u64 n
  rw [Nat.mul_one] at this
  rw [← this]
  rfl

/-- Two rows of noughts, made one behind the other. -/
theorem two_made (w : World) (A B : Nat) (CA CB : Array Value) (hA : CA = madeCells #[.int .u64 0] A) (hB : CB = madeCells #[.int .u64 0] B) (lA : A ≤ 1000000) (lB : B ≤ 1000000) :
    OwnN .u64 24 ((w.alloc (.cells CA 24)).alloc (.cells CB 24)).drew w.heap.size (.slice (some ⟨w.heap.size, 0, none⟩) A A) A (List.replicate A 0) ∧ OwnN .u64 24 ((w.alloc (.cells CA 24)).alloc (.cells CB 24)).drew w.heap.size (.slice (some ⟨w.heap.size + 1, 0, none⟩) B B) B (List.replicate B 0) ∧ Kept Nought w ((w.alloc (.cells CA 24)).alloc (.cells CB 24)).drew := by
  subst hA hB
  rw [made_map, made_map]
  refine ⟨own_of_block (heapAt_drew (heapAt_alloc (heap_alloc_new _ _))) (by simp) (by unfold maxLen; omega) (Nat.le_refl _), own_of_block (heapAt_drew ?_) (by simp) (by unfold maxLen; omega) (by omega), (((Kept.refl Nought w).alloc _).alloc _).drew⟩
  have := heap_alloc_new (w.alloc (.cells ((List.replicate A 0).map fun z : Nat => Value.int .u64 (z : Int)).toArray 24)) (.cells ((List.replicate B 0).map fun z : Nat => Value.int .u64 (z : Int)).toArray 24)
  simpa using this

theorem val_noughts (n : Nat) : val 18446744073709551616 (List.replicate n 0) = 0 := val_zeros _ (fun _ hd => (List.mem_replicate.1 hd).2)

theorem digs_noughts (n : Nat) : Digs 18446744073709551616 (List.replicate n 0) := fun _ hd => by rw [(List.mem_replicate.1 hd).2]; omega

theorem or_word {q T s : Nat} (hq : q < 18446744073709551616) (hT : T ≤ 1) (hs : s < 64) : bits .or .u64 (q : Int) (IntKind.u64.wrap ((T : Int) * 2 ^ s)) = ((q ||| T * 2 ^ s : Nat) : Int) ∧ q ||| T * 2 ^ s < 18446744073709551616 := by
  have h1 : T * 2 ^ s < 18446744073709551616 := by
    have h2 : T * 2 ^ s ≤ 1 * 2 ^ s := Nat.mul_le_mul_right _ hT
    have h3 : 2 ^ s < 2 ^ 64 := Nat.pow_lt_pow_right (by omega) hs
    omega
  refine ⟨?_, Nat.or_lt_two_pow (n := 64) hq h1⟩
  rw [show (T : Int) * 2 ^ s = ((T * 2 ^ s : Nat) : Int) by simp, IntKind.wrap_u64, show ((T * 2 ^ s : Nat) : Int) % 18446744073709551616 = ((T * 2 ^ s : Nat) : Int) by omega]
  exact u64_or_nat _ _ (by omega) (by omega)

end Go.Proofs.YtiljkgoafknefaaGreat

/- Package product: what Divide attempts. -/
namespace Go.Proofs.YtiljkgoafknefaaGreat
open Go.RowKit

def divEvs (L M : Nat) : List Ev := [(1, ((M : Nat) : Int), 0)] ++ List.replicate (3 * (64 * L)) (1, ((M : Nat) : Int), 0)

theorem divEvs_len (L M : Nat) : (divEvs L M).length = 1 + 3 * (64 * L) := by unfold divEvs; rw [List.length_append, List.length_replicate]; rfl

end Go.Proofs.YtiljkgoafknefaaGreat
