/- Melted of: Ref6A Ref6B Ref6C. -/
import Derived.Test.YtiljkgoafknefaaGreatBigM
import Derived.Test.YtiljkgoafknefaaGreatBase2
import Derived.Test.YtiljkgoafknefaaGreatInv0
import Derived.Test.YtiljkgoafknefaaGreatBase1
import Derived.Test.YtiljkgoafknefaaGreatBase3

/- The plain side of layer 6 (package sconceref06): any number as a modulus. -/
namespace Go.Proofs.YtiljkgoafknefaaGreat
open Go.RowKit

/-- The error's number of a modulus. -/
def montE (V : Nat) : Nat := if 130 < wordsN V then 2 else if V < 2 then 1 else if V % 2 = 0 then 60 else 0

/-- K is the number that goes with the modulus V. -/
def isKf (V K : Nat) : Prop := K < 18446744073709551616 ∧ (montE V = 0 → (V * K + 1) % 18446744073709551616 = 0) ∧ (montE V ≠ 0 → K = 0)

def modM (V : Nat) : List Nat := if montE V = 0 then digs 18446744073709551616 V (wordsN V) else []

def modR (V : Nat) : List Nat := if montE V = 0 then digs 18446744073709551616 (2 ^ (128 * wordsN V) % V) (wordsN V) else []

theorem montE_ok {V : Nat} (h : montE V = 0) : wordsN V ≤ 130 ∧ 2 ≤ V ∧ V % 2 = 1 := by
  unfold montE at h
  by_cases h1 : 130 < wordsN V
  · rw [if_pos h1] at h; omega
  · rw [if_neg h1] at h
    by_cases h2 : V < 2
    · rw [if_pos h2] at h; omega
    · rw [if_neg h2] at h
      by_cases h3 : V % 2 = 0
      · rw [if_pos h3] at h; omega
      · omega

theorem isKf_uniq {V K K' : Nat} (h : isKf V K) (h' : isKf V K') : K = K' := by
  by_cases h0 : montE V = 0
  · have e1 := h.2.1 h0
    have e2 := h'.2.1 h0
    have o := (montE_ok h0).2.2
    have l1 := h.1
    have l2 := h'.1
    have i1 : (18446744073709551616 : Int) ∣ 1 - (V : Int) * (-(K : Int)) := by
      have : (((V * K + 1 : Nat) : Int)) = 1 - (V : Int) * (-(K : Int)) := by rw [Int.mul_neg]; omega
      rw [← this]; omega
    have i2 : (18446744073709551616 : Int) ∣ 1 - (V : Int) * (-(K' : Int)) := by
      have : (((V * K' + 1 : Nat) : Int)) = 1 - (V : Int) * (-(K' : Int)) := by rw [Int.mul_neg]; omega
      rw [← this]; omega
    have key : ∀ (X : Nat), X < 18446744073709551616 → (18446744073709551616 : Int) ∣ 1 - (V : Int) * (-(X : Int)) → (18446744073709551616 : Int) ∣ 1 - (V : Int) * ((-(X : Int)) % 18446744073709551616) := by
      intro X _ hX
      obtain ⟨t, ht⟩ : ∃ t, (-(X : Int)) % 18446744073709551616 = -(X : Int) + 18446744073709551616 * t := ⟨((-(X : Int)) % 18446744073709551616 + X) / 18446744073709551616, by omega⟩
      rw [ht, Int.mul_add, Int.mul_left_comm]
      generalize (V : Int) * t = q
      generalize (V : Int) * (-(X : Int)) = p at *
      omega
    have := inv_uniq (V : Int) _ _ (by omega) (by omega) (by omega) (by omega) (key K l1 i1) (key K' l2 i2)
    omega
  · rw [h.2.2 h0, h'.2.2 h0]

/-- The words that a number needs, by its highest word that is not 0. -/
theorem words_trim {xs : List Nat} {n : Nat} (hd : Digs 18446744073709551616 xs) (hn : n ≤ xs.length) (hz : ∀ i, n ≤ i → xs.getD i 0 = 0) (ht : n = 0 ∨ xs.getD (n - 1) 0 ≠ 0) : wordsN (val 18446744073709551616 xs) = n ∧ val 18446744073709551616 (xs.take n) = val 18446744073709551616 xs := by
  have e := take_trim (B := 18446744073709551616) hn hz
  refine ⟨?_, e⟩
  have hl : (xs.take n).length = n := by rw [List.length_take]; omega
  have hlt := val_lt (by omega) (hd.take n)
  rw [e, hl] at hlt
  have h1 := (wordsN_le (val 18446744073709551616 xs) n).2 hlt
  have h2 : ¬ wordsN (val 18446744073709551616 xs) ≤ n - 1 ∨ n = 0 := by
    rcases ht with h0 | h0
    · exact .inr h0
    · by_cases hn0 : n = 0
      · exact .inr hn0
      · left
        intro h
        have h3 := (wordsN_le _ _).1 h
        have ht2 : Trimmed (xs.take n) := trimmed_take hn (.inr h0)
        have h4 := val_le_of_top (B := 18446744073709551616) ht2 (by omega)
        rw [e, hl] at h4
        omega
  omega

/-- K, out of the inverse. -/
theorem isKf_of {V d : Nat} {x : Int} (hV : montE V = 0) (hd : d % 18446744073709551616 = V % 18446744073709551616) (hi : isInv (d : Int) x) : ∃ K : Nat, IntKind.u64.wrap (-x) = (K : Int) ∧ isKf V K := by
  obtain ⟨x0, x1, h1, _⟩ := hi
  have o := (montE_ok hV).2.2
  have hx := h1 (by omega)
  refine ⟨(IntKind.u64.wrap (-x)).toNat, by rw [IntKind.wrap_u64]; omega, by rw [IntKind.wrap_u64]; omega, fun _ => ?_, fun h => absurd hV h⟩
  rw [IntKind.wrap_u64]
  obtain ⟨K, hK⟩ : ∃ K : Nat, ((-x) % 18446744073709551616).toNat = K := ⟨_, rfl⟩
  rw [hK]
  obtain ⟨t, ht⟩ : ∃ t : Int, (K : Int) = -x + 18446744073709551616 * t := ⟨((K : Int) + x) / 18446744073709551616, by omega⟩
  obtain ⟨s, hs⟩ : ∃ s : Int, (V : Int) = (d : Int) + 18446744073709551616 * s := ⟨((V : Int) - d) / 18446744073709551616, by omega⟩
  have e : ((V * K + 1 : Nat) : Int) = 1 - (d : Int) * x + 18446744073709551616 * ((d : Int) * t + s * (K : Int)) := by
    have h1 : (V : Int) * (K : Int) = (d : Int) * (K : Int) + 18446744073709551616 * (s * (K : Int)) := by rw [hs, Int.add_mul, Int.mul_assoc]
    have h2 : (d : Int) * (K : Int) = -((d : Int) * x) + 18446744073709551616 * ((d : Int) * t) := by rw [ht, Int.mul_add, Int.mul_neg, Int.mul_left_comm]
    have h3 : ((V * K + 1 : Nat) : Int) = (V : Int) * (K : Int) + 1 := by simp
    rw [h3, h1, h2, Int.mul_add]
    omega
  have : (18446744073709551616 : Int) ∣ ((V * K + 1 : Nat) : Int) := by
    rw [e]; omega
  omega

end Go.Proofs.YtiljkgoafknefaaGreat

/- The plain side of layer 6: Setup. -/
namespace Go.Proofs.YtiljkgoafknefaaGreat
open Go.RowKit

/-- The cells of a modulus. -/
def modCells (a : Value) (K : Nat) (b : Value) : Array Value := #[a, .int .u64 (K : Nat), b]

/-- A number's lowest digit. -/
theorem big_low {w : World} {v : Value} {V : Nat} (h : IsBig w v V) (hV : 0 < V) : ∃ b off n cap d, v = .slice (some ⟨b, off, none⟩) n cap ∧ 0 < n ∧ w.cell? ⟨b, off, none⟩ = some (.int .u32 (d : Nat)) ∧ d < 4294967296 ∧ d % 2 = V % 2 := by
  obtain ⟨ds, hr, hd, ht, rfl, hl⟩ := h
  obtain ⟨ao, n, cap, rfl, hN, _, _, _, h4⟩ := hr.open
  have hn : 0 < n := by
    rw [← hN.out]
    rcases ds with _ | ⟨d, r⟩
    · simp [val] at hV
    · simp
  obtain ⟨b, off, rfl, hc⟩ := h4 0 hn
  refine ⟨b, off, n, cap, _, rfl, hn, hc, hd.getD (by omega) 0, ?_⟩
  rcases ds with _ | ⟨d, r⟩
  · simp [val] at hV
  · simp only [val, List.getD_cons_zero]
    omega

theorem low_word {V n : Nat} (hn : 0 < n) : (digs 18446744073709551616 V n).getD 0 0 = V % 18446744073709551616 := by
  rw [digs_getD _ _ _ _ hn, dig, Nat.pow_zero, Nat.div_one]

theorem mod_bad {V : Nat} (h : montE V ≠ 0) : modM V = [] ∧ modR V = [] ∧ isKf V 0 := by
  refine ⟨if_neg h, if_neg h, by omega, fun e => absurd e h, fun _ => rfl⟩

theorem stored3 {w w3 : World} {p : Nat} {a b c : Value} {t : TypeId} (hk : Kept Nought w w3) (hp : w.heap.size ≤ p) (hbx : w3.heap[p]? = some (.cells #[a, b, c] t (0, 0))) (x y z : Value) :
    (((w3.setCell ⟨p, 0, none⟩ x).setCell ⟨p, 1, none⟩ y).setCell ⟨p, 2, none⟩ z).heap[p]? = some (.cells #[x, y, z] t (0, 0)) ∧ Kept Nought w (((w3.setCell ⟨p, 0, none⟩ x).setCell ⟨p, 1, none⟩ y).setCell ⟨p, 2, none⟩ z) ∧ Kept (fun q => q = p) w3 (((w3.setCell ⟨p, 0, none⟩ x).setCell ⟨p, 1, none⟩ y).setCell ⟨p, 2, none⟩ z) := by
  refine ⟨?_, ?_, ?_⟩
  · have h1 := heap_setCell_same w3 p 0 _ _ x hbx
    have h2 := heap_setCell_same _ p 1 _ _ y h1
    have h3 := heap_setCell_same _ p 2 _ _ z h2
    simpa using h3
  · exact ((hk.setCell ⟨p, 0, none⟩ (fun h => by simp at h; omega) _).setCell ⟨p, 1, none⟩ (fun h => by simp at h; omega) _).setCell ⟨p, 2, none⟩ (fun h => by simp at h; omega) _
  · exact (((Kept.refl (fun q => q = p) w3).setCell ⟨p, 0, none⟩ (fun _ => rfl) _).setCell ⟨p, 1, none⟩ (fun _ => rfl) _).setCell ⟨p, 2, none⟩ (fun _ => rfl) _

/-- The zero modulus. -/
abbrev zeroMod : Array Value := #[.slice none 0 0, .int .u64 0, .slice none 0 0]

end Go.Proofs.YtiljkgoafknefaaGreat

/- The plain side of layer 6: Check, Member. -/
namespace Go.Proofs.YtiljkgoafknefaaGreat
open Go.RowKit

theorem box3 {W : World} {p : Nat} {a b c : Value} {t : TypeId} {fr : Nat × Nat} (h : W.heap[p]? = some (.cells #[a, b, c] t fr)) : W.cell? ⟨p, 0, none⟩ = some a ∧ W.cell? ⟨p, 1, none⟩ = some b ∧ W.cell? ⟨p, 2, none⟩ = some c :=
  ⟨(cell_of_row W p 0 _ _ _ h).trans rfl, (cell_of_row W p 1 _ _ _ h).trans rfl, (cell_of_row W p 2 _ _ _ h).trans rfl⟩

/-- A modulus as it should be. -/
def okMod (ms : List Nat) (K : Nat) (rs : List Nat) : Prop :=
  montE (val 18446744073709551616 ms) = 0 ∧ modM (val 18446744073709551616 ms) = ms ∧ isKf (val 18446744073709551616 ms) K ∧ modR (val 18446744073709551616 ms) = rs

end Go.Proofs.YtiljkgoafknefaaGreat
