/- The plain side of layer 15: Below. -/
import Derived.Test.YtegjdjfnpphipaaScr2
import Derived.Test.YtegjdjfnpphipaaBev1
namespace Go.Proofs.Ytegjdjfnpphipaa
open Go.RowKit

/-- Draws of z bytes, cut to t bits, until one is above 0 and below M: the number (0: there is none), how many draws, what is left. -/
def belF (M t z : Nat) : Nat → List Nat → Nat → Nat × Nat × List Nat
  | 0, _, _ => (0, 0, [])
  | f + 1, bs, k => if bs.length < z then (0, 0, []) else if 0 < bev (bs.take z) % 2 ^ t ∧ bev (bs.take z) % 2 ^ t < M then (bev (bs.take z) % 2 ^ t, k, bs.drop z) else belF M t z f (bs.drop z) (k + 1)

def belN (M : Nat) (bs : List Nat) : Nat × Nat × List Nat := belF M (blen M) ((blen M + 7) / 8) (bs.length + 1) bs 1

theorem belF_lt (M t z : Nat) (hM : 0 < M) : ∀ f bs k, (belF M t z f bs k).1 < M
  | 0, _, _ => hM
  | f + 1, bs, k => by
    unfold belF
    split
    · exact hM
    · split
      · next h => exact h.2
      · exact belF_lt M t z hM f _ _

theorem belF_rest (M t z : Nat) : ∀ f bs k, ∃ n, (belF M t z f bs k).2.2 = bs.drop n
  | 0, bs, _ => ⟨bs.length, by rw [List.drop_length]; rfl⟩
  | f + 1, bs, k => by
    unfold belF
    split
    · exact ⟨bs.length, by rw [List.drop_length]⟩
    · split
      · exact ⟨z, rfl⟩
      · obtain ⟨n, hn⟩ := belF_rest M t z f (bs.drop z) (k + 1)
        exact ⟨z + n, by rw [hn, List.drop_drop]⟩

theorem belF_pos (M t z : Nat) : ∀ f bs k, 0 < k → (belF M t z f bs k).1 ≠ 0 → 0 < (belF M t z f bs k).2.1
  | 0, _, _, _, h => absurd rfl h
  | f + 1, bs, k, hk, h => by
    unfold belF at *
    split at h
    · exact absurd rfl h
    · next h1 =>
      rw [if_neg h1]
      split at h
      · next h2 => rw [if_pos h2]; exact hk
      · next h2 => rw [if_neg h2]; exact belF_pos M t z f _ _ (by omega) h

/-- What Below answers of a number of the words xs. -/
def belE (xs bs : List Nat) : Nat := if 300 < xs.length then 2 else if val 18446744073709551616 xs < 2 then 1 else if (belN (val 18446744073709551616 xs) bs).1 = 0 then 150 else 0
def belX (xs bs : List Nat) : List Nat := if belE xs bs = 0 then digs 18446744073709551616 (belN (val 18446744073709551616 xs) bs).1 xs.length else []
def belK (xs bs : List Nat) : Nat := if belE xs bs = 0 then (belN (val 18446744073709551616 xs) bs).2.1 else 0
def belR (xs bs : List Nat) : List Nat := if 300 < xs.length ∨ val 18446744073709551616 xs < 2 then bs else (belN (val 18446744073709551616 xs) bs).2.2

end Go.Proofs.Ytegjdjfnpphipaa
