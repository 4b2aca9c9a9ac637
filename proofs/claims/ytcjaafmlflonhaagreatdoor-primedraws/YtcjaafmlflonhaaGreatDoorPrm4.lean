/- The plain side of layer 17 (package sconceref16): Rounds, as numbers. -/
import Derived.Test.YtcjaafmlflonhaaGreatDoorStr1
import Derived.Test.YtcjaafmlflonhaaGreatDoorScr4
import Derived.Test.YtcjaafmlflonhaaGreatDoorGro1
namespace Go.Proofs.YtcjaafmlflonhaaGreatDoor
open Go.RowKit

theorem belF_less (M t z : Nat) (hz : 0 < z) : ∀ f bs k, (belF M t z f bs k).1 ≠ 0 → (belF M t z f bs k).2.2.length < bs.length
  | 0, _, _, h => absurd rfl h
  | f + 1, bs, k, h => by
    unfold belF at *
    split at h
    · exact absurd rfl h
    · next h1 =>
      rw [if_neg h1]
      split at h
      · next h2 => rw [if_pos h2]; simp only [List.length_drop]; omega
      · next h2 =>
        rw [if_neg h2]
        have := belF_less M t z hz f (bs.drop z) (k + 1) h
        rw [List.length_drop] at this
        omega

theorem blen_pos {M : Nat} (h : 0 < M) : 0 < blen M := by
  rcases Nat.eq_zero_or_pos (blen M) with e | e
  · have := (blen_le M 0).1 (by omega)
    simp at this
    omega
  · exact e

theorem bel_less {xs bs : List Nat} (h : belE xs bs = 0) : (belR xs bs).length < bs.length := by
  unfold belE at h
  unfold belR
  split at h
  · omega
  · next h1 =>
    split at h
    · omega
    · next h2 =>
      split at h
      · omega
      · next h3 =>
        rw [if_neg (by omega)]
        exact belF_less _ _ _ (by have := blen_pos (show 0 < val 18446744073709551616 xs by omega); omega) _ _ _ h3

theorem bel_rest (xs bs : List Nat) : ∃ n, belR xs bs = bs.drop n := by
  unfold belR
  split
  · exact ⟨0, by simp⟩
  · exact belF_rest _ _ _ _ _ _

theorem bel_len {xs bs : List Nat} (h : belE xs bs = 0) : (belX xs bs).length = xs.length := by
  unfold belX
  rw [if_pos h, digs_length]

theorem bel_val {xs bs : List Nat} (hd : Digs 18446744073709551616 xs) (h : belE xs bs = 0) : 0 < val 18446744073709551616 (belX xs bs) ∧ val 18446744073709551616 (belX xs bs) < val 18446744073709551616 xs := by
  have hb := h
  unfold belE at h
  split at h
  · omega
  · split at h
    · omega
    · next h2 =>
      split at h
      · omega
      · next h3 =>
        have hlt := belF_lt (val 18446744073709551616 xs) (blen (val 18446744073709551616 xs)) ((blen (val 18446744073709551616 xs) + 7) / 8) (by omega) (bs.length + 1) bs 1
        have hlt' : (belN (val 18446744073709551616 xs) bs).1 < val 18446744073709551616 xs := hlt
        unfold belX
        rw [if_pos hb, val_digs, Nat.mod_eq_of_lt (Nat.lt_trans hlt' (val_lt (by omega) hd))]
        exact ⟨by omega, hlt'⟩

/-- What Rounds comes to: whether, with which bases, the error, the bytes that are left. -/
def rndF (xs : List Nat) (k : Nat) : Nat → Nat → List Nat → List (List Nat) → Bool × List (List Nat) × Nat × List Nat
  | 0, _, bs, _ => (false, [], 150, bs)
  | f + 1, i, bs, acc => if k ≤ i then (true, acc, 0, bs) else if belE xs bs ≠ 0 then (false, [], belE xs bs, belR xs bs) else
    if val 18446744073709551616 (belX xs bs) = 1 ∨ val 18446744073709551616 (belX xs bs) = val 18446744073709551616 xs - 1 then rndF xs k f i (belR xs bs) acc else
    if strongB (val 18446744073709551616 xs) (val 18446744073709551616 (belX xs bs)) then rndF xs k f (i + 1) (belR xs bs) (acc ++ [belX xs bs]) else (false, acc ++ [belX xs bs], 0, belR xs bs)

/-- What Rounds answers. -/
def rndAll (xs : List Nat) (k : Int) (bs : List Nat) : Bool × List (List Nat) × Nat × List Nat :=
  if oddE (val 18446744073709551616 xs) ≠ 0 then (false, [], oddE (val 18446744073709551616 xs), bs) else if k < 0 ∨ 100 < k then (false, [], 1, bs) else rndF xs k.toNat (bs.length + 1) 0 bs []

theorem scr_apart {w : World} {b B : Nat} {bs xs : List Nat} {v : Value} (h : ScrAt w b B bs) (hr : Row .u64 w v xs) (hne : xs ≠ []) : ∀ x, v.ownBlock = some x → x ≠ b := by
  obtain ⟨sv, ⟨h1, hrow, _⟩, _⟩ := h
  intro x hx e
  subst e
  obtain ⟨ao, cap, rfl, _, _, _, h4⟩ := hr
  obtain ⟨b2, off, rfl, hc⟩ := h4 0 (by cases xs with
    | nil => exact absurd rfl hne
    | cons a l => simp)
  have e : b2 = x := by simpa [Value.ownBlock] using hx
  subst e
  have hs : ∃ so sn sc, sv = .slice so sn sc := by
    obtain ⟨so, sc, e, _⟩ := hrow
    exact ⟨so, _, sc, e⟩
  obtain ⟨so, sn, sc, rfl⟩ := hs
  simp only [World.cell?, h1] at hc
  cases off with
  | zero => simp at hc
  | succ o => simp at hc

end Go.Proofs.YtcjaafmlflonhaaGreatDoor
