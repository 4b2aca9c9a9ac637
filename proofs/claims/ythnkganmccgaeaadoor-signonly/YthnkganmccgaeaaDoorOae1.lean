/- The plain side of layer 24 (package sconceref23): Room, Seal. -/
import Derived.Test.YthnkganmccgaeaaDoorPad1
import Derived.Test.YthnkganmccgaeaaDoorZap0
import Derived.Test.YthnkganmccgaeaaDoorHsh3
namespace Go.Proofs.YthnkganmccgaeaaDoor
open Go.RowKit

/-- What Room answers. -/
def rmE (h k : Int) : Nat := if hszN h = 0 then 130 else if k < 0 ∨ 1024 < k then 1 else if k < 2 * (hszN h : Int) + 2 then 232 else 0
def rmN (h k : Int) : Int := if rmE h k = 0 then k - 2 * (hszN h : Int) - 2 else 0

theorem rm_zero {h k : Int} (hE : rmE h k = 0) : hszN h ≠ 0 ∧ 2 * (hszN h : Int) + 2 ≤ k ∧ k ≤ 1024 ∧ rmN h k = k - 2 * (hszN h : Int) - 2 := by
  have h0 := hE
  unfold rmE at hE
  split at hE
  · omega
  · next h1 =>
    split at hE
    · omega
    · next h2 =>
      split at hE
      · omega
      · next h3 =>
        refine ⟨h1, by omega, by omega, ?_⟩
        unfold rmN
        rw [if_pos h0]

theorem hsh_ok {h : Int} (hz : hszN h ≠ 0) : hshE h = 0 ∧ ∀ n : Nat, n ≤ 10000 → mskE h (n : Int) = 0 := by
  rcases hsz_cases h with ⟨rfl, _⟩ | ⟨rfl, _⟩ | ⟨rfl, _⟩ | ⟨_, _, _, e⟩
  · exact ⟨rfl, fun n hn => by unfold mskE; rw [if_neg hz, if_neg (by omega), if_neg (by omega)]⟩
  · exact ⟨rfl, fun n hn => by unfold mskE; rw [if_neg hz, if_neg (by omega), if_neg (by omega)]⟩
  · exact ⟨rfl, fun n hn => by unfold mskE; rw [if_neg hz, if_neg (by omega), if_neg (by omega)]⟩
  · exact absurd e hz

theorem mskN_len {h : Int} (hz : hszN h ≠ 0) (seed : List Nat) (n : Nat) : (mskN h seed n).length = n := by
  unfold mskN
  rw [List.length_take, mskL_length]
  have : n * 1 ≤ n * hszN h := Nat.mul_le_mul_left _ (by omega)
  omega

theorem mskN_digs (h : Int) (seed : List Nat) (n : Nat) : Digs 256 (mskN h seed n) := (mskL_digs h seed n).take n

theorem read_len {bs : List Nat} {n : Nat} (h : readE bs (n : Int) = 0) : (readL bs (n : Int)).length = n := by
  have h0 := h
  unfold readE at h
  split at h
  · omega
  · split at h
    · omega
    · next h2 =>
      unfold readL
      rw [if_pos h0, List.length_take]
      simp
      omega

theorem read_digs {bs : List Nat} {n : Int} (h : Digs 256 bs) : Digs 256 (readL bs n) := by
  unfold readL
  split
  · exact h.take _
  · exact Digs.nil _

theorem rep_digs (k : Nat) : Digs 256 (List.replicate k 0) := fun d hd => by rw [List.eq_of_mem_replicate hd]; omega

/-- The block that is masked. -/
def seD (h : Int) (lb ms : List Nat) (r : Nat) : List Nat := hshN h lb ++ List.replicate (r - ms.length) 0 ++ [1] ++ ms

/-- What Seal answers: the error, the bytes, what is left of the script. -/
def seE (h : Int) (ms bs : List Nat) (k : Int) : Nat := if rmE h k ≠ 0 then rmE h k else if (ms.length : Int) > rmN h k then 231 else readE bs (hszN h : Int)
def seX (h : Int) (lb ms bs : List Nat) (k : Int) : List Nat := xorN (seD h lb ms (rmN h k).toNat) (mskN h (readL bs (hszN h : Int)) (seD h lb ms (rmN h k).toNat).length)
def seL (h : Int) (lb ms bs : List Nat) (k : Int) : List Nat := if seE h ms bs k = 0 then [0] ++ xorN (readL bs (hszN h : Int)) (mskN h (seX h lb ms bs k) (hszN h)) ++ seX h lb ms bs k else []
def seR (h : Int) (ms bs : List Nat) (k : Int) : List Nat := if rmE h k ≠ 0 ∨ (ms.length : Int) > rmN h k then bs else readR bs (hszN h : Int)

end Go.Proofs.YthnkganmccgaeaaDoor
