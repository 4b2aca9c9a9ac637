/- The plain side of layers 13 and 14: Prefix, Mask. -/
import Derived.Test.YthnkganmccgaeaaDoorHsh2
namespace Go.Proofs.YthnkganmccgaeaaDoor
open Go.RowKit

/-- What stands ahead of a hash in a signature. -/
def preN (h : Int) : List Nat := if hszN h = 0 then [] else [48, 17 + hszN h, 48, 13, 6, 9, 96, 134, 72, 1, 101, 3, 4, 2, h.toNat, 5, 0, 4, hszN h]

theorem preN_digs (h : Int) : Digs 256 (preN h) := by
  unfold preN
  rcases hsz_cases h with ⟨rfl, e⟩ | ⟨rfl, e⟩ | ⟨rfl, e⟩ | ⟨h1, h2, h3, e⟩
  case inr.inr.inr =>
    rw [e]
    exact Digs.nil _
  all_goals
    rw [e]
    unfold Digs
    decide

set_option maxRecDepth 20000 in
set_option maxHeartbeats 1000000 in
/-- Prefix. -/
theorem r13Prefix (h : Int) (w : World) :
    Calls Tryd.prog 17 #[.int .i64 h] w fun e w' => ∃ v', e = .returned v' ∧ OwnB w' w.heap.size v' (preN h) ∧ Kept Nought w w' := by
  have J := fun W => r13Size h W
  rcases hsz_cases h with ⟨rfl, e⟩ | ⟨rfl, e⟩ | ⟨rfl, e⟩ | ⟨h1, h2, h3, e⟩
  case inr.inr.inr =>
    have hp : preN h = [] := by unfold preN; rw [e]; rfl
    rw [e] at J
    rw [hp]
    clear e hp
    go_enter Tryd.func17, Tryd.ntmps17
    go_wp2_with fail
    refine (J _).mono ?_
    rintro e w1 ⟨rfl, k1⟩
    clear J
    go_wp2_with fail
    go_ret
    exact ⟨_, rfl, OwnB.nil _ _, k1⟩
  all_goals
    rw [e] at J
    clear e
    go_enter Tryd.func17, Tryd.ntmps17
    go_wp2_with fail
    refine (J _).mono ?_
    rintro e w1 ⟨rfl, k1⟩
    clear J
    go_wp2_with fail
    go_ret
    exact ⟨_, rfl, OwnB.of (n := 19) (own_of_block (k := .u8) (zs := preN _) (heap_alloc_new w1 _) rfl (by unfold maxLen; decide) k1.size), k1.alloc _⟩

/-- So many hashes of a seed and a number behind it. -/
def mskL (h : Int) (seed : List Nat) : Nat → List Nat
  | 0 => []
  | i + 1 => mskL h seed i ++ hshN h (seed ++ [i / 16777216 % 256, i / 65536 % 256, i / 256 % 256, i % 256])

theorem mskL_length (h : Int) (seed : List Nat) : ∀ i, (mskL h seed i).length = i * hszN h
  | 0 => by simp [mskL]
  | i + 1 => by unfold mskL; rw [List.length_append, mskL_length h seed i, hshN_length, Nat.succ_mul]

theorem mskL_digs (h : Int) (seed : List Nat) : ∀ i, Digs 256 (mskL h seed i)
  | 0 => Digs.nil _
  | i + 1 => (mskL_digs h seed i).app (hshN_digs _ _)

theorem mskL_more (h : Int) (seed : List Nat) (i : Nat) : ∀ d, ∃ t, mskL h seed (i + d) = mskL h seed i ++ t
  | 0 => ⟨[], by simp⟩
  | d + 1 => by
    obtain ⟨t, ht⟩ := mskL_more h seed i d
    exact ⟨t ++ _, by rw [← Nat.add_assoc]; show mskL h seed (i + d) ++ _ = _; rw [ht, List.append_assoc]⟩

theorem mskL_take (h : Int) (seed : List Nat) {i j n : Nat} (hij : i ≤ j) (hn : n ≤ (mskL h seed i).length) : (mskL h seed j).take n = (mskL h seed i).take n := by
  obtain ⟨t, ht⟩ := mskL_more h seed i (j - i)
  rw [show i + (j - i) = j by omega] at ht
  rw [ht, List.take_append_of_le_length hn]

/-- A mask's error. -/
def mskE (h n : Int) : Nat := if hszN h = 0 then 130 else if n < 0 then 1 else if n > 10000 then 2 else 0

/-- A mask of n bytes. -/
def mskN (h : Int) (seed : List Nat) (n : Nat) : List Nat := (mskL h seed n).take n

/-- What Mask answers. -/
def mskA (h : Int) (seed : List Nat) (n : Int) : List Nat := if mskE h n = 0 then mskN h seed n.toNat else []

theorem mskE_zero {h n : Int} (hE : mskE h n = 0) : hszN h ≠ 0 ∧ 0 ≤ n ∧ n ≤ 10000 := by
  unfold mskE at hE
  by_cases h0 : hszN h = 0
  · rw [if_pos h0] at hE
    omega
  · rw [if_neg h0] at hE
    by_cases h1 : n < 0
    · rw [if_pos h1] at hE
      omega
    · rw [if_neg h1] at hE
      by_cases h2 : n > 10000
      · rw [if_pos h2] at hE
        omega
      · exact ⟨h0, by omega, by omega⟩

theorem hsz_le (h : Int) : hszN h ≤ 64 := by
  rcases hsz_cases h with ⟨_, e⟩ | ⟨_, e⟩ | ⟨_, e⟩ | ⟨_, _, _, e⟩ <;> omega

end Go.Proofs.YthnkganmccgaeaaDoor
