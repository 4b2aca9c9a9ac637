/- Layer 13 (hash): the names' table, Size, Name, Of, Prefix; the laws' first test. -/
import Derived.Test.YthnkganmccgaeaaDoorHsh3
import Derived.Lib.LaidU8
namespace Go.Proofs.YthnkganmccgaeaaDoor
open Go.RowKit

theorem bytes_data {a b : ByteArray} (h : a.data.toList = b.data.toList) : a = b := by
  cases a with
  | mk x =>
    cases b with
    | mk y =>
      cases x
      cases y
      simp at h
      subst h
      rfl

/-- Whether a text is the name at a number. -/
def nmB (i : Nat) (s : ByteArray) : Bool := (hnmN (i : Int)).toList == s.toList

theorem nmB_uniq {i j : Nat} {s : ByteArray} (hi : i < 4) (hj : j < 4) (h1 : nmB i s = true) (h2 : nmB j s = true) : i = j := by
  have e : (hnmN (i : Int)).data.toList = (hnmN (j : Int)).data.toList := by
    unfold nmB at h1 h2
    have a := eq_of_beq h1
    have b := eq_of_beq h2
    rw [Lib.toList_data] at a b
    rw [a, b]
  obtain rfl | rfl | rfl | rfl : i = 0 ∨ i = 1 ∨ i = 2 ∨ i = 3 := by omega
  all_goals
    obtain rfl | rfl | rfl | rfl : j = 0 ∨ j = 1 ∨ j = 2 ∨ j = 3 := by omega
    all_goals first | rfl | (revert e; decide)

/-- The number of a name. -/
def ofN (s : ByteArray) : Nat := if nmB 1 s = true then 1 else if nmB 2 s = true then 2 else if nmB 3 s = true then 3 else 0

theorem ofN_hit {i : Nat} {s : ByteArray} (hi : i < 4) (h : nmB i s = true) : ofN s = i := by
  unfold ofN
  by_cases h1 : nmB 1 s = true
  · rw [if_pos h1]
    exact nmB_uniq (by omega) hi h1 h
  · rw [if_neg h1]
    by_cases h2 : nmB 2 s = true
    · rw [if_pos h2]
      exact nmB_uniq (by omega) hi h2 h
    · rw [if_neg h2]
      by_cases h3 : nmB 3 s = true
      · rw [if_pos h3]
        exact nmB_uniq (by omega) hi h3 h
      · rw [if_neg h3]
        obtain rfl | rfl | rfl | rfl : i = 0 ∨ i = 1 ∨ i = 2 ∨ i = 3 := by omega
        · rfl
        · exact absurd h h1
        · exact absurd h h2
        · exact absurd h h3

theorem ofN_none {s : ByteArray} (h : ∀ i, i < 4 → nmB i s = false) : ofN s = 0 := by
  unfold ofN
  rw [if_neg (by rw [h 1 (by omega)]; decide), if_neg (by rw [h 2 (by omega)]; decide), if_neg (by rw [h 3 (by omega)]; decide)]

theorem ofN_sha512 : ofN ⟨#[115, 104, 97, 53, 49, 50]⟩ = 3 := ofN_hit (by omega) (by unfold nmB; exact beq_self_eq_true _)

set_option maxRecDepth 20000 in
set_option maxHeartbeats 1000000 in
/-- Size. -/
theorem z13Size (h : Int) (w : World) :
    Calls Tryd.prog 13 #[.int .i64 h] w fun e w' => e = .returned (.int .i64 (hszN h : Nat)) ∧ Kept Nought w w' := by
  rcases hsz_cases h with ⟨rfl, e⟩ | ⟨rfl, e⟩ | ⟨rfl, e⟩ | ⟨h1, h2, h3, e⟩
  all_goals
    rw [e]
    clear e
    go_enter Tryd.func13, Tryd.ntmps13
    go_wp2_with fail
    go_ret
    exact ⟨rfl, by first | exact Kept.refl _ _ | exact (Kept.refl _ _).drew⟩

theorem hnm_none {h : Int} (h1 : h ≠ 1) (h2 : h ≠ 2) (h3 : h ≠ 3) : hnmN h = ⟨#[]⟩ := by
  unfold hnmN
  rw [if_neg h1, if_neg h2, if_neg h3]

set_option maxRecDepth 20000 in
set_option maxHeartbeats 1000000 in
/-- Prefix. -/
theorem z13Prefix (h : Int) (w : World) :
    Calls Tryd.prog 12 #[.int .i64 h] w fun e w' => ∃ v', e = .returned v' ∧ OwnB w' w.heap.size v' (preN h) ∧ Kept Nought w w' := by
  have J := fun W => z13Size h W
  rcases hsz_cases h with ⟨rfl, e⟩ | ⟨rfl, e⟩ | ⟨rfl, e⟩ | ⟨h1, h2, h3, e⟩
  case inr.inr.inr =>
    have hp : preN h = [] := by unfold preN; rw [e]; rfl
    rw [e] at J
    rw [hp]
    clear e hp
    go_enter Tryd.func12, Tryd.ntmps12
    go_wp2_with fail
    refine (J _).mono ?_
    rintro e w1 ⟨rfl, k1⟩
    clear J
    go_wp2_with fail
    go_ret
    exact ⟨_, rfl, OwnB.nil _ _, k1⟩
  all_goals
    rw [e] at J
    clear e
    go_enter Tryd.func12, Tryd.ntmps12
    go_wp2_with fail
    refine (J _).mono ?_
    rintro e w1 ⟨rfl, k1⟩
    clear J
    go_wp2_with fail
    go_ret
    exact ⟨_, rfl, OwnB.of (n := 19) (own_of_block (k := .u8) (zs := preN _) (heap_alloc_new w1 _) rfl (by unfold maxLen; decide) k1.size), k1.alloc _⟩

theorem pre_head : (preN 2).length = 19 ∧ (preN 2).getD 1 0 = 65 ∧ (preN 2).getD 14 0 = 2 ∧ (preN 2).getD 18 0 = 48 := by decide

end Go.Proofs.YthnkganmccgaeaaDoor
