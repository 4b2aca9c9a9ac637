/- The plain side of layers 13 and 14 (package sconceref13): bytes as texts, Same, Size, Name, Prefix, Sum. -/
import Derived.Test.YthnkganmccgaeaaDoorSha7
import Derived.Test.YthnkganmccgaeaaDoorShb7
namespace Go.Proofs.YthnkganmccgaeaaDoor
open Go.RowKit

/-- How many bytes a hash has. -/
def hszN (h : Int) : Nat := if h = 1 then 32 else if h = 2 then 48 else if h = 3 then 64 else 0

theorem hsz_cases (h : Int) : (h = 1 ∧ hszN h = 32) ∨ (h = 2 ∧ hszN h = 48) ∨ (h = 3 ∧ hszN h = 64) ∨ (h ≠ 1 ∧ h ≠ 2 ∧ h ≠ 3 ∧ hszN h = 0) := by
  unfold hszN
  by_cases h1 : h = 1
  · exact .inl ⟨h1, by rw [if_pos h1]⟩
  · by_cases h2 : h = 2
    · exact .inr (.inl ⟨h2, by rw [if_neg h1, if_pos h2]⟩)
    · by_cases h3 : h = 3
      · exact .inr (.inr (.inl ⟨h3, by rw [if_neg h1, if_neg h2, if_pos h3]⟩))
      · exact .inr (.inr (.inr ⟨h1, h2, h3, by rw [if_neg h1, if_neg h2, if_neg h3]⟩))

set_option maxRecDepth 20000 in
set_option maxHeartbeats 1000000 in
/-- Size. -/
theorem r13Size (h : Int) (w : World) :
    Calls Tryd.prog 26 #[.int .i64 h] w fun e w' => e = .returned (.int .i64 (hszN h : Nat)) ∧ Kept Nought w w' := by
  rcases hsz_cases h with ⟨rfl, e⟩ | ⟨rfl, e⟩ | ⟨rfl, e⟩ | ⟨h1, h2, h3, e⟩
  all_goals
    rw [e]
    clear e
    go_enter Tryd.func26, Tryd.ntmps26
    go_wp2_with fail
    go_ret
    exact ⟨rfl, by first | exact Kept.refl _ _ | exact (Kept.refl _ _).drew⟩

/-- The name of a hash. -/
def hnmN (h : Int) : ByteArray := if h = 1 then ⟨#[115, 104, 97, 50, 53, 54]⟩ else if h = 2 then ⟨#[115, 104, 97, 51, 56, 52]⟩ else if h = 3 then ⟨#[115, 104, 97, 53, 49, 50]⟩ else ⟨#[]⟩

theorem hnm_cases (h : Int) : (h = 1 ∧ hnmN h = ⟨#[115, 104, 97, 50, 53, 54]⟩) ∨ (h = 2 ∧ hnmN h = ⟨#[115, 104, 97, 51, 56, 52]⟩) ∨ (h = 3 ∧ hnmN h = ⟨#[115, 104, 97, 53, 49, 50]⟩) ∨ (h ≠ 1 ∧ h ≠ 2 ∧ h ≠ 3 ∧ hnmN h = ⟨#[]⟩) := by
  unfold hnmN
  by_cases h1 : h = 1
  · exact .inl ⟨h1, by rw [if_pos h1]⟩
  · by_cases h2 : h = 2
    · exact .inr (.inl ⟨h2, by rw [if_neg h1, if_pos h2]⟩)
    · by_cases h3 : h = 3
      · exact .inr (.inr (.inl ⟨h3, by rw [if_neg h1, if_neg h2, if_pos h3]⟩))
      · exact .inr (.inr (.inr ⟨h1, h2, h3, by rw [if_neg h1, if_neg h2, if_neg h3]⟩))

/-- The bytes of a hash; none of what is none. -/
def hshN (h : Int) (bs : List Nat) : List Nat := if h = 1 then sumN bs else if h = 2 then sumM true bs else if h = 3 then sumM false bs else []

/-- Its error. -/
def hshE (h : Int) : Nat := if h = 1 ∨ h = 2 ∨ h = 3 then 0 else 130

theorem r11SumR (v : Value) (bs : List Nat) (w : World) (hb : Row .u8 w v bs) (hbd : Digs 256 bs) (hl : bs.length ≤ 1000000) :
    Calls Tryd.prog 24 #[v] w fun e w' => ∃ v', e = .returned v' ∧ OwnB w' w.heap.size v' (sumN bs) ∧ Kept Nought w w' := by
  obtain ⟨ao, n, cap, rfl, hL, hc, _, hn, hnum⟩ := hb.open
  cases ao with
  | none =>
    obtain rfl := hn rfl
    obtain rfl : n = 0 := by omega
    obtain rfl : bs = [] := List.length_eq_zero_iff.1 hL.out
    exact r11Sum0 w
  | some ad => exact r11Sum ad n cap bs w hb hbd (by have := hL.out; omega)

theorem r12SumR (short : Bool) (v : Value) (bs : List Nat) (w : World) (hb : Row .u8 w v bs) (hbd : Digs 256 bs) (hl : bs.length ≤ 1000000) :
    Calls Tryd.prog 25 #[v, .bool short] w fun e w' => ∃ v', e = .returned v' ∧ OwnB w' w.heap.size v' (sumM short bs) ∧ Kept Nought w w' := by
  obtain ⟨ao, n, cap, rfl, hL, hc, _, hn, hnum⟩ := hb.open
  cases ao with
  | none =>
    obtain rfl := hn rfl
    obtain rfl : n = 0 := by omega
    obtain rfl : bs = [] := List.length_eq_zero_iff.1 hL.out
    exact r12Sum0 short w
  | some ad => exact r12Sum short ad n cap bs w hb hbd (by have := hL.out; omega)

set_option maxRecDepth 20000 in
set_option maxHeartbeats 1000000 in
/-- Sum. -/
theorem r13Sum (h : Int) (v : Value) (bs : List Nat) (w : World) (hb : Row .u8 w v bs) (hbd : Digs 256 bs) (hl : bs.length ≤ 1000000) :
    Calls Tryd.prog 16 #[.int .i64 h, v] w fun e w' => ∃ v', e = .returned (.tuple #[v', .int .i64 (hshE h : Nat)]) ∧ OwnB w' w.heap.size v' (hshN h bs) ∧ Kept Nought w w' := by
  by_cases h1 : h = 1
  · subst h1
    have J := fun W (k : Kept Nought w W) => r11SumR v bs W (hb.grew k) hbd hl
    clear hb
    go_enter Tryd.func16, Tryd.ntmps16
    go_wp2_with fail
    refine (J _ (by first | exact Kept.refl _ _ | exact (Kept.refl _ _).drew)).mono ?_
    rintro e w1 ⟨v1, rfl, hr1, k1⟩
    clear J
    go_wp2_with fail
    exact bodyPost_ret (v := .tuple #[v1, .int .i64 0]) (by simp [results, Tryd.results16, go_sem]) rfl ⟨v1, rfl, hr1, k1⟩
  · by_cases h2 : h = 2
    · subst h2
      have J := fun W (k : Kept Nought w W) => r12SumR true v bs W (hb.grew k) hbd hl
      clear hb
      go_enter Tryd.func16, Tryd.ntmps16
      go_wp2_with fail
      refine (J _ (by first | exact Kept.refl _ _ | exact (Kept.refl _ _).drew)).mono ?_
      rintro e w1 ⟨v1, rfl, hr1, k1⟩
      clear J
      go_wp2_with fail
      exact bodyPost_ret (v := .tuple #[v1, .int .i64 0]) (by simp [results, Tryd.results16, go_sem]) rfl ⟨v1, rfl, hr1, k1⟩
    · by_cases h3 : h = 3
      · subst h3
        have J := fun W (k : Kept Nought w W) => r12SumR false v bs W (hb.grew k) hbd hl
        clear hb
        go_enter Tryd.func16, Tryd.ntmps16
        go_wp2_with fail
        refine (J _ (by first | exact Kept.refl _ _ | exact (Kept.refl _ _).drew)).mono ?_
        rintro e w1 ⟨v1, rfl, hr1, k1⟩
        clear J
        go_wp2_with fail
        exact bodyPost_ret (v := .tuple #[v1, .int .i64 0]) (by simp [results, Tryd.results16, go_sem]) rfl ⟨v1, rfl, hr1, k1⟩
      · have e1 : hshE h = 130 := by unfold hshE; rw [if_neg]; rintro (h | h | h) <;> contradiction
        have e2 : hshN h bs = [] := by unfold hshN; rw [if_neg h1, if_neg h2, if_neg h3]
        rw [e1, e2]
        clear e1 e2 hb
        go_enter Tryd.func16, Tryd.ntmps16
        go_wp2_with fail
        exact bodyPost_ret (v := .tuple #[.slice none 0 0, .int .i64 130]) (by simp [results, Tryd.results16, go_sem]) rfl ⟨.slice none 0 0, rfl, OwnB.nil _ _, by first | exact Kept.refl _ _ | exact (Kept.refl _ _).drew⟩

end Go.Proofs.YthnkganmccgaeaaDoor
