/- What trace.New, Many, Sum and mix answer, for any trace and any numbers. -/
import Derived.Test.YtnjmckfkfkalgabEvs
namespace Go.Proofs.Ytnjmckfkfkalgab
open Go.RowKit

/-- A new trace's cells. -/
abbrev newTr : Obj := .cells #[.slice none 0 0, .int .i64 0, .int .u64 0] 51

theorem newTr_is (w : World) : IsTr (w.alloc newTr) w.heap.size none [] :=
  ⟨_, _, heap_alloc_new w _, rfl, EvRow.nil _, fun h => absurd rfl h⟩

set_option maxHeartbeats 400000 in
theorem tNew (w : World) : Calls Try.prog 15 #[] w fun e w' => e = .returned (.pointer (some ⟨w.heap.size, 0, none⟩)) ∧ w' = w.alloc newTr := by
  go_enter Try.func15, Try.ntmps15
  go_wp2
  go_ret
  exact ⟨rfl, rfl⟩

set_option maxHeartbeats 400000 in
theorem tMany (o : Tr) (w : World) (h : TrIn w o) : Calls Try.prog 32 #[trPtr o] w fun e w' => e = .returned (.int .i64 ((trEvs o).length : Nat)) ∧ w' = w := by
  cases o with
  | none =>
    unfold trPtr trEvs
    go_enter Try.func32, Try.ntmps32
    go_wp2
    go_ret
    exact ⟨rfl, rfl⟩
  | some x =>
    obtain ⟨p, g, l⟩ := x
    obtain ⟨⟨v, s, hp, _⟩, _⟩ := h
    have c1 : w.cell? ⟨p, 1, none⟩ = some (.int .i64 (l.length : Nat)) := by rw [cell_of_row w p 1 _ _ _ hp]; rfl
    clear hp
    unfold trPtr trEvs
    generalize l.length = n at *
    go_enter Try.func32, Try.ntmps32
    go_wp2
    go_ret
    exact ⟨rfl, rfl⟩

set_option maxHeartbeats 400000 in
theorem tSum (o : Tr) (w : World) (h : TrIn w o) : Calls Try.prog 33 #[trPtr o] w fun e w' => e = .returned (.int .u64 (evSum (trEvs o))) ∧ w' = w := by
  by_cases h0 : trEvs o = []
  · have hm := tMany o w h
    rw [h0] at hm ⊢
    go_enter Try.func33, Try.ntmps33
    go_wp2_with fail
    refine hm.mono ?_
    rintro e w' ⟨rfl, rfl⟩
    go_wp2
    go_ret
    exact ⟨rfl, rfl⟩
  · have hm := tMany o w h
    cases o with
    | none => exact absurd rfl h0
    | some x =>
      obtain ⟨p, g, l⟩ := x
      obtain ⟨⟨v, s, hp, _, _, hs⟩, _⟩ := h
      have c1 : w.cell? ⟨p, 2, none⟩ = some (.int .u64 s) := by rw [cell_of_row w p 2 _ _ _ hp]; rfl
      obtain rfl := hs h0
      clear hp hs
      unfold trEvs at h0 hm ⊢
      unfold trPtr at hm ⊢
      have hl : (l.length : Int) ≠ 0 := by
        have : l.length ≠ 0 := fun e => h0 (List.eq_nil_of_length_eq_zero e)
        omega
      generalize l.length = n at *
      generalize evSum l = s at *
      go_enter Try.func33, Try.ntmps33
      go_wp2_with fail
      refine hm.mono ?_
      rintro e w' ⟨rfl, rfl⟩
      go_wp2
      go_ret
      exact ⟨rfl, rfl⟩

set_option maxHeartbeats 400000 in
/-- Sum, by the trace's own cells alone. -/
theorem tSumAt (p : Nat) (v : Value) (n : Nat) (s r : Int) (w : World) (hp : w.heap[p]? = some (.cells #[v, .int .i64 n, .int .u64 s] 51 (0, 0)))
    (hr : (n = 0 ∧ r = 14695981039346656037) ∨ (n ≠ 0 ∧ r = s)) :
    Calls Try.prog 33 #[.pointer (some ⟨p, 0, none⟩)] w fun e w' => e = .returned (.int .u64 r) ∧ w' = w := by
  have c1 : w.cell? ⟨p, 1, none⟩ = some (.int .i64 n) := by rw [cell_of_row w p 1 _ _ _ hp]; rfl
  have c2 : w.cell? ⟨p, 2, none⟩ = some (.int .u64 s) := by rw [cell_of_row w p 2 _ _ _ hp]; rfl
  clear hp
  have hm : Calls Try.prog 32 #[.pointer (some ⟨p, 0, none⟩)] w fun e w' => e = .returned (.int .i64 n) ∧ w' = w := by
    go_enter Try.func32, Try.ntmps32
    go_wp2
    go_ret
    exact ⟨rfl, rfl⟩
  rcases hr with ⟨rfl, rfl⟩ | ⟨h0, rfl⟩
  · go_enter Try.func33, Try.ntmps33
    go_wp2_with fail
    refine hm.mono ?_
    rintro e w' ⟨rfl, rfl⟩
    go_wp2
    go_ret
    exact ⟨rfl, rfl⟩
  · have h1 : (n : Int) ≠ 0 := by omega
    go_enter Try.func33, Try.ntmps33
    go_wp2_with fail
    refine hm.mono ?_
    rintro e w' ⟨rfl, rfl⟩
    go_wp2
    go_ret
    exact ⟨rfl, rfl⟩

set_option maxHeartbeats 400000 in
theorem tMix (s : Int) (e : Ev) (b : Nat) (w : World) (h : w.heap[b]? = some (.cells (evCells e).toArray 3 (0, 0))) :
    Calls Try.prog 39 #[.int .u64 s, .slice (some ⟨b, 0, none⟩) 3 3] w fun r w' => r = .returned (.int .u64 (mixE s e)) ∧ w' = w := by
  obtain ⟨k, x, y⟩ := e
  have c0 : w.cell? ⟨b, 0, none⟩ = some (.int .i64 k) := by rw [cell_of_row w b 0 _ _ _ h]; rfl
  have c1 : w.cell? ⟨b, 1, none⟩ = some (.int .i64 x) := by rw [cell_of_row w b 1 _ _ _ h]; rfl
  have c2 : w.cell? ⟨b, 2, none⟩ = some (.int .i64 y) := by rw [cell_of_row w b 2 _ _ _ h]; rfl
  clear h
  have hm : mixE s (k, x, y) = mix1 (mix1 (mix1 s k) x) y := rfl
  rw [hm]
  clear hm
  go_enter Try.func39, Try.ntmps39
  go_wp2_with fail
  go_loop [0, 9] (fun t i => (i = .int .i64 0 ∧ t = .int .u64 s) ∨ (i = .int .i64 1 ∧ t = .int .u64 (mix1 s k)) ∨ (i = .int .i64 2 ∧ t = .int .u64 (mix1 (mix1 s k) x)) ∨ (i = .int .i64 3 ∧ t = .int .u64 (mix1 (mix1 (mix1 s k) x) y))) (fun _ i => (3 - intOf i).toNat)
  case atStart => exact .inl ⟨rfl, rfl⟩
  case round =>
    rcases hrel with ⟨rfl, rfl⟩ | ⟨rfl, rfl⟩ | ⟨rfl, rfl⟩ | ⟨rfl, rfl⟩
    · go_wp2
      go_round
      case rel => exact .inr (.inl ⟨by go_num, by simp [mix1, IntKind.wrap_u64]⟩)
      case measure => simp [intOf]
    · go_wp2
      go_round
      case rel => exact .inr (.inr (.inl ⟨by go_num, by simp [mix1, IntKind.wrap_u64]⟩))
      case measure => simp [intOf]
    · go_wp2
      go_round
      case rel => exact .inr (.inr (.inr ⟨by go_num, by simp [mix1, IntKind.wrap_u64]⟩))
      case measure => simp [intOf]
    · go_wp2
      go_ret
      exact ⟨rfl, rfl⟩

end Go.Proofs.Ytnjmckfkfkalgab
