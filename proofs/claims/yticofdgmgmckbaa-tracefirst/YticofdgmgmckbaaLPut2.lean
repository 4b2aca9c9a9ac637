/- What the statements' own put and clean answer, for any event and any trace. -/
import Derived.Test.YticofdgmgmckbaaTCalls
namespace Go.Proofs.Yticofdgmgmckbaa
open Go.RowKit

attribute [local go_sem ↓] Go.wp_at_zero Go.wp_at_succ

/-- An event as its call writes it. -/
def cleanE (e : Ev) : Ev := if e.1 = 1 then (1, e.2.1, 0) else if e.1 = 2 then (if e.2.1 = 1 then (2, 1, 0) else (2, 0, 0)) else (3, e.2.1, e.2.2)

theorem kept2 (w : World) (A B : Obj) : Kept Nought w ((w.alloc A).alloc B) := ((Kept.refl Nought w).alloc A).alloc B

set_option maxHeartbeats 400000 in
theorem lClean (e : Ev) (w : World) : Calls Try.prog 10 #[evVal e] w fun r w' => r = .returned (evVal (cleanE e)) ∧ Kept Nought w w' := by
  obtain ⟨k, x, y⟩ := e
  unfold evVal cleanE
  dsimp only
  by_cases h1 : k = 1
  · rw [if_pos h1]
    subst h1
    go_enter Try.func10, Try.ntmps10
    go_wp2
    exact bodyPost_ret (v := .agg #[.int .i64 1, .int .i64 x, .int .i64 0]) (by simp [results, Try.results10, go_sem]) rfl ⟨rfl, kept2 _ _ _⟩
  · rw [if_neg h1]
    by_cases h2 : k = 2
    · rw [if_pos h2]
      subst h2
      by_cases h3 : x = 1
      · rw [if_pos h3]
        subst h3
        go_enter Try.func10, Try.ntmps10
        go_wp2
        exact bodyPost_ret (v := .agg #[.int .i64 2, .int .i64 1, .int .i64 0]) (by simp [results, Try.results10, go_sem]) rfl ⟨rfl, kept2 _ _ _⟩
      · rw [if_neg h3]
        go_enter Try.func10, Try.ntmps10
        go_wp2
        exact bodyPost_ret (v := .agg #[.int .i64 2, .int .i64 0, .int .i64 0]) (by simp [results, Try.results10, go_sem]) rfl ⟨rfl, kept2 _ _ _⟩
    · rw [if_neg h2]
      go_enter Try.func10, Try.ntmps10
      go_wp2
      exact bodyPost_ret (v := .agg #[.int .i64 3, .int .i64 x, .int .i64 y]) (by simp [results, Try.results10, go_sem]) rfl ⟨rfl, kept2 _ _ _⟩

theorem wrote_box {w w' : World} {o : Tr} {X : Obj} {m : List Ev} (h : TrIn w o) (hw : Wrote ((w.alloc X).drew) m w' o) : w'.heap[w.heap.size]? = some X := by
  rw [hw.block w.heap.size (by simp) (fun f => by have := h.foot _ f; omega)]
  exact heapAt_drew (Go.heap_alloc_new w X)

theorem grew_box (w : World) (X : Obj) : Kept Nought w ((w.alloc X).drew) := ((Kept.refl Nought w).alloc X).drew

set_option maxRecDepth 100000 in
set_option maxHeartbeats 400000 in
theorem lPut (o : Tr) (e : Ev) (w : World) (h : TrIn w o) : Calls Try.prog 9 #[trPtr o, evVal e] w fun r w' => r = .returned (.bool true) ∧ Wrote w [cleanE e] w' o := by
  obtain ⟨k, x, y⟩ := e
  unfold evVal cleanE
  dsimp only
  have hs := fun X n => tSpan o n (w.alloc X) (h.grew ((Kept.refl Nought w).alloc X))
  have hb := fun X b => tBranch o b (w.alloc X).drew (h.grew (grew_box w X))
  have hi := fun X i n => tIndex o i n (w.alloc X).drew (h.grew (grew_box w X))
  have H : Hid (TrIn w o) := h
  clear h
  generalize trPtr o = tp at *
  by_cases h1 : k = 1
  · rw [if_pos h1]
    subst h1
    clear hb hi
    go_enter Try.func9, Try.ntmps9
    go_wp2_with fail
    refine (hs _ _).mono ?_
    rintro e w' ⟨rfl, hw⟩
    go_wp2
    go_ret
    exact ⟨rfl, Wrote.after ((Kept.refl Nought w).alloc _) hw⟩
  · rw [if_neg h1]
    clear hs
    by_cases h2 : k = 2
    · rw [if_pos h2]
      subst h2
      clear hi
      by_cases h3 : x = 1
      · rw [if_pos h3]
        subst h3
        go_enter Try.func9, Try.ntmps9
        go_wp2_with fail
        go_region_held3 (fun w' => w'.cell? ⟨w.heap.size, 1, none⟩ = some (.int .i64 1)) (go_keep)
          (first
            | (go_at_call 20; refine (hb _ true).mono ?_; rintro e w' ⟨rfl, hw⟩; have hx := wrote_box H.out hw; have b1 := (cell_of_row w' _ 1 _ _ _ hx).trans rfl))
        all_goals
          go_wp2
          go_ret
          exact ⟨rfl, Wrote.after (grew_box _ _) hw⟩
      · rw [if_neg h3]
        have hd : (x == 1) = false := by simpa using h3
        have hd' : decide (x = 1) = false := by simpa using h3
        go_enter Try.func9, Try.ntmps9
        go_wp2_with fail
        go_region_held3 (fun w' => w'.cell? ⟨w.heap.size, 1, none⟩ = some (.int .i64 x)) (go_keep)
          (first
            | (go_at_call 20; refine (hb _ false).mono ?_; rintro e w' ⟨rfl, hw⟩; have hx := wrote_box H.out hw; have b1 := (cell_of_row w' _ 1 _ _ _ hx).trans rfl))
        all_goals
          go_wp2
          go_ret
          exact ⟨rfl, Wrote.after (grew_box _ _) hw⟩
    · rw [if_neg h2]
      clear hb
      go_enter Try.func9, Try.ntmps9
      go_wp2_with fail
      go_region_held3 (fun w' => w'.cell? ⟨w.heap.size, 1, none⟩ = some (.int .i64 x) ∧ w'.cell? ⟨w.heap.size, 2, none⟩ = some (.int .i64 y)) (go_keep)
        (first
          | (go_at_call 19; refine (hi _ x y).mono ?_; rintro e w' ⟨rfl, hw⟩; have hx := wrote_box H.out hw; have b1 := (cell_of_row w' _ 1 _ _ _ hx).trans rfl; have b2 := (cell_of_row w' _ 2 _ _ _ hx).trans rfl))
      all_goals
        go_wp2
        go_ret
        exact ⟨rfl, Wrote.after (grew_box _ _) hw⟩

end Go.Proofs.Yticofdgmgmckbaa
