/- What trace's write, Span, Branch and Index leave and answer, for any trace, nil too. -/
import Derived.Test.YtnjmckfkfkalgabTRoom
namespace Go.Proofs.Ytnjmckfkfkalgab
open Go.RowKit

/-- The value of an event. -/
def evVal (e : Ev) : Value := .agg #[.int .i64 e.1, .int .i64 e.2.1, .int .i64 e.2.2]

theorem sum_of {l : List Ev} {s : Int} (hs : l ≠ [] → s = evSum l) : (l.length = 0 ∧ evSum l = 14695981039346656037) ∨ (l.length ≠ 0 ∧ evSum l = s) := by
  by_cases h : l = []
  · subst h; exact .inl ⟨rfl, rfl⟩
  · exact .inr ⟨fun e => h (List.eq_nil_of_length_eq_zero e), (hs h).symm⟩

theorem take_all (l : List Ev) (h : l.length < 1000) : l.take 1000 = l := List.take_of_length_le (by omega)

theorem take_snoc_room (l : List Ev) (e : Ev) (h : l.length < 1000) : (l ++ [e]).take 1000 = l ++ [e] := List.take_of_length_le (by simp; omega)

theorem take_snoc_full (l : List Ev) (e : Ev) (h : 1000 ≤ l.length) : (l ++ [e]).take 1000 = l.take 1000 := List.take_append_of_le_length h

theorem tWrite (o : Tr) (e : Ev) (w : World) (h : TrIn w o) :
    Calls Try.prog 31 #[trPtr o, evVal e] w fun r w' => r = .returned (.tuple #[]) ∧ Wrote w [e] w' o := by
  obtain ⟨k, x, y⟩ := e
  cases o with
  | none =>
    refine (tWriteNil k x y w).mono ?_
    rintro r w' ⟨rfl, rfl⟩
    exact ⟨rfl, (Kept.refl Nought w).alloc _⟩
  | some q =>
    obtain ⟨p, g, l⟩ := q
    obtain ⟨⟨v, s, hp, hg, hr, hs⟩, hl⟩ := h
    by_cases hf : l.length < 1000
    · have ht := take_all l hf
      unfold EvRow at hr
      rw [ht] at hr
      obtain ⟨ao, cap, hv⟩ := own_slice hr
      refine (tWriteRoom p v ao cap l.length (evsCells l) s (evSum l) k x y w hf hv hp hr (sum_of hs)).mono ?_
      rintro r w' ⟨rfl, g', c', hp', ho', hat, hk⟩
      refine ⟨rfl, ?_⟩
      rw [hg] at hat hk
      refine ⟨hk, some g', ⟨_, _, by simpa using hp', rfl, ?_, fun _ => (evSum_snoc l _).symm⟩, ?_⟩
      · unfold EvRow
        rw [take_snoc_room l _ hf, evsCells_append]
        simpa [evsCells] using ho'
      · rcases hat with h | h
        · exact .inl h.symm
        · exact .inr ⟨g', rfl, h⟩
    · have hlen : (l.take 1000).length = 1000 := by rw [List.length_take]; omega
      have hr' : w.ownsRow 0 58 3 v 1000 (evsCells (l.take 1000)) := by rw [← hlen]; rw [hlen]; unfold EvRow at hr; rw [hlen] at hr; exact hr
      obtain ⟨ao, cap, rfl⟩ := own_slice hr'
      refine (tWriteFull p ao cap l.length s (evSum l) k x y w hl hp (sum_of hs)).mono ?_
      rintro r w' ⟨rfl, hp', hk⟩
      refine ⟨rfl, hk.mono (fun _ _ h => .inl h), g, ⟨_, _, by simpa using hp', hg, ?_, fun _ => (evSum_snoc l _).symm⟩, .inl rfl⟩
      rw [take_snoc_full l _ (by omega)]
      refine EvRow.kept hr hk fun b hb e => ?_
      subst e
      exact row_ne hr hp (by decide) hb.symm

set_option maxHeartbeats 400000 in
theorem tSpan (o : Tr) (n : Int) (w : World) (h : TrIn w o) :
    Calls Try.prog 22 #[trPtr o, .int .i64 n] w fun r w' => r = .returned (.tuple #[]) ∧ Wrote w [(1, n, 0)] w' o := by
  have hc := tWrite o (1, n, 0) w h
  unfold evVal at hc
  generalize trPtr o = tp at *
  go_enter Try.func22, Try.ntmps22
  go_wp2_with fail
  refine hc.mono ?_
  rintro e w' ⟨rfl, hw⟩
  go_wp2
  go_end0
  exact ⟨rfl, hw⟩

end Go.Proofs.Ytnjmckfkfkalgab
