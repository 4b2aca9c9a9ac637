/- The statements' own first test of layer 2 returns true. -/
import Derived.Test.YticofdgmgmckbaaLSame
namespace Go.Proofs.Yticofdgmgmckbaa
open Go.RowKit

theorem Wrote.tr {w w' : World} {p : Nat} {g : Option Nat} {l m : List Ev} (h : Wrote w m w' (some (p, g, l))) (hb : (l ++ m).length < 1000000000000) :
    Kept (fun k => k = p ∨ g = some k) w w' ∧ ∃ g', TrIn w' (some (p, g', l ++ m)) ∧ (g' = g ∨ ∃ x, g' = some x ∧ w.heap.size ≤ x) := by
  obtain ⟨h1, g', h2, h3⟩ := h
  exact ⟨h1, g', ⟨h2, hb⟩, h3⟩

theorem newTr_in (w : World) : TrIn (w.alloc newTr) (some (w.heap.size, none, [])) := ⟨newTr_is w, by simp⟩

set_option maxHeartbeats 400000 in
theorem lAwake (w : World) : Calls Try.prog 7 #[] w fun r w' => r = .returned (.bool true) ∧ Kept Nought w w' := by
  have hgd := Try.noGuard27
  have hq := fun w => ev_alike w 3 3 16 3 3 16
  rw [decide_eq_true rfl] at hq
  go_enter Try.func7, Try.ntmps7
  go_wp2_with fail
  refine (tNew _).mono ?_
  rintro e w' ⟨rfl, rfl⟩
  go_wp2_with fail
  refine (tIndex (some (w.heap.size, none, [])) 3 16 _ (newTr_in w)).mono ?_
  rintro e w1 ⟨rfl, hw⟩
  obtain ⟨k1, g1, t1, _⟩ := hw.tr (by simp)
  have k1' : Kept Nought w w1 := ((Kept.refl Nought w).alloc _).next k1 (fun x hx h => by rcases h with h | h <;> first | omega | cases h)
  clear hw k1
  go_wp2_with fail
  refine (tEvents (some (w.heap.size, g1, [(3, 3, 16)])) _ t1).mono ?_
  rintro e w2 ⟨v, rfl, r2, _, k2⟩
  have r3 : EvRow w2 v [(3, 3, 16)] := r2
  obtain ⟨ao, cap, rfl, hv⟩ := r3.view
  obtain ⟨g, x, y, z, rfl, c0, c1, c2, h3⟩ := hv 0 (by simp)
  have h3' : some ((3 : Int), (3 : Int), (16 : Int)) = some (x, y, z) := h3.out
  simp only [Option.some.injEq, Prod.mk.injEq] at h3'
  obtain ⟨rfl, rfl, rfl⟩ := h3'
  simp only [Nat.zero_mul, Nat.zero_add] at c0 c1 c2
  clear h3 hv r2 r3
  simp only [List.length_cons, List.length_nil, Nat.zero_add]
  go_wp2
  go_ret
  exact ⟨rfl, k1'.trans k2⟩

end Go.Proofs.Yticofdgmgmckbaa
