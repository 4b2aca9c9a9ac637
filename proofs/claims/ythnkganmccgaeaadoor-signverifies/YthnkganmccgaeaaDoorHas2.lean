/- Layer 13 (hash): Sum; its tables. -/
import Derived.Test.YthnkganmccgaeaaDoorHsh3
import Derived.Test.YthnkganmccgaeaaDoorShx8
import Derived.Test.YthnkganmccgaeaaDoorShc8
namespace Go.Proofs.YthnkganmccgaeaaDoor
open Go.RowKit

/-- The tables of both hashes. -/
structure TabH (w : World) : Prop where
  t11 : Tab11 w
  t12 : Tab12 w

theorem TabH.grew {w w' : World} (h : TabH w) (k : Kept Nought w w') : TabH w' := ⟨h.t11.grew k, h.t12.grew k⟩

set_option maxRecDepth 20000 in
set_option maxHeartbeats 1000000 in
/-- Sum. -/
theorem z13Sum (h : Int) (v : Value) (bs : List Nat) (w : World) (hT : TabH w) (hb : Row .u8 w v bs) (hbd : Digs 256 bs) (hl : bs.length ≤ 1000000) :
    Calls Tryd.prog 14 #[.int .i64 h, v] w fun e w' => ∃ v', e = .returned (.tuple #[v', .int .i64 (hshE h : Nat)]) ∧ Row .u8 w' v' (hshN h bs) ∧ (∀ b, v'.ownBlock = some b → w.heap.size ≤ b) ∧ Kept Nought w w' := by
  by_cases h1 : h = 1
  · subst h1
    have J := fun W (k : Kept Nought w W) => hSum v bs W (hT.t11.grew k) (hb.grew k) hbd hl
    clear hb hT
    go_enter Tryd.func14, Tryd.ntmps14
    go_wp2_with fail
    refine (J _ (by first | exact Kept.refl _ _ | exact (Kept.refl _ _).drew)).mono ?_
    rintro e w1 ⟨v1, rfl, hr1, hf1, k1⟩
    clear J
    go_wp2_with fail
    exact bodyPost_ret (v := .tuple #[v1, .int .i64 0]) (by simp [results, Tryd.results14, go_sem]) rfl ⟨v1, rfl, hr1, hf1, k1⟩
  · by_cases h2 : h = 2
    · subst h2
      have J := fun W (k : Kept Nought w W) => mSum384 v bs W (hT.t12.grew k) (hb.grew k) hbd hl
      clear hb hT
      go_enter Tryd.func14, Tryd.ntmps14
      go_wp2_with fail
      refine (J _ (by first | exact Kept.refl _ _ | exact (Kept.refl _ _).drew)).mono ?_
      rintro e w1 ⟨v1, rfl, hr1, k1⟩
      clear J
      go_wp2_with fail
      exact bodyPost_ret (v := .tuple #[v1, .int .i64 0]) (by simp [results, Tryd.results14, go_sem]) rfl ⟨v1, rfl, hr1.row, fun b hb => (hr1.lt b hb).1, k1⟩
    · by_cases h3 : h = 3
      · subst h3
        have J := fun W (k : Kept Nought w W) => mSum v bs W (hT.t12.grew k) (hb.grew k) hbd hl
        clear hb hT
        go_enter Tryd.func14, Tryd.ntmps14
        go_wp2_with fail
        refine (J _ (by first | exact Kept.refl _ _ | exact (Kept.refl _ _).drew)).mono ?_
        rintro e w1 ⟨v1, rfl, hr1, k1⟩
        clear J
        go_wp2_with fail
        exact bodyPost_ret (v := .tuple #[v1, .int .i64 0]) (by simp [results, Tryd.results14, go_sem]) rfl ⟨v1, rfl, hr1.row, fun b hb => (hr1.lt b hb).1, k1⟩
      · have e1 : hshE h = 130 := by unfold hshE; rw [if_neg]; rintro (h | h | h) <;> contradiction
        have e2 : hshN h bs = [] := by unfold hshN; rw [if_neg h1, if_neg h2, if_neg h3]
        rw [e1, e2]
        clear e1 e2 hb hT
        go_enter Tryd.func14, Tryd.ntmps14
        go_wp2_with fail
        exact bodyPost_ret (v := .tuple #[.slice none 0 0, .int .i64 130]) (by simp [results, Tryd.results14, go_sem]) rfl ⟨.slice none 0 0, rfl, (OwnB.nil _ w.heap.size).row, (fun b hb => by cases hb), by first | exact Kept.refl _ _ | exact (Kept.refl _ _).drew⟩

end Go.Proofs.YthnkganmccgaeaaDoor
