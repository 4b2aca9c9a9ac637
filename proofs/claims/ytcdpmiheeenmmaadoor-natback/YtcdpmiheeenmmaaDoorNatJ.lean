/- Package nat: layAtEnd: the end of a word's bytes, laid at the end of a row's beginning. -/
import Derived.Test.YtcdpmiheeenmmaaDoorPutN
import Derived.Deep.RegionLaw
namespace Go.Proofs.YtcdpmiheeenmmaaDoor
open Go.RowKit Go.Shelf

set_option maxRecDepth 20000 in
set_option maxHeartbeats 1000000 in
/-- layAtEnd, where there is room. -/
theorem nLay (g p r cap many : Nat) (cur cs : List Value) (tg : TypeId) (w : World) (hr : 0 < r) (hrc : r ≤ cap) (hcm : cap ≤ 100000) (hm : many = min r 8) (hg : w.heap[g]? = some (.cells cur.toArray tg (0, 0))) (hcur : cur.length = cap) (hcs : cs.length = many)
    (hp : ∀ j u, cs[j]? = some u → w.cell? ⟨p, 8 - many + j, none⟩ = some u) (h1 : ∀ u ∈ cs, u.oneCell' = true) :
    Calls Tryd.prog 37 #[.slice (some ⟨g, 0, none⟩) r cap, .slice (some ⟨p, 0, none⟩) 8 8] w fun e w' => e = .returned (.slice (some ⟨g, 0, none⟩) (r - many) cap) ∧ w'.heap[g]? = some (.cells (splice cur (r - many) cs).toArray tg (0, 0)) ∧ Kept (fun b => b = g) w w' := by
  obtain ⟨i0, hi0, hz0, hz1, hz2⟩ := info_parts Tryd.info5
  have a1 : min (r : Int) 8 = (many : Int) := by omega
  have m1 : many ≤ r := by omega
  have m2 : many ≤ 8 := by omega
  have m3 : 0 < many := by omega
  obtain ⟨w2, hrun, hb2, k2⟩ := run_copy_part (P := Tryd.prog) (w := w.drew) 22 22 3 5 g (r - many) (r - (r - many)) (cap - (r - many)) (some ⟨g, r - many, none⟩) (some ⟨p, 8 - many, none⟩) (8 - (8 - many)) (8 - (8 - many)) cur tg cs Tryd.underlying22 (by rw [hi0]; simp [hz1]) hg (by rw [hcs]; show many = min _ _; omega) (fun _ => ⟨rfl, _, rfl, fun j u hu => by rw [show (⟨p, 8 - many, none⟩ : Addr).add j = ⟨p, 8 - many + j, none⟩ by simp [Addr.add]]; exact hp j u hu⟩) (by omega) h1
  have HB : Hid (w2.heap[g]? = some (.cells (splice cur (r - many) cs).toArray tg (0, 0))) := hb2
  have hk : Kept (fun b => b = g) w w2 := ⟨k2.os, k2.tape, k2.output, k2.size, k2.block⟩
  clear hp hg hb2 h1 hm hcs k2
  go_enter Tryd.func37, Tryd.ntmps37
  go_wp2_with fail
  go_region
  go_wp2
  go_ret
  exact ⟨rfl, HB.out, hk⟩

set_option maxRecDepth 20000 in
set_option maxHeartbeats 1000000 in
/-- layAtEnd, where there is no room. -/
theorem nLay0 (g p cap : Nat) (w : World) (hcm : cap ≤ 100000) :
    Calls Tryd.prog 37 #[.slice (some ⟨g, 0, none⟩) 0 cap, .slice (some ⟨p, 0, none⟩) 8 8] w fun e w' => e = .returned (.slice (some ⟨g, 0, none⟩) 0 cap) ∧ w'.heap[g]? = w.heap[g]? ∧ Kept Nought w w' := by
  obtain ⟨i0, hi0, hz0, hz1, hz2⟩ := info_parts Tryd.info5
  have hrun := fun d a dc sc => run_copy_none (P := Tryd.prog) w.drew 22 22 3 5 d a 0 dc 0 sc Tryd.underlying22 (by rw [hi0]; simp [hz1]) rfl
  have a1 : min (0 : Int) 8 = 0 := by omega
  by_cases hc : cap = 0
  · subst hc
    go_enter Tryd.func37, Tryd.ntmps37
    go_wp2_with fail
    go_region
    go_wp2
    go_ret
    exact ⟨rfl, rfl, (Kept.refl _ _).drew⟩
  · have hc1 : ¬ (0 : Nat) = cap := by omega
    go_enter Tryd.func37, Tryd.ntmps37
    go_wp2_with fail
    go_region
    go_wp2
    go_ret
    exact ⟨rfl, rfl, (Kept.refl _ _).drew⟩

end Go.Proofs.YtcdpmiheeenmmaaDoor
