/- Copying a row of events that is known into a row of the call's own, as long as it. -/
import Derived.Test.YtpgccioblgcjaaaTra1
namespace Go.Proofs.Ytpgccioblgcjaaa
open Go.RowKit

theorem run_copy_wide {P : Program} (w : World) (dT sT ty elem : TypeId) (sz g n cap m : Nat) (a : Addr) (cur : Array Value) (t : TypeId) (cs : List Value)
    (hu : P.underlying dT = some (.slice elem)) (hs : (P.info? elem).map (·.size) = some sz) (hg : w.heap[g]? = some (.cells cur t (0, 0))) (hcs : cs.length = n * sz)
    (hsrc : ∀ j v, cs[j]? = some v → w.cell? (a.add j) = some v) (hfit : cs.length = cur.size) (h1 : ∀ v ∈ cs, v.oneCell' = true) :
    (Builtin.copy_ #[dT, sT] ty #[.slice (some ⟨g, 0, none⟩) n m, .slice (some a) n cap]).run P w = .ok (goInt n) (w.setRow g cs.toArray) := by
  have hl := run_loadCells_list (P := P) w a cs hsrc
  have hst := run_storeCells_at P g 0 t cs 0 cur w hg (by simp; omega) h1
  cases hq : P.info? elem with
  | none => simp [hq] at hs
  | some i =>
    have hi : i.size = sz := by simpa [hq] using hs
    have hd : cur.toList.drop (0 + 0 + cs.length) = [] := List.drop_eq_nil_of_le (by simp; omega)
    simp only [hd] at hst
    simp [Builtin.copy_, run_underlying hu, Builtin.lenOf, Builtin.firstCells, sizeOf, typeInfo, hq, hi, ← hcs, hl, hst]

theorem run_copy_empty {P : Program} (w : World) (dT sT ty elem : TypeId) (sz : Nat) (da sa : Option Addr) (dm sm : Nat)
    (hu : P.underlying dT = some (.slice elem)) (hs : (P.info? elem).map (·.size) = some sz) :
    (Builtin.copy_ #[dT, sT] ty #[.slice da 0 dm, .slice sa 0 sm]).run P w = .ok (goInt 0) w := by
  cases hq : P.info? elem with
  | none => simp [hq] at hs
  | some i => cases da <;> cases sa <;> simp [Builtin.copy_, run_underlying hu, Builtin.lenOf, Builtin.firstCells, sizeOf, typeInfo, hq, storeCells, loadCells, loadCellsFrom]

/-- A row of events over a row of the call's own, as long as it. -/
theorem run_copy_own {P : Program} {w : World} (dT sT ty elem : TypeId) (sz g n : Nat) (v : Value) (xs ys : List Value) (hu : P.underlying dT = some (.slice elem)) (hsz : (P.info? elem).map (·.size) = some sz)
    (hg : w.ownsRow g elem sz (.slice (some ⟨g, 0, none⟩) n n) n ys) (hv : w.ownsRow 0 elem sz v n xs) (h1 : ∀ v ∈ xs, v.oneCell' = true) :
    ∃ w', (Builtin.copy_ #[dT, sT] ty #[.slice (some ⟨g, 0, none⟩) n n, v]).run P w = .ok (goInt n) w' ∧ w'.ownsRow g elem sz (.slice (some ⟨g, 0, none⟩) n n) n xs ∧ Kept (fun b => b = g) w w' := by
  rcases hg.2 with ⟨h', _⟩ | ⟨g', cap', cur, h', _, hgg, _, hcm, hcs, _⟩
  · simp at h'
  · simp only [Value.slice.injEq, Option.some.injEq, Addr.mk.injEq, and_true, true_and] at h'
    obtain ⟨rfl, rfl⟩ := h'
    rcases hv.2 with ⟨rfl, rfl⟩ | ⟨g2, cap2, cur2, rfl, _, hg2, hnc, _, hcs2, htake⟩
    · have hx : xs = [] := List.eq_nil_of_length_eq_zero (by simpa using hv.1)
      subst hx
      have hy : ys = [] := List.eq_nil_of_length_eq_zero (by simpa using hg.1)
      subst hy
      exact ⟨w, run_copy_empty (P := P) w dT sT ty elem sz (some ⟨g, 0, none⟩) none 0 0 hu hsz, hg, Kept.refl _ _⟩
    · have hcells := World.ownsRow.cells hv (g := g2) rfl
      refine ⟨_, run_copy_wide (P := P) w dT sT ty elem sz g n cap2 n ⟨g2, 0, none⟩ cur elem xs hu hsz hgg hv.1 hcells (by rw [hv.1, hcs]) h1, ?_, ?_⟩
      · refine ⟨hv.1, .inr ⟨g, n, xs.toArray, rfl, Nat.le_refl _, setRow_heap w g cur _ elem _ hgg, Nat.le_refl _, hcm, by simpa using hv.1, ?_⟩⟩
        simpa using List.take_of_length_le (by rw [hv.1]; exact Nat.le_refl _)
      · exact ⟨rfl, rfl, rfl, by simp, fun k _ hk => setRow_other w g k _ hk⟩

end Go.Proofs.Ytpgccioblgcjaaa
