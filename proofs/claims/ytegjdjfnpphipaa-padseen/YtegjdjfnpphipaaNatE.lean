/- Package nat: Compare, walked. -/
import Derived.Test.YtegjdjfnpphipaaLays
import Derived.Test.YtegjdjfnpphipaaNatD
namespace Go.Proofs.Ytegjdjfnpphipaa
open Go.RowKit Go.Shelf

attribute [local go_sem] Oper.semAt_some

theorem downIdx_mem {L r j : Nat} : j ∈ downIdx L r ↔ r ≤ j ∧ j < L := by
  unfold downIdx
  simp only [List.mem_map, List.mem_range]
  constructor
  · rintro ⟨i, hi, rfl⟩; omega
  · rintro ⟨h1, h2⟩; exact ⟨L - 1 - j, by omega, by omega⟩

theorem mem_down {L r : Nat} {pre : List (Fin L)} (h : pre.map Fin.val = downIdx L r) {j : Nat} (h1 : r ≤ j) (h2 : j < L) : ∃ x ∈ pre, x.val = j := by
  have : j ∈ pre.map Fin.val := by rw [h]; exact downIdx_mem.2 ⟨h1, h2⟩
  simpa using this

/-- What came last. -/
theorem down_last {L r : Nat} {ini : List (Fin L)} {x : Fin L} (hr : r < L) (h : (ini ++ [x]).map Fin.val = downIdx L r) : x.val = r ∧ ini.map Fin.val = downIdx L (r + 1) := by
  rw [downIdx_step hr, List.map_append] at h
  obtain ⟨h1, h2⟩ := List.append_inj' h (by simp)
  exact ⟨by simpa using h2, h1⟩

end Go.Proofs.Ytegjdjfnpphipaa
