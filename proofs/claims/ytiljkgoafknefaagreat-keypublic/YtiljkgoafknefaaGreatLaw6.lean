/- Melted of: L6A L6B L6C. -/
import Derived.Test.YtiljkgoafknefaaGreatL5A
import Derived.Test.YtiljkgoafknefaaGreatBase3
import Derived.Test.YtiljkgoafknefaaGreatRef6m
import Derived.Test.YtiljkgoafknefaaGreatMon4
import Derived.Test.YtiljkgoafknefaaGreatMon5
import Derived.Test.YtiljkgoafknefaaGreatRef6o
import Derived.Deep.RegionHeld3

/- The laws' small functions of layers 6 to 8: few, Same, as. -/
namespace Go.Proofs.YtiljkgoafknefaaGreat
open Go.RowKit

theorem slots1_new (W : World) (co : Option Addr) (N eap : Nat) : Slots (W.alloc (.cells #[.slice co N eap] 23)) (some ⟨W.heap.size, 0, none⟩) 1 (fun _ => co) (fun _ => N) (fun _ => eap) := by
  intro i hi
  obtain rfl : i = 0 := by omega
  exact ⟨_, _, rfl, (cell_of_row _ _ 0 _ _ _ (heap_alloc_new W _)).trans rfl⟩

end Go.Proofs.YtiljkgoafknefaaGreat

/- The laws' first test of layer 6. -/
namespace Go.Proofs.YtiljkgoafknefaaGreat
open Go.RowKit

theorem ex6 : montE 7 = 0 ∧ modM 7 = [7] ∧ modR 7 = [4] := by decide

theorem ex6K {K : Nat} (h : isKf 7 K) : K = 10540996613548315209 := isKf_uniq h ⟨by omega, fun _ => by omega, fun h => absurd ex6.1 h⟩

theorem row7 (w : World) : Row .u64 (w.alloc (.cells #[.int .u64 7] 24)) (.slice (some ⟨w.heap.size, 0, none⟩) 1 1) [7] := Row.of_block (k := .u64) (w := w.alloc (.cells #[.int .u64 7] 24)) (g := w.heap.size) (zs := [7]) (t := 24) (heap_alloc_new _ _) rfl (by unfold maxLen; omega)

/-- What Setup answers is a modulus. -/
theorem setup_ok {V K : Nat} (h : montE V = 0) (hK : isKf V K) : okMod (modM V) K (modR V) ∧ (modM V).length = wordsN V ∧ (modR V).length = wordsN V ∧ val 18446744073709551616 (modM V) = V ∧ Digs 18446744073709551616 (modM V) ∧ Digs 18446744073709551616 (modR V) := by
  have hM : modM V = digs 18446744073709551616 V (wordsN V) := by unfold modM; rw [if_pos h]
  have hR : modR V = digs 18446744073709551616 (2 ^ (128 * wordsN V) % V) (wordsN V) := by unfold modR; rw [if_pos h]
  have hv : val 18446744073709551616 (modM V) = V := by rw [hM, val_digs, Nat.mod_eq_of_lt ((wordsN_le V _).1 (Nat.le_refl _))]
  refine ⟨?_, by rw [hM, digs_length], by rw [hR, digs_length], hv, by rw [hM]; exact digs_digs (by omega) _ _, by rw [hR]; exact digs_digs (by omega) _ _⟩
  unfold okMod
  rw [hv]
  exact ⟨h, rfl, hK, rfl⟩

end Go.Proofs.YtiljkgoafknefaaGreat

/- Both sides of layer 6 with no trace: Mul, Enter, Leave, One. -/
namespace Go.Proofs.YtiljkgoafknefaaGreat
open Go.RowKit

/-- An error's number for a condition. -/
theorem err_of (p : Prop) : ∃ E : Nat, (E = 0 ↔ p) ∧ E ≤ 1 := by
  by_cases h : p
  · exact ⟨0, ⟨fun _ => h, fun _ => rfl⟩, by omega⟩
  · exact ⟨1, ⟨fun e => absurd e (by omega), fun e => absurd e h⟩, by omega⟩

end Go.Proofs.YtiljkgoafknefaaGreat
