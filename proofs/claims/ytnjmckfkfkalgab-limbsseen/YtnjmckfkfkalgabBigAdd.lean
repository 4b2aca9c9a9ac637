/- The plain sum. -/
import Derived.Test.YtnjmckfkfkalgabBigNat
namespace Go.Proofs.Ytnjmckfkfkalgab
open Go.RowKit

theorem val_take_succ (B : Nat) (l : List Nat) (k : Nat) : val B (l.take (k + 1)) = val B (l.take k) + B ^ k * l.getD k 0 := by
  by_cases h : k < l.length
  · rw [List.take_succ_eq_append_getElem h, val_snoc, List.length_take, Nat.min_eq_left (by omega), List.getD_eq_getElem?_getD, List.getElem?_eq_getElem h]
    rfl
  · rw [List.take_of_length_le (by omega), List.take_of_length_le (by omega), List.getD_eq_getElem?_getD, List.getElem?_eq_none (by omega)]
    simp

theorem carry_step (p B t : Nat) : p * (t % B) + p * B * (t / B) = p * t := by
  have h := Nat.mod_add_div t B
  calc p * (t % B) + p * B * (t / B) = p * (t % B + B * (t / B)) := by rw [Nat.mul_add, Nat.mul_assoc]
    _ = p * t := by rw [h]

theorem new1_cells (w : World) (x : Value) (e : TypeId) : ∀ j u, [x][j]? = some u → (w.alloc (.cells #[x] e)).cell? ((⟨w.heap.size, 0, none⟩ : Addr).add j) = some u :=
  World.news_of_block (cs := #[x]) (t := e) (fr := (0, 0)) (Go.heap_alloc_new w _)

theorem add_step {a b os : List Nat} {k c x y : Nat} (hl : os.length = k) (h : val 4294967296 os + 4294967296 ^ k * c = val 4294967296 (a.take k) + val 4294967296 (b.take k)) (hx : a.getD k 0 = x) (hy : b.getD k 0 = y) :
    val 4294967296 (os ++ [(c + (x + y)) % 4294967296]) + 4294967296 ^ (k + 1) * ((c + (x + y)) / 4294967296) = val 4294967296 (a.take (k + 1)) + val 4294967296 (b.take (k + 1)) := by
  rw [val_snoc, hl, val_take_succ, val_take_succ, hx, hy, Nat.pow_succ, Nat.add_assoc, carry_step, Nat.mul_add, Nat.mul_add]
  omega

end Go.Proofs.Ytnjmckfkfkalgab
