/- Package limbs: AddIf, and with it Add: what they answer and write down, for any numbers. -/
import Derived.Test.YtnjmckfkfkalgabLimA
import Derived.Test.YtnjmckfkfkalgabRef4C
import Derived.Deep.RegionWith
namespace Go.Proofs.Ytnjmckfkfkalgab
open Go.RowKit

/-- common, of two numbers. -/
theorem common2 (ao bo : Option Addr) (L M cap dap : Nat) (w : World) :
    Calls Try.prog 24 #[.slice (some ⟨w.heap.size, 0, none⟩) 2 2] (w.alloc (.cells #[.slice ao L cap, .slice bo M dap] 23)) fun e w' => ∃ g, e = .returned (.tuple #[.int .i64 (max L M : Nat), .func (.func 36) #[] #[.pointer (some ⟨g, 0, none⟩)]]) ∧ w'.heap[g]? = some (.cells #[.int .i64 (max L M : Nat)] 3 (0, 0)) ∧ w.heap.size ≤ g ∧ Kept Nought w w' := by
  have hn := new2 w (.slice ao L cap) (.slice bo M dap) 23
  refine (lCommon (some ⟨w.heap.size, 0, none⟩) 2 2 (fun i => if i = 0 then ao else bo) (fun i => if i = 0 then L else M) (fun i => if i = 0 then cap else dap) _ (by omega) ?_).mono ?_
  · intro i hi
    refine ⟨_, _, rfl, ?_⟩
    rw [Nat.zero_add, World.ownsRow.cellAt hn i (by omega)]
    have : i = 0 ∨ i = 1 := by omega
    rcases this with rfl | rfl <;> rfl
  · rintro e w' ⟨rfl, rfl⟩
    have hm : maxOf (fun i => if i = 0 then L else M) 2 = max L M := by simp [maxOf]
    rw [hm]
    exact ⟨_, rfl, heap_alloc_new _ _, by simp, ((Kept.refl Nought w).alloc _).alloc _⟩

theorem wAddN (x y c : Nat) (hx : x < 18446744073709551616) (hy : y < 18446744073709551616) (hc : c ≤ 1) (w : World) :
    Calls Try.prog 29 #[.int .u64 (x : Nat), .int .u64 (y : Nat), .int .u64 (c : Nat)] w fun e w' => ∃ z c' : Nat, e = .returned (.tuple #[.int .u64 (z : Nat), .int .u64 (c' : Nat)]) ∧ z < 18446744073709551616 ∧ c' ≤ 1 ∧ z + 18446744073709551616 * c' = x + y + c ∧ w' = w := by
  refine (wAdd (x : Int) (y : Int) (c : Int) (by omega) (by omega) (by omega) (by omega) w).mono ?_
  rintro e w' ⟨rfl, rfl⟩
  refine ⟨(x + y + c) % 18446744073709551616, (x + y + c) / 18446744073709551616, ret_two ?_ ?_, Nat.mod_lt _ (by omega), by omega, by omega, rfl⟩ <;> omega

theorem wSubN (x y c : Nat) (hx : x < 18446744073709551616) (hy : y < 18446744073709551616) (hc : c ≤ 1) (w : World) :
    Calls Try.prog 26 #[.int .u64 (x : Nat), .int .u64 (y : Nat), .int .u64 (c : Nat)] w fun e w' => ∃ z c' : Nat, e = .returned (.tuple #[.int .u64 (z : Nat), .int .u64 (c' : Nat)]) ∧ z < 18446744073709551616 ∧ c' ≤ 1 ∧ z + y + c = x + 18446744073709551616 * c' ∧ w' = w := by
  refine (wSub (x : Int) (y : Int) (c : Int) (by omega) (by omega) (by omega) (by omega) (by omega) w).mono ?_
  rintro e w' ⟨rfl, rfl⟩
  unfold bor
  by_cases h : (x : Int) < (y : Int) + (c : Int) % 2
  · rw [if_pos h]
    refine ⟨x + 18446744073709551616 - (y + c), 1, ret_two ?_ ?_, by omega, by omega, by omega, rfl⟩ <;> omega
  · rw [if_neg h]
    refine ⟨x - (y + c), 0, ret_two ?_ ?_, by omega, by omega, by omega, rfl⟩ <;> omega

theorem and_msk (y bit : Nat) (hy : y < 18446744073709551616) : bits .and .u64 (y : Int) (msk (bit : Int)) = ((y * (bit % 2) : Nat) : Int) := by
  unfold msk
  have : bit % 2 = 0 ∨ bit % 2 = 1 := by omega
  rcases this with h | h
  · rw [show (bit : Int) % 2 = 0 by omega, h]
    have e := u64_and_nat y 0 (by omega) (by omega)
    rw [Nat.and_zero] at e
    exact e
  · rw [show (bit : Int) % 2 = 1 by omega, h]
    have e := u64_and_nat y 18446744073709551615 (by omega) (by omega)
    rw [show (18446744073709551615 : Nat) = 2 ^ 64 - 1 from rfl, Nat.and_two_pow_sub_one_of_lt_two_pow (by omega)] at e
    rw [Nat.mul_one]
    exact e

theorem mod_succ (B X k : Nat) : X % B ^ (k + 1) = X % B ^ k + B ^ k * dig B X k := by rw [dig, Nat.pow_succ, Nat.mod_mul]

theorem dig_bit (B Y bit k : Nat) : dig B (Y * (bit % 2)) k = dig B Y k * (bit % 2) := by
  have : bit % 2 = 0 ∨ bit % 2 = 1 := by omega
  rcases this with h | h <;> rw [h] <;> simp [dig]

theorem addT_step {B X Y k c z c' : Nat} {os : List Nat} (hl : os.length = k) (h : val B os + B ^ k * c = X % B ^ k + Y % B ^ k) (hz : z + B * c' = dig B X k + dig B Y k + c) :
    val B (os ++ [z]) + B ^ (k + 1) * c' = X % B ^ (k + 1) + Y % B ^ (k + 1) := by
  rw [val_snoc, hl, mod_succ, mod_succ, Nat.pow_succ, Nat.mul_assoc]
  have e : B ^ k * (z + B * c') = B ^ k * (dig B X k + dig B Y k + c) := by rw [hz]
  rw [Nat.mul_add, Nat.mul_add, Nat.mul_add] at e
  omega

theorem subT_step {B X Y k c z c' : Nat} {os : List Nat} (hl : os.length = k) (h : val B os + Y % B ^ k = X % B ^ k + B ^ k * c) (hz : z + dig B Y k + c = dig B X k + B * c') :
    val B (os ++ [z]) + Y % B ^ (k + 1) = X % B ^ (k + 1) + B ^ (k + 1) * c' := by
  rw [val_snoc, hl, mod_succ, mod_succ, Nat.pow_succ, Nat.mul_assoc]
  have e : B ^ k * (z + dig B Y k + c) = B ^ k * (dig B X k + B * c') := by rw [hz]
  rw [Nat.mul_add, Nat.mul_add, Nat.mul_add] at e
  omega

theorem set_snoc (os : List Nat) (n k z : Nat) (hl : os.length = k) (h : k < n) : (os ++ List.replicate (n - k) 0).set k z = (os ++ [z]) ++ List.replicate (n - (k + 1)) 0 := by
  rw [List.set_append_right _ _ (by omega), hl, Nat.sub_self, show n - k = (n - (k + 1)) + 1 by omega, List.replicate_succ]
  simp

theorem B64 (n : Nat) : (18446744073709551616 : Nat) ^ n = 2 ^ (64 * n) := by rw [Nat.pow_mul]

/-- A row that is being filled: the first k cells stand, the others are noughts. -/
theorem fill_cell {w : World} {base g n k : Nat} {t : TypeId} {os : List Nat} (h : OwnN .u64 t w base (.slice (some ⟨g, 0, none⟩) n n) n (os ++ List.replicate (n - k) 0)) (hl : os.length = k) (hk : k < n) : w.cell? ⟨g, k, none⟩ = some (.int .u64 0) := by
  rw [World.ownsRow.cellAt h k (by omega), List.getElem?_map, List.getElem?_append_right (by omega), hl, Nat.sub_self, List.getElem?_replicate, if_pos (by omega)]
  rfl

end Go.Proofs.Ytnjmckfkfkalgab
