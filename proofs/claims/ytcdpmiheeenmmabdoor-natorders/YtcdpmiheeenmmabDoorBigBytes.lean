/- The plain numbers in bytes: ToBytes, FromBytes. -/
import Derived.Test.YtcdpmiheeenmmabDoorBigNat
import Derived.Test.YtcdpmiheeenmmabDoorBigAdd
import Derived.BigRegion
namespace Go.Proofs.YtcdpmiheeenmmabDoor
open Go.RowKit

/-- The first i of the n bytes of a number, the highest ahead. -/
def bes (V n : Nat) : Nat → List Nat
  | 0 => []
  | i + 1 => bes V n i ++ [dig 256 V (n - 1 - i)]

theorem bes_length (V n : Nat) : ∀ i, (bes V n i).length = i
  | 0 => rfl
  | i + 1 => by simp [bes, bes_length V n i]

theorem bes_digs (V n : Nat) : ∀ i, Digs 256 (bes V n i)
  | 0 => Digs.nil _
  | i + 1 => (bes_digs V n i).append (Digs.one (Nat.mod_lt _ (by omega)))

theorem byte_dig (V j : Nat) : dig 4294967296 V (j / 4) / 2 ^ (j % 4 * 8) % 256 = dig 256 V j := by
  unfold dig
  have e : (4294967296 : Nat) ^ (j / 4) = 256 ^ (4 * (j / 4)) := by rw [Nat.pow_mul]
  have e0 : (2 : Nat) ^ (j % 4 * 8) = 256 ^ (j % 4) := by rw [Nat.mul_comm, Nat.pow_mul]
  have e3 : (256 : Nat) ^ j = 256 ^ (4 * (j / 4)) * 256 ^ (j % 4) := by rw [← Nat.pow_add]; congr 1; omega
  rw [e, e0, e3, ← Nat.div_div_eq_div_mul]
  generalize V / 256 ^ (4 * (j / 4)) = x
  have h : j % 4 = 0 ∨ j % 4 = 1 ∨ j % 4 = 2 ∨ j % 4 = 3 := by omega
  rcases h with h | h | h | h <;> rw [h] <;> omega

theorem set_fill8 (V n k : Nat) (h : k < n) : (bes V n k ++ List.replicate (n - k) 0).set k (dig 256 V (n - 1 - k)) = bes V n (k + 1) ++ List.replicate (n - (k + 1)) 0 := by
  rw [List.set_append_right _ _ (by rw [bes_length]; omega), bes_length, Nat.sub_self, bes, show n - k = (n - (k + 1)) + 1 by omega, List.replicate_succ]
  simp

theorem Tryd.info5 : (Tryd.prog.info? 5).map (fun i => (i.zero, i.size, i.bytes)) = some (some (.int .u8 0), 1, 1) := by kernel_rfl

/-- The number of bytes, the highest ahead. -/
def bev (l : List Nat) : Nat := l.foldl (fun a b => a * 256 + b) 0

theorem bev_snoc (l : List Nat) (b : Nat) : bev (l ++ [b]) = bev l * 256 + b := by simp [bev]

theorem bev_take_succ {l : List Nat} {i : Nat} (h : i < l.length) : bev (l.take (i + 1)) = bev (l.take i) * 256 + l.getD i 0 := by
  rw [List.take_succ_eq_append_getElem h, bev_snoc, List.getD_eq_getElem?_getD, List.getElem?_eq_getElem h]
  rfl

theorem val_set {B : Nat} : ∀ {l : List Nat} {i d : Nat}, i < l.length → val B (l.set i (l.getD i 0 + d)) = val B l + B ^ i * d
  | x :: r, 0, d, _ => by simp [val]; omega
  | x :: r, i + 1, d, h => by
    have ih := val_set (B := B) (l := r) (i := i) (d := d) (by simpa using h)
    simp only [List.set_cons_succ, val, List.getD_cons_succ, ih, Nat.mul_add, Nat.pow_succ]
    rw [Nat.mul_comm (B ^ i) B, Nat.mul_assoc]
    omega

/-- The bytes that came so far end in the digit where the next belongs. -/
theorem from_digit (T k : Nat) : dig 4294967296 (T * 256 ^ (k + 1)) (k / 4) = T * 256 ^ (k % 4 + 1) % 4294967296 := by
  unfold dig
  have e : (256 : Nat) ^ (k + 1) = 256 ^ (k % 4 + 1) * 4294967296 ^ (k / 4) := by
    rw [show (4294967296 : Nat) ^ (k / 4) = 256 ^ (4 * (k / 4)) from by rw [Nat.pow_mul], ← Nat.pow_add]
    congr 1; omega
  rw [e, ← Nat.mul_assoc, Nat.mul_div_cancel _ (Nat.pow_pos (by omega))]

theorem from_or (T k b : Nat) (hb : b < 256) : bits .or .u32 ((T * 256 ^ (k % 4 + 1) % 4294967296 : Nat) : Int) (IntKind.u32.wrap ((b : Int) * 2 ^ (k % 4 * 8))) = ((T * 256 ^ (k % 4 + 1) % 4294967296 + b * 256 ^ (k % 4) : Nat) : Int) ∧
    T * 256 ^ (k % 4 + 1) % 4294967296 + b * 256 ^ (k % 4) < 4294967296 := by
  have h : k % 4 = 0 ∨ k % 4 = 1 ∨ k % 4 = 2 ∨ k % 4 = 3 := by omega
  have key : ∀ (r : Nat) (x y : Nat), x % 2 ^ r = 0 → y < 2 ^ r → x + y < 4294967296 → bits .or .u32 (x : Int) (y : Int) = ((x + y : Nat) : Int) := fun r x y h1 h2 h3 => by
    rw [u32_or_nat x y (by omega) (by omega), nat_join r x y h1 h2]
  rcases h with h | h | h | h <;> rw [h] <;> simp only [Nat.zero_add, Nat.reduceAdd, Nat.reducePow, Nat.reduceMul, Nat.zero_mul, Int.reducePow, Nat.pow_zero, Nat.pow_one, Nat.mul_one, Int.mul_one, Int.pow_zero]
  · refine ⟨?_, by omega⟩
    rw [IntKind.wrap_u32', show (b : Int) % 4294967296 = (b : Int) by omega]
    exact key 8 _ _ (by omega) (by omega) (by omega)
  · refine ⟨?_, by omega⟩
    rw [IntKind.wrap_u32', show (b : Int) * 256 % 4294967296 = ((b * 256 : Nat) : Int) by omega]
    exact key 16 _ _ (by omega) (by omega) (by omega)
  · refine ⟨?_, by omega⟩
    rw [IntKind.wrap_u32', show (b : Int) * 65536 % 4294967296 = ((b * 65536 : Nat) : Int) by omega]
    exact key 24 _ _ (by omega) (by omega) (by omega)
  · refine ⟨?_, by omega⟩
    rw [IntKind.wrap_u32', show (b : Int) * 16777216 % 4294967296 = ((b * 16777216 : Nat) : Int) by omega]
    exact key 32 _ _ (by omega) (by omega) (by omega)

/-- The next byte. -/
theorem from_step {zs : List Nat} {T k b n i : Nat} (hk : n = i + 1 + k) (hd : Digs 4294967296 zs) (hl : k / 4 < zs.length) (hv : val 4294967296 zs = T * 256 ^ (n - i)) :
    zs.getD (k / 4) 0 = T * 256 ^ (k % 4 + 1) % 4294967296 ∧ val 4294967296 (zs.set (k / 4) (zs.getD (k / 4) 0 + b * 256 ^ (k % 4))) = (T * 256 + b) * 256 ^ (n - (i + 1)) := by
  have e1 : n - i = k + 1 := by omega
  have e2 : n - (i + 1) = k := by omega
  rw [e1] at hv
  refine ⟨by rw [← dig_val (by omega) hd, hv, from_digit], ?_⟩
  rw [val_set hl, hv, e2, Nat.add_mul, Nat.pow_succ]
  have e3 : 4294967296 ^ (k / 4) * (b * 256 ^ (k % 4)) = b * 256 ^ k := by
    rw [show (4294967296 : Nat) ^ (k / 4) = 256 ^ (4 * (k / 4)) from by rw [Nat.pow_mul], Nat.mul_left_comm, ← Nat.pow_add]
    congr 2; omega
  rw [e3, Nat.mul_assoc, Nat.mul_comm 256]

end Go.Proofs.YtcdpmiheeenmmabDoor
