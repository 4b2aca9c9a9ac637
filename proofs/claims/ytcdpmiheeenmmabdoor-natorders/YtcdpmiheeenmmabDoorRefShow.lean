/- The plain text of a number: Show. -/
import Derived.Test.YtcdpmiheeenmmabDoorRefNat
namespace Go.Proofs.YtcdpmiheeenmmabDoor
open Go.RowKit

/-- A digit's sign. -/
def hexSign (d : Nat) : UInt8 := if d < 10 then (48 + d).toUInt8 else (87 + d).toUInt8

/-- The first j of the n digits of a number, the highest ahead. -/
def hexTop (V n : Nat) : Nat → List UInt8
  | 0 => []
  | j + 1 => hexTop V n j ++ [hexSign (dig 16 V (n - 1 - j))]

theorem hex_bits (V i : Nat) : dig 16 V i = V / 2 ^ (4 * i) % 2 + V / 2 ^ (4 * i + 1) % 2 * 2 + V / 2 ^ (4 * i + 2) % 2 * 4 + V / 2 ^ (4 * i + 3) % 2 * 8 := by
  unfold dig
  have e : (16 : Nat) ^ i = 2 ^ (4 * i) := by rw [Nat.pow_mul]
  rw [e, Nat.pow_add, Nat.pow_add, Nat.pow_add, ← Nat.div_div_eq_div_mul, ← Nat.div_div_eq_div_mul, ← Nat.div_div_eq_div_mul]
  generalize V / 2 ^ (4 * i) = x
  omega

theorem or_hex1 (a b : Nat) (ha : a < 2) (hb : b < 2) : bits .or .u64 (a : Int) ((b : Int) * 2) = ((a + b * 2 : Nat) : Int) := by
  have h1 : a = 0 ∨ a = 1 := by omega
  have h2 : b = 0 ∨ b = 1 := by omega
  rcases h1 with rfl | rfl <;> rcases h2 with rfl | rfl <;> decide

theorem or_hex2 (a b : Nat) (ha : a < 4) (hb : b < 2) : bits .or .u64 (a : Int) ((b : Int) * 4) = ((a + b * 4 : Nat) : Int) := by
  have h1 : a = 0 ∨ a = 1 ∨ a = 2 ∨ a = 3 := by omega
  have h2 : b = 0 ∨ b = 1 := by omega
  rcases h1 with rfl | rfl | rfl | rfl <;> rcases h2 with rfl | rfl <;> decide

theorem or_hex3 (a b : Nat) (ha : a < 8) (hb : b < 2) : bits .or .u64 (a : Int) ((b : Int) * 8) = ((a + b * 8 : Nat) : Int) := by
  have h1 : a = 0 ∨ a = 1 ∨ a = 2 ∨ a = 3 ∨ a = 4 ∨ a = 5 ∨ a = 6 ∨ a = 7 := by omega
  have h2 : b = 0 ∨ b = 1 := by omega
  rcases h1 with rfl | rfl | rfl | rfl | rfl | rfl | rfl | rfl <;> rcases h2 with rfl | rfl <;> decide

theorem hexTop_length (V n : Nat) : ∀ j, (hexTop V n j).length = j
  | 0 => rfl
  | j + 1 => by simp [hexTop, hexTop_length V n j]

/-- The digits' signs. -/
abbrev hexAll : ByteArray := { data := #[48, 49, 50, 51, 52, 53, 54, 55, 56, 57, 97, 98, 99, 100, 101, 102] }

theorem hex_ext (x : Nat) (h : x < 16) : (hexAll.extract x (x + 1)).data.toList = [hexSign x] := by
  have : x = 0 ∨ x = 1 ∨ x = 2 ∨ x = 3 ∨ x = 4 ∨ x = 5 ∨ x = 6 ∨ x = 7 ∨ x = 8 ∨ x = 9 ∨ x = 10 ∨ x = 11 ∨ x = 12 ∨ x = 13 ∨ x = 14 ∨ x = 15 := by omega
  rcases this with rfl | rfl | rfl | rfl | rfl | rfl | rfl | rfl | rfl | rfl | rfl | rfl | rfl | rfl | rfl | rfl <;> decide

theorem hex_size (x : Nat) (h : x < 16) : (hexAll.extract x (x + 1)).size = 1 := by
  have := congrArg List.length (hex_ext x h)
  simpa [ByteArray.size] using this

theorem size_list (t : ByteArray) : t.size = t.data.toList.length := (Array.length_toList (xs := t.data)).symm

theorem empty_of_list {t : ByteArray} (h : t.data.toList = []) : t = { data := #[] } := by
  cases t with
  | mk d =>
    cases d with
    | mk l => simp at h; subst h; rfl

/-- The text of a number. -/
def showL (V : Nat) : List UInt8 := [48, 120] ++ (if V = 0 then [48] else hexTop V ((blen V + 3) / 4) ((blen V + 3) / 4))

theorem show_zero : showL 0 = [48, 120, 48] := rfl

theorem show_pos {V n : Nat} (h : V ≠ 0) (hn : n = (blen V + 3) / 4) : showL V = [48, 120] ++ hexTop V n n := by
  unfold showL
  rw [if_neg h, hn]

theorem digits_none {V n : Nat} (hn : n = (blen V + 3) / 4) : n = 0 ↔ V = 0 := by
  have := blen_le V 0
  rw [Nat.pow_zero] at this
  omega

end Go.Proofs.YtcdpmiheeenmmabDoor
