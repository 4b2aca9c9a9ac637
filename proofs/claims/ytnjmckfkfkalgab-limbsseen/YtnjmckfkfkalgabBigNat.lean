/- The plain numbers in words: Nat, Least; how two stand to one another: Cmp. -/
import Derived.Test.YtnjmckfkfkalgabBigs
namespace Go.Proofs.Ytnjmckfkfkalgab
open Go.RowKit

theorem dig_join (V k : Nat) : dig 18446744073709551616 V k = dig 4294967296 V (2 * k) + 4294967296 * dig 4294967296 V (2 * k + 1) := by
  unfold dig
  have e : (18446744073709551616 : Nat) ^ k = 4294967296 ^ (2 * k) := by rw [Nat.pow_mul]
  have e2 : (4294967296 : Nat) ^ (2 * k + 1) = 4294967296 ^ (2 * k) * 4294967296 := Nat.pow_succ ..
  rw [e, e2, ← Nat.div_div_eq_div_mul]
  generalize V / 4294967296 ^ (2 * k) = x
  omega

theorem or_join32 (x y : Nat) (hx : x < 4294967296) (hy : y < 4294967296) : bits .or .u64 (x : Int) ((y : Int) * 4294967296) = ((x + 4294967296 * y : Nat) : Int) := by
  have h := u64_or_nat x (y * 4294967296) (by omega) (by omega)
  have hj := nat_join 32 (y * 4294967296) x (by omega) (by omega)
  rw [Nat.or_comm, hj] at h
  have e1 : (y : Int) * 4294967296 = ((y * 4294967296 : Nat) : Int) := by omega
  rw [e1, h]
  omega

theorem set_fill (V n k : Nat) (h : k < n) : (digs 18446744073709551616 V k ++ List.replicate (n - k) 0).set k (dig 18446744073709551616 V k) = digs 18446744073709551616 V (k + 1) ++ List.replicate (n - (k + 1)) 0 := by
  rw [List.set_append_right _ _ (by rw [digs_length]; omega), digs_length, Nat.sub_self, digs, show n - k = (n - (k + 1)) + 1 by omega, List.replicate_succ]
  simp

theorem Try.info24 : (Try.prog.info? 24).map (fun i => (i.zero, i.size, i.bytes)) = some (some (.int .u64 0), 1, 8) := by kernel_rfl

theorem zeros_map (k : IntKind) (n : Nat) : (madeCells (Value.int k 0).cells (n * 1)).toList = (List.replicate n 0).map fun z : Nat => Value.int k (z : Int) := by
  rw [Nat.mul_one]
  show (madeCells #[Value.int k 0] n).toList = _
  rw [toList_madeCells_one, List.map_replicate]
  rfl

/-- How many words a number needs. -/
def wordsN (V : Nat) : Nat := if V = 0 then 0 else Nat.log2 V / 64 + 1

theorem wordsN_le (V n : Nat) : wordsN V ≤ n ↔ V < 18446744073709551616 ^ n := by
  unfold wordsN
  have e : (18446744073709551616 : Nat) ^ n = 2 ^ (64 * n) := by rw [Nat.pow_mul]
  rw [e]
  by_cases h : V = 0
  · subst h; simp [Nat.pow_pos]
  · rw [if_neg h]
    have := Nat.log2_lt (n := V) (k := 64 * n) h
    omega

/-- Half as many as there are digits. -/
theorem words_half {ds : List Nat} (hd : Digs 4294967296 ds) (ht : Trimmed ds) : (ds.length + 1) / 2 = wordsN (val 4294967296 ds) := by
  have key : ∀ n, (ds.length + 1) / 2 ≤ n ↔ wordsN (val 4294967296 ds) ≤ n := fun n => by
    rw [wordsN_le]
    have e : (18446744073709551616 : Nat) ^ n = 4294967296 ^ (2 * n) := by rw [Nat.pow_mul]
    rw [e, ← len_le_iff (by omega) hd ht]
    omega
  have h1 := (key ((ds.length + 1) / 2)).1 (Nat.le_refl _)
  have h2 := (key (wordsN (val 4294967296 ds))).2 (Nat.le_refl _)
  omega

theorem wordsN_bd {w : World} {v : Value} {V : Nat} (h : IsBig w v V) : wordsN V ≤ 500000000 := by
  obtain ⟨ds, hr, hd, ht, rfl, hl⟩ := h
  rw [← words_half hd ht]
  omega

/-- How two numbers stand to one another. -/
def cmpN (a b : Nat) : Int := if a < b then -1 else if a = b then 0 else 1

theorem cmpN_lt {a b : Nat} (h : a < b) : cmpN a b = -1 := if_pos h

theorem cmpN_gt {a b : Nat} (h : b < a) : cmpN a b = 1 := by unfold cmpN; rw [if_neg (by omega), if_neg (by omega)]

theorem cmpN_eq {a b : Nat} (h : a = b) : cmpN a b = 0 := by unfold cmpN; rw [if_neg (by omega), if_pos h]

theorem val_lt_len {a b : List Nat} (ha : Digs 4294967296 a) (tb : Trimmed b) (h : a.length < b.length) : val 4294967296 a < val 4294967296 b := by
  have h1 := val_lt (by omega) ha
  have h2 := val_le_of_top (B := 4294967296) tb (by omega)
  have h3 : (4294967296 : Nat) ^ a.length ≤ 4294967296 ^ (b.length - 1) := Nat.pow_le_pow_right (by omega) (by omega)
  omega

/-- A higher digit that is less makes the number less. -/
theorem val_lt_top {a b : List Nat} {k : Nat} (ha : Digs 4294967296 a) (hl : a.length = b.length) (hk : k < a.length) (hd : a.drop (k + 1) = b.drop (k + 1)) (h : a.getD k 0 < b.getD k 0) : val 4294967296 a < val 4294967296 b := by
  have ea := val_take_drop 4294967296 a k (by omega)
  have eb := val_take_drop 4294967296 b k (by omega)
  rw [List.drop_eq_getElem_cons hk] at ea
  rw [List.drop_eq_getElem_cons (by omega : k < b.length), ← hd] at eb
  simp only [val] at ea eb
  have h1 : val 4294967296 (a.take k) < 4294967296 ^ k := by
    have := val_lt (by omega) (ha.take k)
    rwa [List.length_take, Nat.min_eq_left (by omega)] at this
  rw [List.getD_eq_getElem?_getD, List.getD_eq_getElem?_getD, List.getElem?_eq_getElem hk, List.getElem?_eq_getElem (by omega : k < b.length)] at h
  simp only [Option.getD_some] at h
  have h2 : 4294967296 ^ k * (a[k] + 4294967296 * val 4294967296 (a.drop (k + 1)) + 1) ≤ 4294967296 ^ k * (b[k] + 4294967296 * val 4294967296 (a.drop (k + 1))) := Nat.mul_le_mul_left _ (by omega)
  rw [Nat.mul_add, Nat.mul_one] at h2
  omega

theorem drop_step {a b : List Nat} {k : Nat} (hl : a.length = b.length) (hk : k < a.length) (hd : a.drop (k + 1) = b.drop (k + 1)) (h : a.getD k 0 = b.getD k 0) : a.drop k = b.drop k := by
  rw [List.drop_eq_getElem_cons hk, List.drop_eq_getElem_cons (by omega : k < b.length), hd]
  rw [List.getD_eq_getElem?_getD, List.getD_eq_getElem?_getD, List.getElem?_eq_getElem hk, List.getElem?_eq_getElem (by omega : k < b.length)] at h
  simp only [Option.getD_some] at h
  rw [h]

theorem drew3 (w : World) (a b c : Nat) : ∃ n, ((w.drewN a).drewN b).drewN c = w.drewN n := ⟨_, by rw [World.drewN_drewN, World.drewN_drewN]⟩

end Go.Proofs.Ytnjmckfkfkalgab
