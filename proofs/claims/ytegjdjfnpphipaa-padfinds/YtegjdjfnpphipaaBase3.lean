/- Melted of: BigBytes BigBit RefNat. -/
import Derived.Test.YtegjdjfnpphipaaBase1
import Derived.Test.YtegjdjfnpphipaaBase2
import Derived.BigRegion

/- The plain numbers in bytes: ToBytes, FromBytes. -/
namespace Go.Proofs.Ytegjdjfnpphipaa
open Go.RowKit

/-- The first i of the n bytes of a number, the highest ahead. -/
def bes (V n : Nat) : Nat → List Nat
  | 0 => []
  | i + 1 => bes V n i ++ [dig 256 V (n - 1 - i)]

theorem bes_length (V n : Nat) : ∀ i, (bes V n i).length = i
  | 0 => rfl
  | i + 1 => by simp [bes, bes_length V n i]

theorem bes_digs (V n : Nat) : ∀ i, Digs 256 (bes V n i)
  | 0 => Digs.nil _
  | i + 1 => (bes_digs V n i).append (Digs.one (Nat.mod_lt _ (by omega)))

theorem byte_dig (V j : Nat) : dig 4294967296 V (j / 4) / 2 ^ (j % 4 * 8) % 256 = dig 256 V j := by
  unfold dig
  have e : (4294967296 : Nat) ^ (j / 4) = 256 ^ (4 * (j / 4)) := by rw [Nat.pow_mul]
  have e0 : (2 : Nat) ^ (j % 4 * 8) = 256 ^ (j % 4) := by rw [Nat.mul_comm, Nat.pow_mul]
  have e3 : (256 : Nat) ^ j = 256 ^ (4 * (j / 4)) * 256 ^ (j % 4) := by rw [← Nat.pow_add]; congr 1; omega
  rw [e, e0, e3, ← Nat.div_div_eq_div_mul]
  generalize V / 256 ^ (4 * (j / 4)) = x
  have h : j % 4 = 0 ∨ j % 4 = 1 ∨ j % 4 = 2 ∨ j % 4 = 3 := by omega
  rcases h with h | h | h | h <;> rw [h] <;> omega

theorem set_fill8 (V n k : Nat) (h : k < n) : (bes V n k ++ List.replicate (n - k) 0).set k (dig 256 V (n - 1 - k)) = bes V n (k + 1) ++ List.replicate (n - (k + 1)) 0 := by
  rw [List.set_append_right _ _ (by rw [bes_length]; omega), bes_length, Nat.sub_self, bes, show n - k = (n - (k + 1)) + 1 by omega, List.replicate_succ]
  simp

theorem Try.info5 : (Try.prog.info? 5).map (fun i => (i.zero, i.size, i.bytes)) = some (some (.int .u8 0), 1, 1) := by kernel_rfl

/-- The number of bytes, the highest ahead. -/
def bev (l : List Nat) : Nat := l.foldl (fun a b => a * 256 + b) 0

theorem bev_snoc (l : List Nat) (b : Nat) : bev (l ++ [b]) = bev l * 256 + b := by simp [bev]

theorem bev_take_succ {l : List Nat} {i : Nat} (h : i < l.length) : bev (l.take (i + 1)) = bev (l.take i) * 256 + l.getD i 0 := by
  rw [List.take_succ_eq_append_getElem h, bev_snoc, List.getD_eq_getElem?_getD, List.getElem?_eq_getElem h]
  rfl

theorem val_set {B : Nat} : ∀ {l : List Nat} {i d : Nat}, i < l.length → val B (l.set i (l.getD i 0 + d)) = val B l + B ^ i * d
  | x :: r, 0, d, _ => by simp [val]; omega
  | x :: r, i + 1, d, h => by
    have ih := val_set (B := B) (l := r) (i := i) (d := d) (by simpa using h)
    simp only [List.set_cons_succ, val, List.getD_cons_succ, ih, Nat.mul_add, Nat.pow_succ]
    rw [Nat.mul_comm (B ^ i) B, Nat.mul_assoc]
    omega

/-- The bytes that came so far end in the digit where the next belongs. -/
theorem from_digit (T k : Nat) : dig 4294967296 (T * 256 ^ (k + 1)) (k / 4) = T * 256 ^ (k % 4 + 1) % 4294967296 := by
  unfold dig
  have e : (256 : Nat) ^ (k + 1) = 256 ^ (k % 4 + 1) * 4294967296 ^ (k / 4) := by
    rw [show (4294967296 : Nat) ^ (k / 4) = 256 ^ (4 * (k / 4)) from by rw [Nat.pow_mul], ← Nat.pow_add]
    congr 1; omega
  rw [e, ← Nat.mul_assoc, Nat.mul_div_cancel _ (Nat.pow_pos (by omega))]

theorem from_or (T k b : Nat) (hb : b < 256) : bits .or .u32 ((T * 256 ^ (k % 4 + 1) % 4294967296 : Nat) : Int) (IntKind.u32.wrap ((b : Int) * 2 ^ (k % 4 * 8))) = ((T * 256 ^ (k % 4 + 1) % 4294967296 + b * 256 ^ (k % 4) : Nat) : Int) ∧
    T * 256 ^ (k % 4 + 1) % 4294967296 + b * 256 ^ (k % 4) < 4294967296 := by
  have h : k % 4 = 0 ∨ k % 4 = 1 ∨ k % 4 = 2 ∨ k % 4 = 3 := by omega
  have key : ∀ (r : Nat) (x y : Nat), x % 2 ^ r = 0 → y < 2 ^ r → x + y < 4294967296 → bits .or .u32 (x : Int) (y : Int) = ((x + y : Nat) : Int) := fun r x y h1 h2 h3 => by
    rw [u32_or_nat x y (by omega) (by omega), nat_join r x y h1 h2]
  rcases h with h | h | h | h <;> rw [h] <;> simp only [Nat.zero_add, Nat.reduceAdd, Nat.reducePow, Nat.reduceMul, Nat.zero_mul, Int.reducePow, Nat.pow_zero, Nat.pow_one, Nat.mul_one, Int.mul_one, Int.pow_zero]
  · refine ⟨?_, by omega⟩
    rw [IntKind.wrap_u32', show (b : Int) % 4294967296 = (b : Int) by omega]
    exact key 8 _ _ (by omega) (by omega) (by omega)
  · refine ⟨?_, by omega⟩
    rw [IntKind.wrap_u32', show (b : Int) * 256 % 4294967296 = ((b * 256 : Nat) : Int) by omega]
    exact key 16 _ _ (by omega) (by omega) (by omega)
  · refine ⟨?_, by omega⟩
    rw [IntKind.wrap_u32', show (b : Int) * 65536 % 4294967296 = ((b * 65536 : Nat) : Int) by omega]
    exact key 24 _ _ (by omega) (by omega) (by omega)
  · refine ⟨?_, by omega⟩
    rw [IntKind.wrap_u32', show (b : Int) * 16777216 % 4294967296 = ((b * 16777216 : Nat) : Int) by omega]
    exact key 32 _ _ (by omega) (by omega) (by omega)

/-- The next byte. -/
theorem from_step {zs : List Nat} {T k b n i : Nat} (hk : n = i + 1 + k) (hd : Digs 4294967296 zs) (hl : k / 4 < zs.length) (hv : val 4294967296 zs = T * 256 ^ (n - i)) :
    zs.getD (k / 4) 0 = T * 256 ^ (k % 4 + 1) % 4294967296 ∧ val 4294967296 (zs.set (k / 4) (zs.getD (k / 4) 0 + b * 256 ^ (k % 4))) = (T * 256 + b) * 256 ^ (n - (i + 1)) := by
  have e1 : n - i = k + 1 := by omega
  have e2 : n - (i + 1) = k := by omega
  rw [e1] at hv
  refine ⟨by rw [← dig_val (by omega) hd, hv, from_digit], ?_⟩
  rw [val_set hl, hv, e2, Nat.add_mul, Nat.pow_succ]
  have e3 : 4294967296 ^ (k / 4) * (b * 256 ^ (k % 4)) = b * 256 ^ k := by
    rw [show (4294967296 : Nat) ^ (k / 4) = 256 ^ (4 * (k / 4)) from by rw [Nat.pow_mul], Nat.mul_left_comm, ← Nat.pow_add]
    congr 2; omega
  rw [e3, Nat.mul_assoc, Nat.mul_comm 256]

end Go.Proofs.Ytegjdjfnpphipaa

/- The plain numbers' bits: Bit, BitLen; whether two numbers are alike with their lengths: Same. -/
namespace Go.Proofs.Ytegjdjfnpphipaa
open Go.RowKit

/-- Bit number i. -/
def bitN (V : Nat) (i : Int) : Nat := if i < 0 then 0 else V / 2 ^ i.toNat % 2

theorem bitN_nat (V j : Nat) : bitN V (j : Int) = V / 2 ^ j % 2 := by
  unfold bitN
  rw [if_neg (by omega), Int.toNat_natCast]

theorem bit_dig (V j : Nat) : dig 4294967296 V (j / 32) / 2 ^ (j % 32) % 2 = V / 2 ^ j % 2 := by
  unfold dig
  have e : (4294967296 : Nat) ^ (j / 32) = 2 ^ (32 * (j / 32)) := by rw [Nat.pow_mul]
  have e3 : (2 : Nat) ^ j = 2 ^ (32 * (j / 32)) * 2 ^ (j % 32) := by rw [← Nat.pow_add]; congr 1; omega
  rw [e, e3, ← Nat.div_div_eq_div_mul]
  generalize V / 2 ^ (32 * (j / 32)) = x
  have e4 : (4294967296 : Nat) = 2 ^ (j % 32) * 2 ^ (32 - j % 32) := by
    rw [← Nat.pow_add, show j % 32 + (32 - j % 32) = 32 by omega]
  rw [e4, Nat.mod_mul_right_div_self]
  have hd : 2 ∣ 2 ^ (32 - j % 32) := ⟨2 ^ (31 - j % 32), by rw [← Nat.pow_succ', show (31 - j % 32).succ = 32 - j % 32 by omega]⟩
  exact Nat.mod_mod_of_dvd _ hd

theorem bit_above {ds : List Nat} (hd : Digs 4294967296 ds) (j : Nat) (h : ds.length ≤ j / 32) : val 4294967296 ds / 2 ^ j % 2 = 0 := by
  have h1 := val_lt (by omega) hd
  have h2 : (4294967296 : Nat) ^ ds.length ≤ 2 ^ j := by
    have e : (4294967296 : Nat) ^ ds.length = 2 ^ (32 * ds.length) := by rw [Nat.pow_mul]
    rw [e]
    exact Nat.pow_le_pow_right (by omega) (by omega)
  rw [Nat.div_eq_of_lt (by omega)]

/-- How many bits a number has. -/
def blen (V : Nat) : Nat := if V = 0 then 0 else Nat.log2 V + 1

theorem blen_le (V n : Nat) : blen V ≤ n ↔ V < 2 ^ n := by
  unfold blen
  by_cases h : V = 0
  · subst h; simp [Nat.pow_pos]
  · rw [if_neg h]
    have := Nat.log2_lt (n := V) (k := n) h
    omega

theorem blen_zero {V k : Nat} (h : V < 2 ^ (k + 1)) (hb : V / 2 ^ k % 2 = 0) : V < 2 ^ k := by
  have h1 : V / 2 ^ k < 2 := by rw [Nat.div_lt_iff_lt_mul (Nat.pow_pos (by omega))]; rw [Nat.pow_succ] at h; omega
  have h2 : V / 2 ^ k = 0 := by
    generalize V / 2 ^ k = q at *
    omega
  rcases Nat.lt_or_ge V (2 ^ k) with h3 | h3
  · exact h3
  · have := (Nat.div_pos_iff).2 ⟨Nat.pow_pos (n := k) (show 0 < 2 by omega), h3⟩
    omega

theorem blen_one {V k : Nat} (h : V < 2 ^ (k + 1)) (hb : V / 2 ^ k % 2 ≠ 0) : blen V = k + 1 := by
  have h1 := (blen_le V (k + 1)).2 h
  have h2 : ¬ blen V ≤ k := fun hk => by
    have := (blen_le V k).1 hk
    rw [Nat.div_eq_of_lt this] at hb
    exact hb rfl
  omega

theorem eq_take_succ {a b : List Nat} {k : Nat} (ha : k < a.length) (hb : k < b.length) (h : a.take k = b.take k) (he : a.getD k 0 = b.getD k 0) : a.take (k + 1) = b.take (k + 1) := by
  rw [List.take_succ_eq_append_getElem ha, List.take_succ_eq_append_getElem hb, h]
  rw [List.getD_eq_getElem?_getD, List.getD_eq_getElem?_getD, List.getElem?_eq_getElem ha, List.getElem?_eq_getElem hb] at he
  simp only [Option.getD_some] at he
  rw [he]

end Go.Proofs.Ytegjdjfnpphipaa

/- The plain answers of layer 3: OfBytes, Resize, Word, Bytes. -/
namespace Go.Proofs.Ytegjdjfnpphipaa
open Go.RowKit

/-- The error's number, where a number is put into n words. -/
def resCode (V : Nat) (n : Int) : Int := if 300 < n then 2 else if n < 0 ∨ n.toNat < wordsN V then 1 else 0

/-- The words then. -/
def resList (V : Nat) (n : Int) : List Nat := if resCode V n = 0 then digs 18446744073709551616 V n.toNat else []

theorem res_long {V : Nat} {n : Int} (h : 300 < n) : resCode V n = 2 ∧ resList V n = [] := by
  have e : resCode V n = 2 := if_pos h
  exact ⟨e, by unfold resList; rw [if_neg (by rw [e]; decide)]⟩

theorem res_range {V : Nat} {n : Int} (h : ¬ 300 < n) (h2 : n < 0 ∨ n.toNat < wordsN V) : resCode V n = 1 ∧ resList V n = [] := by
  have e : resCode V n = 1 := by unfold resCode; rw [if_neg h, if_pos h2]
  exact ⟨e, by unfold resList; rw [if_neg (by rw [e]; decide)]⟩

theorem res_ok {V n : Nat} (h : n ≤ 300) (h2 : wordsN V ≤ n) : resCode V (n : Int) = 0 ∧ resList V (n : Int) = digs 18446744073709551616 V n := by
  have e : resCode V (n : Int) = 0 := by unfold resCode; rw [if_neg (by omega), if_neg (by simp; omega)]
  exact ⟨e, by unfold resList; rw [if_pos e, Int.toNat_natCast]⟩

/-- How many words a word is put into. -/
def clampN (n : Int) : Nat := (min (max n 1) 300).toNat

/-- The error's number, where a number of so many words is put into bytes. -/
def bytCode (V len : Nat) (n : Int) : Int := if 2400 < n ∨ 300 < len then 2 else if n < 0 ∨ n.toNat < (blen V + 7) / 8 then 1 else 0

def bytList (V len : Nat) (n : Int) : List Nat := if bytCode V len n = 0 then bes V n.toNat n.toNat else []

theorem byt_long {V len : Nat} {n : Int} (h : 2400 < n ∨ 300 < len) : bytCode V len n = 2 ∧ bytList V len n = [] := by
  have e : bytCode V len n = 2 := if_pos h
  exact ⟨e, by unfold bytList; rw [if_neg (by rw [e]; decide)]⟩

theorem byt_range {V len : Nat} {n : Int} (h : ¬ (2400 < n ∨ 300 < len)) (h2 : n < 0 ∨ n.toNat < (blen V + 7) / 8) : bytCode V len n = 1 ∧ bytList V len n = [] := by
  have e : bytCode V len n = 1 := by unfold bytCode; rw [if_neg h, if_pos h2]
  exact ⟨e, by unfold bytList; rw [if_neg (by rw [e]; decide)]⟩

theorem byt_ok {V len n : Nat} (h : n ≤ 2400) (hl : len ≤ 300) (h2 : (blen V + 7) / 8 ≤ n) : bytCode V len (n : Int) = 0 ∧ bytList V len (n : Int) = bes V n n := by
  have e : bytCode V len (n : Int) = 0 := by unfold bytCode; rw [if_neg (by omega), if_neg (by simp; omega)]
  exact ⟨e, by unfold bytList; rw [if_pos e, Int.toNat_natCast]⟩

theorem blen_bd {w : World} {v : Value} {V : Nat} (h : IsBig w v V) : blen V ≤ 32000000000 := by
  obtain ⟨ds, _, hd, _, rfl, hl⟩ := h
  have h1 := val_lt (by omega) hd
  have e : (4294967296 : Nat) ^ ds.length = 2 ^ (32 * ds.length) := by rw [Nat.pow_mul]
  rw [e] at h1
  have := (blen_le _ _).2 h1
  omega

end Go.Proofs.Ytegjdjfnpphipaa
