/- What a text of hexadecimal signs is, sign by sign, in words of 64 bits. -/
import Derived.Test.YtcdpmiheeenmmaaDoorNatP
import Derived.Test.YtcdpmiheeenmmaaDoorRefParse
import Derived.Laws.RangeAny
namespace Go.Proofs.YtcdpmiheeenmmaaDoor
open Go.RowKit Go.Shelf

theorem hexNum_take {l : List UInt8} {i : Nat} (h : i < l.length) : hexNum (l.take (i + 1)) = hexNum (l.take i) * 16 + hexOf l[i] := by
  rw [List.take_add_one, List.getElem?_eq_getElem h]
  exact hexNum_snoc _ _

theorem hex_digit (T k : Nat) : dig 18446744073709551616 (T * 16 ^ (k + 1)) (k / 16) = T * 16 ^ (k % 16 + 1) % 18446744073709551616 := by
  unfold dig
  have e : (16 : Nat) ^ (k + 1) = 16 ^ (k % 16 + 1) * 18446744073709551616 ^ (k / 16) := by
    rw [show (18446744073709551616 : Nat) ^ (k / 16) = 16 ^ (16 * (k / 16)) from by rw [Nat.pow_mul], ← Nat.pow_add]
    congr 1; omega
  rw [e, ← Nat.mul_assoc, Nat.mul_div_cancel _ (Nat.pow_pos (by omega))]

theorem hex_or (T r d : Nat) (hr : r < 16) (hd : d < 16) : bits .or .u64 ((T * 16 ^ (r + 1) % 18446744073709551616 : Nat) : Int) ((d * 16 ^ r : Nat) : Int) = ((T * 16 ^ (r + 1) % 18446744073709551616 + d * 16 ^ r : Nat) : Int) ∧
    T * 16 ^ (r + 1) % 18446744073709551616 + d * 16 ^ r < 18446744073709551616 ∧ d * 16 ^ r < 18446744073709551616 := by
  have key : ∀ (q x y : Nat), x % 2 ^ q = 0 → y < 2 ^ q → x + y < 18446744073709551616 → bits .or .u64 (x : Int) (y : Int) = ((x + y : Nat) : Int) := fun q x y h1 h2 h3 => by
    rw [u64_or_nat x y (by omega) (by omega), nat_join q x y h1 h2]
  have h : r = 0 ∨ r = 1 ∨ r = 2 ∨ r = 3 ∨ r = 4 ∨ r = 5 ∨ r = 6 ∨ r = 7 ∨ r = 8 ∨ r = 9 ∨ r = 10 ∨ r = 11 ∨ r = 12 ∨ r = 13 ∨ r = 14 ∨ r = 15 := by omega
  rcases h with rfl | rfl | rfl | rfl | rfl | rfl | rfl | rfl | rfl | rfl | rfl | rfl | rfl | rfl | rfl | rfl <;> simp only [Nat.reduceAdd, Nat.reducePow, Nat.zero_add, Nat.mul_one]
  · exact ⟨key 4 _ _ (by omega) (by omega) (by omega), by omega, by omega⟩
  · exact ⟨key 8 _ _ (by omega) (by omega) (by omega), by omega, by omega⟩
  · exact ⟨key 12 _ _ (by omega) (by omega) (by omega), by omega, by omega⟩
  · exact ⟨key 16 _ _ (by omega) (by omega) (by omega), by omega, by omega⟩
  · exact ⟨key 20 _ _ (by omega) (by omega) (by omega), by omega, by omega⟩
  · exact ⟨key 24 _ _ (by omega) (by omega) (by omega), by omega, by omega⟩
  · exact ⟨key 28 _ _ (by omega) (by omega) (by omega), by omega, by omega⟩
  · exact ⟨key 32 _ _ (by omega) (by omega) (by omega), by omega, by omega⟩
  · exact ⟨key 36 _ _ (by omega) (by omega) (by omega), by omega, by omega⟩
  · exact ⟨key 40 _ _ (by omega) (by omega) (by omega), by omega, by omega⟩
  · exact ⟨key 44 _ _ (by omega) (by omega) (by omega), by omega, by omega⟩
  · exact ⟨key 48 _ _ (by omega) (by omega) (by omega), by omega, by omega⟩
  · exact ⟨key 52 _ _ (by omega) (by omega) (by omega), by omega, by omega⟩
  · exact ⟨key 56 _ _ (by omega) (by omega) (by omega), by omega, by omega⟩
  · exact ⟨key 60 _ _ (by omega) (by omega) (by omega), by omega, by omega⟩
  · exact ⟨key 64 _ _ (by omega) (by omega) (by omega), by omega, by omega⟩

/-- The next sign. -/
theorem hex_step {zs : List Nat} {T k d n i : Nat} (hk : n = i + 1 + k) (hd : Digs 18446744073709551616 zs) (hl : k / 16 < zs.length) (hv : val 18446744073709551616 zs = T * 16 ^ (n - i)) :
    zs.getD (k / 16) 0 = T * 16 ^ (k % 16 + 1) % 18446744073709551616 ∧ val 18446744073709551616 (zs.set (k / 16) (zs.getD (k / 16) 0 + d * 16 ^ (k % 16))) = (T * 16 + d) * 16 ^ (n - (i + 1)) := by
  have e1 : n - i = k + 1 := by omega
  have e2 : n - (i + 1) = k := by omega
  rw [e1] at hv
  refine ⟨by rw [← dig_val (by omega) hd, hv, hex_digit], ?_⟩
  rw [val_set hl, hv, e2, Nat.add_mul, Nat.pow_succ]
  have e3 : 18446744073709551616 ^ (k / 16) * (d * 16 ^ (k % 16)) = d * 16 ^ k := by
    rw [show (18446744073709551616 : Nat) ^ (k / 16) = 16 ^ (16 * (k / 16)) from by rw [Nat.pow_mul], Nat.mul_left_comm, ← Nat.pow_add]
    congr 2; omega
  rw [e3, Nat.mul_assoc, Nat.mul_comm 16]

theorem hexNum_cons (c : UInt8) (t : List UInt8) : hexNum (c :: t) = hexOf c * 16 ^ t.length + hexNum t := by
  have key : ∀ (l : List UInt8) (a : Nat), l.foldl (fun a c => a * 16 + hexOf c) a = a * 16 ^ l.length + hexNum l := by
    intro l
    unfold hexNum
    induction l with
    | nil => intro a; simp
    | cons x m ih =>
      intro a
      rw [List.foldl_cons, ih, List.foldl_cons, ih (0 * 16 + hexOf x), List.length_cons, Nat.pow_succ]
      simp only [Nat.zero_mul, Nat.zero_add, Nat.add_mul, Nat.mul_assoc, Nat.add_assoc, Nat.mul_comm 16]
  show (c :: t).foldl _ 0 = _
  rw [List.foldl_cons, key]
  simp

/-- So many words the number of such signs needs. -/
theorem hex_words {D : List UInt8} (hall : D.all isHex = true) (h0 : D ≠ []) (hn : D = [48] ∨ D.getD 0 0 ≠ 48) : max (wordsN (hexNum D)) 1 = (D.length + 15) / 16 := by
  rcases hn with rfl | hn
  · decide +kernel
  · cases D with
    | nil => exact absurd rfl h0
    | cons c t =>
      have hc : isHex c = true := by
        have := List.all_eq_true.1 hall c (by simp)
        exact this
      have hne : hexOf c ≠ 0 := by
        intro h
        simp [isHex] at hc
        unfold hexOf at h
        split at h
        · have : c.toNat = 48 := by omega
          exact hn (by simpa using UInt8.toNat_inj.1 this)
        · omega
      have hlt := hexNum_lt hall
      have hge : 16 ^ t.length ≤ hexNum (c :: t) := by
        rw [hexNum_cons]
        have : 1 * 16 ^ t.length ≤ hexOf c * 16 ^ t.length := Nat.mul_le_mul_right _ (by omega)
        omega
      have e : ∀ m, (18446744073709551616 : Nat) ^ m = 16 ^ (16 * m) := fun m => by rw [Nat.pow_mul]
      have h1 : wordsN (hexNum (c :: t)) ≤ ((c :: t).length + 15) / 16 := by
        rw [wordsN_le, e]
        exact Nat.lt_of_lt_of_le hlt (Nat.pow_le_pow_right (by omega) (by omega))
      have h2 : ¬ wordsN (hexNum (c :: t)) ≤ ((c :: t).length + 15) / 16 - 1 := by
        rw [wordsN_le, e]
        have : (16 : Nat) ^ (16 * (((c :: t).length + 15) / 16 - 1)) ≤ 16 ^ t.length := Nat.pow_le_pow_right (by omega) (by simp only [List.length_cons]; omega)
        omega
      simp only [List.length_cons] at *
      omega

/-- Which signs count, and for what. -/
def runeHex (r : Nat) : Bool := (48 ≤ r && r ≤ 57) || (97 ≤ r && r ≤ 102)

def runeVal (r : Nat) : Nat := if 48 ≤ r ∧ r ≤ 57 then r - 48 else if 97 ≤ r ∧ r ≤ 102 then r - 87 else 0

theorem nDigitValue (r : Nat) (hr : r ≤ 1114111) (w : World) : Calls Tryd.prog 49 #[.int .i32 r] w fun e w' => e = .returned (.tuple #[.int .u64 (runeVal r : Nat), .bool (runeHex r)]) ∧ w' = w := by
  by_cases h1 : 48 ≤ r ∧ r ≤ 57
  · have e1 : runeVal r = r - 48 := if_pos h1
    have e2 : runeHex r = true := by simp [runeHex]; omega
    rw [e1, e2]
    have g1 : (48 : Int) ≤ (r : Int) := by omega
    have g2 : (r : Int) ≤ 57 := by omega
    have e3 : ((r - 48 : Nat) : Int) = (r : Int) - 48 := by omega
    rw [e3]
    go_enter Tryd.func49, Tryd.ntmps49
    go_wp2
    go_ret2
    exact ⟨by simp, rfl⟩
  · by_cases h2 : 97 ≤ r ∧ r ≤ 102
    · have e1 : runeVal r = r - 87 := by unfold runeVal; rw [if_neg h1, if_pos h2]
      have e2 : runeHex r = true := by simp [runeHex]; omega
      rw [e1, e2]
      have g0 : ¬ (r : Int) ≤ 57 := by omega
      have g00 : (48 : Int) ≤ (r : Int) := by omega
      have g1 : (97 : Int) ≤ (r : Int) := by omega
      have g2 : (r : Int) ≤ 102 := by omega
      have e3 : ((r - 87 : Nat) : Int) = (r : Int) - 97 + 10 := by omega
      rw [e3]
      go_enter Tryd.func49, Tryd.ntmps49
      go_wp2
      go_ret2
      exact ⟨by simp, rfl⟩
    · have e1 : runeVal r = 0 := by unfold runeVal; rw [if_neg h1, if_neg h2]
      have e2 : runeHex r = false := by simp [runeHex]; omega
      rw [e1, e2]
      by_cases g1 : (48 : Int) ≤ (r : Int)
      · have g2 : ¬ (r : Int) ≤ 57 := by omega
        by_cases g3 : (97 : Int) ≤ (r : Int)
        · have g4 : ¬ (r : Int) ≤ 102 := by omega
          go_enter Tryd.func49, Tryd.ntmps49
          go_wp2
          go_ret2
          exact ⟨rfl, rfl⟩
        · go_enter Tryd.func49, Tryd.ntmps49
          go_wp2
          go_ret2
          exact ⟨rfl, rfl⟩
      · have g3 : ¬ (97 : Int) ≤ (r : Int) := by omega
        go_enter Tryd.func49, Tryd.ntmps49
        go_wp2
        go_ret2
        exact ⟨rfl, rfl⟩

end Go.Proofs.YtcdpmiheeenmmaaDoor
