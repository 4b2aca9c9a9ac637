/- The plain text of a number: Show. -/
import Derived.Test.YtcdpmiheeenmmaaDoorRefNat
namespace Go.Proofs.YtcdpmiheeenmmaaDoor
open Go.RowKit

/-- A digit's sign. -/
def hexSign (d : Nat) : UInt8 := if d < 10 then (48 + d).toUInt8 else (87 + d).toUInt8

/-- The first j of the n digits of a number, the highest ahead. -/
def hexTop (V n : Nat) : Nat → List UInt8
  | 0 => []
  | j + 1 => hexTop V n j ++ [hexSign (dig 16 V (n - 1 - j))]

theorem hex_bits (V i : Nat) : dig 16 V i = V / 2 ^ (4 * i) % 2 + V / 2 ^ (4 * i + 1) % 2 * 2 + V / 2 ^ (4 * i + 2) % 2 * 4 + V / 2 ^ (4 * i + 3) % 2 * 8 := by
  unfold dig
  have e : (16 : Nat) ^ i = 2 ^ (4 * i) := by rw [Nat.pow_mul]
  rw [e, Nat.pow_add, Nat.pow_add, Nat.pow_add, ← Nat.div_div_eq_div_mul, ← Nat.div_div_eq_div_mul, ← Nat.div_div_eq_div_mul]
  generalize V / 2 ^ (4 * i) = x
  omega

theorem or_hex1 (a b : Nat) (ha : a < 2) (hb : b < 2) : bits .or .u64 (a : Int) ((b : Int) * 2) = ((a + b * 2 : Nat) : Int) := by
  have h1 : a = 0 ∨ a = 1 := by omega
  have h2 : b = 0 ∨ b = 1 := by omega
  rcases h1 with rfl | rfl <;> rcases h2 with rfl | rfl <;> decide

theorem or_hex2 (a b : Nat) (ha : a < 4) (hb : b < 2) : bits .or .u64 (a : Int) ((b : Int) * 4) = ((a + b * 4 : Nat) : Int) := by
  have h1 : a = 0 ∨ a = 1 ∨ a = 2 ∨ a = 3 := by omega
  have h2 : b = 0 ∨ b = 1 := by omega
  rcases h1 with rfl | rfl | rfl | rfl <;> rcases h2 with rfl | rfl <;> decide

theorem or_hex3 (a b : Nat) (ha : a < 8) (hb : b < 2) : bits .or .u64 (a : Int) ((b : Int) * 8) = ((a + b * 8 : Nat) : Int) := by
  have h1 : a = 0 ∨ a = 1 ∨ a = 2 ∨ a = 3 ∨ a = 4 ∨ a = 5 ∨ a = 6 ∨ a = 7 := by omega
  have h2 : b = 0 ∨ b = 1 := by omega
  rcases h1 with rfl | rfl | rfl | rfl | rfl | rfl | rfl | rfl <;> rcases h2 with rfl | rfl <;> decide

theorem hexTop_length (V n : Nat) : ∀ j, (hexTop V n j).length = j
  | 0 => rfl
  | j + 1 => by simp [hexTop, hexTop_length V n j]

/-- The digits' signs. -/
abbrev hexAll : ByteArray := { data := #[48, 49, 50, 51, 52, 53, 54, 55, 56, 57, 97, 98, 99, 100, 101, 102] }

theorem hex_ext (x : Nat) (h : x < 16) : (hexAll.extract x (x + 1)).data.toList = [hexSign x] := by
  have : x = 0 ∨ x = 1 ∨ x = 2 ∨ x = 3 ∨ x = 4 ∨ x = 5 ∨ x = 6 ∨ x = 7 ∨ x = 8 ∨ x = 9 ∨ x = 10 ∨ x = 11 ∨ x = 12 ∨ x = 13 ∨ x = 14 ∨ x = 15 := by omega
  rcases this with rfl | rfl | rfl | rfl | rfl | rfl | rfl | rfl | rfl | rfl | rfl | rfl | rfl | rfl | rfl | rfl <;> decide

theorem hex_size (x : Nat) (h : x < 16) : (hexAll.extract x (x + 1)).size = 1 := by
  have := congrArg List.length (hex_ext x h)
  simpa [ByteArray.size] using this

theorem size_list (t : ByteArray) : t.size = t.data.toList.length := (Array.length_toList (xs := t.data)).symm

theorem empty_of_list {t : ByteArray} (h : t.data.toList = []) : t = { data := #[] } := by
  cases t with
  | mk d =>
    cases d with
    | mk l => simp at h; subst h; rfl

/-- The text of a number. -/
def showL (V : Nat) : List UInt8 := [48, 120] ++ (if V = 0 then [48] else hexTop V ((blen V + 3) / 4) ((blen V + 3) / 4))

theorem show_zero : showL 0 = [48, 120, 48] := rfl

theorem show_pos {V n : Nat} (h : V ≠ 0) (hn : n = (blen V + 3) / 4) : showL V = [48, 120] ++ hexTop V n n := by
  unfold showL
  rw [if_neg h, hn]

theorem digits_none {V n : Nat} (hn : n = (blen V + 3) / 4) : n = 0 ↔ V = 0 := by
  have := blen_le V 0
  rw [Nat.pow_zero] at this
  omega

set_option maxRecDepth 100000 in
set_option maxHeartbeats 800000 in
theorem rShow (v : Value) (xs : List Nat) (w : World) (h : Row .u64 w v xs) (hd : Digs 18446744073709551616 xs) (hl : xs.length ≤ 1000000) :
    Calls Tryd.prog 30 #[v] w fun r w' => ∃ s : ByteArray, r = .returned (.string s) ∧ s.data.toList = showL (val 18446744073709551616 xs) ∧ Kept Nought w w' := by
  have hF := rOf v xs w h hd (by omega)
  clear h hd hl
  generalize val 18446744073709551616 xs = V at *
  obtain ⟨n, hn⟩ : ∃ n, n = (blen V + 3) / 4 := ⟨_, rfl⟩
  have hn0 := digits_none hn
  have hpos : Hid (V ≠ 0 → showL V = [48, 120] ++ hexTop V n n) := fun h => show_pos h hn
  have hzero : Hid (V = 0 → showL V = [48, 120, 48]) := fun h => by rw [h]; rfl
  go_enter Tryd.func30, Tryd.ntmps30
  go_wp2_with fail
  refine hF.mono ?_
  rintro e w1 ⟨v1, rfl, hb, _, k1⟩
  have hW := rBitLen v1 V w1 hb
  have hB := fun i hi => rBit v1 V i w1 hb hi
  have hbd := blen_bd hb
  have hnb : n ≤ 10000000000 := by omega
  have hn' : ((blen V : Int) + 3) / 4 = (n : Int) := by omega
  clear hF hn hb
  generalize blen V = q at *
  have HN' : Hid (((q : Int) + 3) / 4 = (n : Int)) := hn'
  clear hn'
  go_wp2_with fail
  refine hW.mono ?_
  rintro e w' ⟨rfl, rfl⟩
  obtain ⟨W, hWW⟩ : ∃ W, Hid (w' = W) := ⟨_, rfl⟩
  go_wp2_with fail
  go_loopw [4, 5] (fun s i wr => ∃ (k : Nat) (t : ByteArray), k ≤ n ∧ i = .int .i64 ((k : Int) - 1) ∧ s = .string t ∧ Hid (t.data.toList = hexTop V n (n - k)) ∧ Hid (wr = W)) (fun _ i _ => (intOf i + 1).toNat)
  case atStart => exact ⟨n, ByteArray.empty, Nat.le_refl _, by rw [HN'.out], rfl, by unfold Hid; rw [Nat.sub_self]; rfl, hWW⟩
  case round =>
    obtain ⟨k, t, hk, rfl, rfl, ht, hwr⟩ := hrel
    have hwr' : wr = w' := hwr.out.trans hWW.out.symm
    subst hwr'
    cases k with
    | zero =>
      have ht2 := ht.out
      rw [Nat.sub_zero] at ht2
      have hlen : t.data.toList.length = n := by rw [ht2, hexTop_length]
      have hts := size_list t
      rw [hlen] at hts
      clear hB hW ht
      by_cases h0 : V = 0
      · have et : t = { data := #[] } := empty_of_list (List.eq_nil_of_length_eq_zero (by omega))
        have HR : Hid (showL V = [48, 120, 48]) := hzero.out h0
        subst et
        clear ht2 hlen hts hpos hzero hn0 h0
        go_wp2
        go_ret
        exact ⟨_, rfl, HR.out.symm, k1⟩
      · have HR : Hid (({ data := #[48, 120] } ++ t : ByteArray).data.toList = showL V) := by
          unfold Hid
          rw [hpos.out h0, ByteArray.data_append, Array.toList_append, ht2]
        have hne : (t.toList == []) = false := by
          rw [ByteArray.toList_eq]
          cases hc : t.data.toList with
          | nil => rw [hc] at hlen; simp at hlen; omega
          | cons x r => rfl
        have hts' : t.size ≤ 10000000000 := by omega
        clear ht2 hlen hpos hzero hn0 h0 hts
        go_wp2
        go_ret
        exact ⟨_, rfl, HR.out, k1⟩
    | succ i =>
      have h0 := hB (((4 * i : Nat) : Int)) (by omega)
      have h1 := hB (((4 * i + 1 : Nat) : Int)) (by omega)
      have h2 := hB (((4 * i + 2 : Nat) : Int)) (by omega)
      have h3 := hB (((4 * i + 3 : Nat) : Int)) (by omega)
      rw [bitN_nat, show ((4 * i : Nat) : Int) = 4 * (i : Int) by omega] at h0
      rw [bitN_nat, show ((4 * i + 1 : Nat) : Int) = 4 * (i : Int) + 1 by omega] at h1
      rw [bitN_nat, show ((4 * i + 2 : Nat) : Int) = 4 * (i : Int) + 2 by omega] at h2
      rw [bitN_nat, show ((4 * i + 3 : Nat) : Int) = 4 * (i : Int) + 3 by omega] at h3
      have hd := hex_bits V i
      have l0 : V / 2 ^ (4 * i) % 2 < 2 := Nat.mod_lt _ (by omega)
      have l1 : V / 2 ^ (4 * i + 1) % 2 < 2 := Nat.mod_lt _ (by omega)
      have l2 : V / 2 ^ (4 * i + 2) % 2 < 2 := Nat.mod_lt _ (by omega)
      have l3 : V / 2 ^ (4 * i + 3) % 2 < 2 := Nat.mod_lt _ (by omega)
      clear hB hW
      generalize V / 2 ^ (4 * i) % 2 = b0 at *
      generalize V / 2 ^ (4 * i + 1) % 2 = b1 at *
      generalize V / 2 ^ (4 * i + 2) % 2 = b2 at *
      generalize V / 2 ^ (4 * i + 3) % 2 = b3 at *
      have o1 := or_hex1 b0 b1 l0 l1
      have o2 := or_hex2 (b0 + b1 * 2) b2 (by omega) l2
      have o3 := or_hex3 (b0 + b1 * 2 + b2 * 4) b3 (by omega) l3
      have hx16 : b0 + b1 * 2 + b2 * 4 + b3 * 8 < 16 := by omega
      rw [← hd] at o3 hx16
      generalize b0 + b1 * 2 + b2 * 4 = c2 at *
      generalize b0 + b1 * 2 = c1 at *
      obtain ⟨x, hx⟩ : ∃ x, x = dig 16 V i := ⟨_, rfl⟩
      rw [← hx] at o3 hx16
      have HX : Hid (x = dig 16 V i) := hx
      clear hx hd
      have hi' : (0 : Int) ≤ (i : Int) := Int.natCast_nonneg _
      go_wp2_with fail
      refine h0.mono ?_
      rintro e w' ⟨rfl, rfl⟩
      go_wp2_with fail
      refine h1.mono ?_
      rintro e w' ⟨rfl, rfl⟩
      go_wp2_with fail
      refine h2.mono ?_
      rintro e w' ⟨rfl, rfl⟩
      go_wp2_with fail
      refine h3.mono ?_
      rintro e w' ⟨rfl, rfl⟩
      clear h0 h1 h2 h3
      have hts : t.size ≤ 10000000000 := by
        have := congrArg List.length ht.out
        rw [hexTop_length] at this
        have e := size_list t
        omega
      have hes := hex_size x hx16
      have HE : Hid ((t ++ hexAll.extract x (x + 1)).data.toList = hexTop V n (n - i)) := by
        unfold Hid
        rw [ByteArray.data_append, Array.toList_append, ht.out, hex_ext x hx16, HX.out, show n - i = (n - (i + 1)) + 1 by omega, hexTop, show n - 1 - (n - (i + 1)) = i by omega]
      go_wp2
      go_roundw
      case rel => exact ⟨i, _, by omega, by go_num, rfl, HE, hwr⟩
      case measure => simp [intOf]

end Go.Proofs.YtcdpmiheeenmmaaDoor
