/- The number of a text, the plain way: Parse. -/
import Derived.Test.YtcdpmiheeenmmaaDoorRefShow
import Derived.Test.YtcdpmiheeenmmaaDoorBigShift
namespace Go.Proofs.YtcdpmiheeenmmaaDoor
open Go.RowKit

/-- Whether a sign is a digit. -/
def isHex (c : UInt8) : Bool := (48 ≤ c.toNat && c.toNat ≤ 57) || (97 ≤ c.toNat && c.toNat ≤ 102)

/-- A digit's number. -/
def hexOf (c : UInt8) : Nat := if c.toNat ≤ 57 then c.toNat - 48 else c.toNat - 87

/-- The number of digits. -/
def hexNum (l : List UInt8) : Nat := l.foldl (fun a c => a * 16 + hexOf c) 0

/-- Whether a text is just what Show writes of a number that is not too long. -/
def parseHead (s : ByteArray) : Bool := (3 ≤ s.size) && (s.size ≤ 4802) && (s.extract 0 2).toList == [48, 120] && !(s.toList.getD 2 0 == 48 && 3 < s.size)

def parseOk (s : ByteArray) : Bool := parseHead s && (s.toList.drop 2).all isHex

theorem hexNum_snoc (l : List UInt8) (c : UInt8) : hexNum (l ++ [c]) = hexNum l * 16 + hexOf c := by simp [hexNum]

theorem hexOf_lt {c : UInt8} (h : isHex c = true) : hexOf c < 16 := by
  unfold isHex at h
  unfold hexOf
  simp only [Bool.or_eq_true, Bool.and_eq_true, decide_eq_true_eq] at h
  split <;> omega

theorem hexFold_lt : ∀ (l : List UInt8) (a : Nat), l.all isHex = true → l.foldl (fun a c => a * 16 + hexOf c) a < (a + 1) * 16 ^ l.length
  | [], a, _ => by simp
  | c :: r, a, h => by
    rw [List.all_cons, Bool.and_eq_true] at h
    have h1 := hexOf_lt h.1
    have h2 := hexFold_lt r (a * 16 + hexOf c) h.2
    have h3 : (a * 16 + hexOf c + 1) * 16 ^ r.length ≤ (a + 1) * 16 ^ (r.length + 1) := by
      rw [Nat.pow_succ, Nat.mul_comm (16 ^ r.length) 16, ← Nat.mul_assoc]
      exact Nat.mul_le_mul_right _ (by omega)
    exact Nat.lt_of_lt_of_le h2 h3

theorem hexNum_lt {l : List UInt8} (h : l.all isHex = true) : hexNum l < 16 ^ l.length := by
  have := hexFold_lt l 0 h
  rw [Nat.zero_add, Nat.one_mul] at this
  exact this

theorem hex_dlen {l : List UInt8} (h : l.all isHex = true) : dlen (hexNum l) ≤ l.length := by
  rw [dlen_le]
  exact Nat.lt_of_lt_of_le (hexNum_lt h) (Nat.pow_le_pow_left (by omega) _)

theorem at_list (s : ByteArray) (i : Nat) (h : i < s.size) : s.toList[i]? = some s[i] := by
  rw [ByteArray.toList_eq]
  have : i < s.data.size := h
  rw [Array.getElem?_toList, Array.getElem?_eq_getElem this]
  rfl

theorem size_toList (s : ByteArray) : s.toList.length = s.size := by rw [ByteArray.toList_eq]; exact (size_list s).symm

theorem dlen_16 (a n : Nat) (h : dlen a ≤ n) : dlen (2 ^ 4 * a) ≤ n + 1 := by
  have h1 := (dlen_le a n).1 h
  rw [dlen_le, show 4294967296 ^ (n + 1) = 4294967296 ^ n * 4294967296 from Nat.pow_succ .., Nat.mul_comm (2 ^ 4)]
  exact Nat.mul_lt_mul_of_lt_of_le h1 (by decide) (by decide)

theorem all_false {L : List UInt8} {k : Nat} {c : UInt8} (h : L[k]? = some c) (hc : isHex c = false) : L.all isHex = false := by
  rw [List.all_eq_false]
  exact ⟨c, List.mem_of_getElem? h, by rw [hc]; decide⟩

theorem parse_rel {L : List UInt8} {w w3 : World} {v3 : Value} {k d : Nat} {c : UInt8} (hlt : k < L.length) (ht : L.take (k + 1) = L.take k ++ [c]) (hall : (L.take k).all isHex = true) (h1 : isHex c = true) (h2 : hexOf c = d)
    (b : IsBig w3 v3 (2 ^ 4 * hexNum (L.take k) + d)) (hk : Kept Nought w w3) :
    ∃ k' : Nat, k' ≤ L.length ∧ Value.int .i64 ((k : Int) + 2 + 1) = .int .i64 ((k' : Int) + 2) ∧ Hid ((L.take k').all isHex = true) ∧ IsBig w3 v3 (hexNum (L.take k')) ∧ Kept Nought w w3 := by
  refine ⟨k + 1, by omega, by go_num, ?_, ?_, hk⟩
  · unfold Hid
    rw [ht, List.all_append, hall]
    simp [h1]
  · rw [ht, hexNum_snoc, h2]
    have e : hexNum (L.take k) * 16 + d = 2 ^ 4 * hexNum (L.take k) + d := by omega
    rw [e]
    exact b

theorem dlen_one (d : Nat) (h : d < 16) : dlen d ≤ 1 := (dlen_le _ 1).2 (by omega)

set_option maxRecDepth 100000 in
set_option maxHeartbeats 1600000 in
theorem rParse (s : ByteArray) (ok : Bool) (R : List Nat) (w : World) (hs : s.size ≤ maxLen) (hno : parseOk s = false → ok = false ∧ R = [])
    (hyes : parseOk s = true → ok = true ∧ R = digs 18446744073709551616 (hexNum (s.toList.drop 2)) (max (wordsN (hexNum (s.toList.drop 2))) 1)) :
    Calls Tryd.prog 28 #[.string s] w fun r w' => ∃ v', r = .returned (.tuple #[v', .bool ok]) ∧ Row .u64 w' v' R ∧ Kept Nought w w' := by
  unfold maxLen at hs
  have HY : Hid (parseOk s = true → ok = true ∧ R = digs 18446744073709551616 (hexNum (s.toList.drop 2)) (max (wordsN (hexNum (s.toList.drop 2))) 1)) := hyes
  have HNo : Hid (parseOk s = false → ok = false ∧ R = []) := hno
  clear hyes hno
  by_cases hh : parseHead s = true
  · have hh' := hh
    unfold parseHead at hh'
    simp only [Bool.and_eq_true, decide_eq_true_eq, beq_iff_eq, Bool.not_eq_true', Bool.and_eq_false_iff] at hh'
    obtain ⟨⟨⟨h1, h2⟩, h3⟩, h4⟩ := hh'
    obtain ⟨L, hL⟩ : ∃ L, L = s.toList.drop 2 := ⟨_, rfl⟩
    have hsz := size_toList s
    have hLl : L.length + 2 = s.size := by rw [hL, List.length_drop]; omega
    have hat : ∀ k (h : k + 2 < s.size), L[k]? = some (s[k + 2]'h) := fun k h => by rw [hL, List.getElem?_drop, Nat.add_comm 2 k, at_list s (k + 2) h]
    have hPok : Hid (parseOk s = L.all isHex) := by unfold Hid parseOk; rw [hh, hL]; rfl
    rw [← hL] at HY
    have hz := at_list s 2 (by omega)
    have h48 : s.toList.getD 2 0 = s[2] := by rw [List.getD_eq_getElem?_getD, hz]; rfl
    have t1 : ¬ (s.size : Int) < 3 := by omega
    have t2 : ¬ (4802 : Int) < (s.size : Int) := by omega
    have t3 : ((s.extract 0 2).toList == [48, 120]) = true := by rw [h3]; rfl
    clear hh hsz hz hL
    have cases4 : (¬ (s[2].toNat = 48)) ∨ (s[2].toNat = 48 ∧ s.size ≤ 3) := by
      rw [h48] at h4
      by_cases e : s[2].toNat = 48
      · right
        refine ⟨e, ?_⟩
        rcases h4 with h4 | h4
        · exfalso
          have : s[2] = 48 := UInt8.toNat_inj.1 (by rw [e]; rfl)
          rw [this] at h4
          simp at h4
        · simp at h4; exact h4
      · exact .inl e
    clear h4 h48
    have fork : (¬ ((s[2].toNat : Int) = 48)) ∨ ((s[2].toNat : Int) = 48 ∧ ¬ (3 : Int) < (s.size : Int)) := by omega
    clear cases4
    rcases fork with g1 | ⟨g1, g2⟩
    all_goals
      go_enter Tryd.func28, Tryd.ntmps28
      go_wp2_with fail
      go_loopw [4, 5] (fun a i wr => ∃ (k : Nat), k ≤ L.length ∧ i = .int .i64 ((k : Int) + 2) ∧ Hid ((L.take k).all isHex = true) ∧ IsBig wr a (hexNum (L.take k)) ∧ Kept Nought w wr) (fun _ i _ => L.length + 2 - (intOf i).toNat)
      case atStart => exact ⟨0, Nat.zero_le _, rfl, rfl, IsBig.nil _, Kept.refl _ _⟩
      case round =>
        obtain ⟨k, hk, rfl, hall, hbig, hkp⟩ := hrel
        by_cases hlt : k < L.length
        · have hi : k + 2 < s.size := by omega
          have hc := hat k hi
          obtain ⟨c, hcc⟩ : ∃ c, c = s[k + 2]'hi := ⟨_, rfl⟩
          rw [← hcc] at hc
          obtain ⟨x, hx⟩ : ∃ x, x = c.toNat := ⟨_, rfl⟩
          have hxr : (s[k + 2]'hi).toNat = x := by rw [← hcc, hx]
          have hx256 : x < 256 := by rw [hx]; exact c.toNat_lt
          have hi1 : (k : Int) + 2 < (s.size : Int) := by omega
          have HT : Hid (L.take (k + 1) = L.take k ++ [c]) := by unfold Hid; rw [List.take_add_one, hc]; rfl
          have HX : Hid (x = c.toNat) := hx
          clear hat hcc hx
          have hi0 : (0 : Int) ≤ (k : Int) + 2 := by omega
          have hkL : k ≤ 4800 := by omega
          have hdl : dlen (hexNum (L.take k)) ≤ 4800 := Nat.le_trans (hex_dlen hall.out) (by rw [List.length_take]; omega)
          have HA := rShl _ _ 4 wr hbig (by omega) (by omega)
          have hd16 := dlen_16 _ 4800 hdl
          by_cases hx1 : 48 ≤ x ∧ x ≤ 57
          · obtain ⟨y1, y2⟩ := hx1
            obtain ⟨d, hd⟩ : ∃ d, d = x - 48 := ⟨_, rfl⟩
            have hdx : (x : Int) - 48 = (d : Int) := by omega
            have hdb : d < 16 := by omega
            have HO : Hid (isHex c = true ∧ hexOf c = d) := by
              have := HX.out
              unfold Hid isHex hexOf
              rw [← this]
              refine ⟨by simp; omega, by rw [if_pos y2]; omega⟩
            have z1 : (48 : Int) ≤ (x : Int) := by omega
            have z2 : (x : Int) ≤ 57 := by omega
            clear hd
            go_wp2_with fail
            refine HA.mono ?_
            rintro e w1 ⟨v1, rfl, b1, _, k1⟩
            have HB := rSmall d (by omega) w1
            go_wp2_with fail
            refine HB.mono ?_
            rintro e w2 ⟨v2, rfl, b2, _, k2⟩
            have HC := rAdd _ _ _ _ w2 (b1.grew k2) b2 (by omega) (Nat.le_trans (dlen_one d hdb) (by omega))
            go_wp2_with fail
            refine HC.mono ?_
            rintro e w3 ⟨v3, rfl, b3, _, k3⟩
            go_wp2
            go_roundw
            case rel => exact parse_rel hlt HT.out hall.out HO.out.1 HO.out.2 b3 (((hkp.trans k1).trans k2).trans k3)
            case measure => simp [intOf]; omega
          · by_cases hx2 : 97 ≤ x ∧ x ≤ 102
            · obtain ⟨y1, y2⟩ := hx2
              obtain ⟨d, hd⟩ : ∃ d, d = x - 87 := ⟨_, rfl⟩
              have hdx : (x : Int) - 97 + 10 = (d : Int) := by omega
              have hdb : d < 16 := by omega
              have HO : Hid (isHex c = true ∧ hexOf c = d) := by
                have := HX.out
                unfold Hid isHex hexOf
                rw [← this]
                refine ⟨by simp; omega, by rw [if_neg (by omega)]; omega⟩
              have z1 : (97 : Int) ≤ (x : Int) := by omega
              have z2 : (x : Int) ≤ 102 := by omega
              clear hd hx1
              go_wp2_with fail
              refine HA.mono ?_
              rintro e w1 ⟨v1, rfl, b1, _, k1⟩
              have HB := rSmall d (by omega) w1
              go_wp2_with fail
              refine HB.mono ?_
              rintro e w2 ⟨v2, rfl, b2, _, k2⟩
              have HC := rAdd _ _ _ _ w2 (b1.grew k2) b2 (by omega) (Nat.le_trans (dlen_one d hdb) (by omega))
              go_wp2_with fail
              refine HC.mono ?_
              rintro e w3 ⟨v3, rfl, b3, _, k3⟩
              go_wp2
              go_roundw
              case rel => exact parse_rel hlt HT.out hall.out HO.out.1 HO.out.2 b3 (((hkp.trans k1).trans k2).trans k3)
              case measure => simp [intOf]; omega
            · have HO : isHex c = false := by
                have := HX.out
                unfold isHex
                rw [← this]
                simp
                omega
              obtain ⟨rfl, rfl⟩ := HNo.out (by rw [hPok.out]; exact all_false hc HO)
              clear HA
              have z : (x : Int) < 48 ∨ (57 < (x : Int) ∧ (x : Int) < 97) ∨ 102 < (x : Int) := by omega
              clear hx1 hx2
              rcases z with z | ⟨z1, z2⟩ | z
              all_goals
                go_wp2
                go_ret2
                exact ⟨_, rfl, Row.nil _ _, hkp⟩
        · have hall' : L.all isHex = true := by
            have := hall.out
            rwa [List.take_of_length_le (by omega)] at this
          rw [List.take_of_length_le (by omega)] at hbig
          obtain ⟨rfl, rfl⟩ := HY.out (by rw [hPok.out]; exact hall')
          have HLs := rLeast _ _ wr hbig
          have hi1 : ¬ (k : Int) + 2 < (s.size : Int) := by omega
          clear hat hall hall'
          go_wp2_with fail
          refine HLs.mono ?_
          rintro e w1 ⟨v1, rfl, r1, _, k1⟩
          go_wp2
          go_ret2
          exact ⟨_, rfl, r1, hkp.trans k1⟩
  · have hbad : parseOk s = false := by unfold parseOk; rw [Bool.not_eq_true] at hh; rw [hh]; rfl
    obtain ⟨rfl, rfl⟩ := HNo.out hbad
    have hh2 : parseHead s = false := by simpa using hh
    clear HY HNo hbad hh
    unfold parseHead at hh2
    by_cases q1 : s.size < 3
    · have q1' : (s.size : Int) < 3 := by omega
      clear hh2
      go_enter Tryd.func28, Tryd.ntmps28
      go_wp2
      go_ret2
      exact ⟨_, rfl, Row.nil _ _, Kept.refl _ _⟩
    · have q1' : ¬ (s.size : Int) < 3 := by omega
      by_cases q2 : 4802 < s.size
      · have q2' : (4802 : Int) < (s.size : Int) := by omega
        clear hh2
        go_enter Tryd.func28, Tryd.ntmps28
        go_wp2
        go_ret2
        exact ⟨_, rfl, Row.nil _ _, Kept.refl _ _⟩
      · have q2' : ¬ (4802 : Int) < (s.size : Int) := by omega
        by_cases q3 : ((s.extract 0 2).toList == [48, 120]) = true
        · have hz := at_list s 2 (by omega)
          have h48 : s.toList.getD 2 0 = s[2] := by rw [List.getD_eq_getElem?_getD, hz]; rfl
          rw [h48] at hh2
          have q4 : s[2] = 48 ∧ 3 < s.size := by
            have e1 : decide (3 ≤ s.size) = true := by simp; omega
            have e2 : decide (s.size ≤ 4802) = true := by simp; omega
            rw [e1, e2, q3] at hh2
            simpa using hh2
          have hp2 : 2 < s.size := by omega
          have q5 : ((s[2]'hp2).toNat : Int) = 48 := by rw [q4.1]; rfl
          have q6 : (3 : Int) < (s.size : Int) := by omega
          clear hh2 h48 hz
          go_enter Tryd.func28, Tryd.ntmps28
          go_wp2
          go_ret2
          exact ⟨_, rfl, Row.nil _ _, Kept.refl _ _⟩
        · have q3' : ((s.extract 0 2).toList == [48, 120]) = false := by simpa using q3
          clear hh2 q3
          go_enter Tryd.func28, Tryd.ntmps28
          go_wp2
          go_ret2
          exact ⟨_, rfl, Row.nil _ _, Kept.refl _ _⟩

end Go.Proofs.YtcdpmiheeenmmaaDoor
