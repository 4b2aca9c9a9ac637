/- Put together of: Base4 Div1. -/
import Derived.Test.YtldbfcifoijliaaGreatDoorPk1
import Derived.Test.YtldbfcifoijliaaGreatDoorPk4
import Derived.Test.YtldbfcifoijliaaGreatDoorRows
import Derived.Shelf.Strconv.Itoa0
import Derived.Lib.ItoaNum
import Derived.Laws.CopyOwn

/- Melted of: Lay0 NatA. -/

/- Where bits.Len64 lies in this translation: the table of numbers, each row checked. -/
namespace Go.Proofs.YtldbfcifoijliaaGreatDoor
open Go.Shelf

def l129_ren : Go.Shelf.Ren := ⟨fun | 129 => 62 | n => n, fun | 53 => 24 | 3 => 3 | 4 => 4 | 46 => 63 | 5 => 5 | 9 => 9 | n => n, fun n => n⟩

theorem l129 : Lays.n129 Tryz.prog l129_ren := {
  mixed := by kernel_rfl,
  f129 := Tryz.func62.trans (congrArg some (by kernel_rfl)),
  t3 := Tryz.underlying3,
  a3 := Tryz.isAgg3,
  z3 := Tryz.sizeOf3,
  v3 := Tryz.zeroValue3,
  t4 := Tryz.underlying4,
  a4 := Tryz.isAgg4,
  z4 := Tryz.sizeOf4,
  v4 := Tryz.zeroValue4,
  t5 := Tryz.underlying5,
  a5 := Tryz.isAgg5,
  z5 := Tryz.sizeOf5,
  v5 := Tryz.zeroValue5,
  t9 := Tryz.underlying9,
  a9 := Tryz.isAgg9,
  z9 := Tryz.sizeOf9,
  v9 := Tryz.zeroValue9,
  t46 := Tryz.underlying63,
  a46 := Tryz.isAgg63,
  z46 := Tryz.sizeOf63,
  v46 := Tryz.zeroValue63,
  t53 := Tryz.underlying24,
  a53 := Tryz.isAgg24,
  z53 := Tryz.sizeOf24,
  v53 := Tryz.zeroValue24 }

end Go.Proofs.YtldbfcifoijliaaGreatDoor

/- Package nat: needed, lengthError, Bits, Word, Bit, Resize: what they answer, for any number. -/
namespace Go.Proofs.YtldbfcifoijliaaGreatDoor
open Go.RowKit

set_option maxHeartbeats 400000 in
theorem nNeeded (v : Value) (zs : List Nat) (w : World) (h : Row .u64 w v zs) :
    Calls Tryz.prog 61 #[v] w fun r w' => ∃ m v', r = .returned v' ∧ m ≤ zs.length ∧ Row .u64 w v' (zs.take m) ∧ (∀ i, m ≤ i → zs.getD i 0 = 0) ∧ (m = 0 ∨ zs.getD (m - 1) 0 ≠ 0) ∧ v'.ownBlock = v.ownBlock ∧ (∃ ao n cap, v = .slice ao n cap ∧ v' = .slice ao m cap) ∧ w' = w := by
  have hcut := fun ao n cap (e : v = .slice ao n cap) m (hm : m ≤ zs.length) => (show Row .u64 w (.slice ao n cap) zs from e ▸ h).cut hm
  obtain ⟨ao, n, cap, rfl, hN, h1, h2, h3, h4⟩ := h.open
  have HC : Hid (∀ m, m ≤ n → Row .u64 w (.slice ao m cap) (zs.take m)) := fun m hm => hcut ao n cap rfl m (by have := hN.out; omega)
  have HL : Hid (∀ i, n ≤ i → zs.getD i 0 = 0) := fun i hi => by have := hN.out; rw [List.getD_eq_getElem?_getD, List.getElem?_eq_none (by omega)]; rfl
  clear hcut h h3
  go_enter Tryz.func61, Tryz.ntmps61
  go_wp2_with fail
  go_loop [0] (fun a => ∃ m : Nat, m ≤ n ∧ a = .slice ao m cap ∧ Hid (∀ i, m ≤ i → zs.getD i 0 = 0)) (fun a => lenV a)
  case atStart => exact ⟨n, Nat.le_refl _, rfl, HL⟩
  case round =>
    obtain ⟨m, hm, rfl, hz⟩ := hrel
    cases m with
    | zero =>
      clear h4
      go_wp2
      go_ret
      exact ⟨0, _, rfl, Nat.zero_le _, HC.out 0 (Nat.zero_le _), hz.out, .inl rfl, own_len ao 0 n cap, ⟨ao, n, cap, ⟨rfl, rfl, rfl⟩, rfl⟩, rfl⟩
    | succ j =>
      obtain ⟨b, off, rfl, hc⟩ := h4 j (by omega)
      obtain ⟨z, hzz⟩ : ∃ z, z = zs.getD j 0 := ⟨_, rfl⟩
      rw [← hzz] at hc
      have HZ : Hid (z = zs.getD j 0) := hzz
      clear hzz h4
      by_cases h0 : z = 0
      · have hz0 : ((z : Int) == 0) = true := by simp [h0]
        subst h0
        go_wp2
        go_round
        case rel => exact ⟨j, by omega, rfl, fun i hi => by
          by_cases e : i = j
          · subst e; exact HZ.out.symm
          · exact hz.out i (by omega)⟩
        case measure => simp [lenV]
      · have hne : Hid (zs.getD (j + 1 - 1) 0 ≠ 0) := by
          unfold Hid
          rw [Nat.add_sub_cancel, ← HZ.out]
          exact h0
        have hz0 : ((z : Int) == 0) = false := by simp; omega
        have hz1 : ¬ ((z : Int) = 0) := by omega
        go_wp2
        go_ret
        exact ⟨j + 1, _, rfl, by have := hN.out; omega, HC.out _ hm, hz.out, .inr hne.out, own_len _ _ _ _, ⟨_, _, _, ⟨rfl, rfl, rfl⟩, rfl⟩, rfl⟩

theorem len_words {ds : List Nat} (hd : Digs 18446744073709551616 ds) (ht : Trimmed ds) : ds.length = wordsN (val 18446744073709551616 ds) := by
  have h1 := (len_le_iff (by omega) hd ht (wordsN (val 18446744073709551616 ds))).2 ((wordsN_le _ _).1 (Nat.le_refl _))
  have h2 := (wordsN_le (val 18446744073709551616 ds) ds.length).2 ((len_le_iff (by omega) hd ht _).1 (Nat.le_refl _))
  omega

/-- needed: the same number, its highest word not 0. -/
theorem nNeed (v : Value) (xs : List Nat) (w : World) (h : Row .u64 w v xs) (hd : Digs 18446744073709551616 xs) :
    Calls Tryz.prog 61 #[v] w fun r w' => ∃ v' ys, r = .returned v' ∧ Row .u64 w v' ys ∧ Digs 18446744073709551616 ys ∧ Trimmed ys ∧ val 18446744073709551616 ys = val 18446744073709551616 xs ∧ Hid (ys.length = wordsN (val 18446744073709551616 xs)) ∧ ys.length ≤ xs.length ∧ v'.ownBlock = v.ownBlock ∧ w' = w := by
  refine (nNeeded v xs w h).mono ?_
  rintro e w' ⟨m, v', rfl, hm, hr, hz, ht, ho, _, rfl⟩
  have e1 := take_trim (B := 18446744073709551616) hm hz
  have t1 := trimmed_take hm ht
  refine ⟨v', xs.take m, rfl, hr, hd.take m, t1, e1, ?_, by rw [List.length_take]; omega, ho, rfl⟩
  have := len_words (hd.take m) t1
  rw [e1] at this
  exact this

theorem nLenErr (n : Int) (w : World) : Calls Tryz.prog 53 #[.int .i64 n] w fun r w' => r = .returned (.int .i64 (if 300 < n then 2 else if n < 0 then 1 else 0)) ∧ w' = w := by
  by_cases h1 : 300 < n
  · rw [if_pos h1]
    go_enter Tryz.func53, Tryz.ntmps53
    go_wp2
    go_ret
    exact ⟨rfl, rfl⟩
  · rw [if_neg h1]
    by_cases h2 : n < 0
    · rw [if_pos h2]
      go_enter Tryz.func53, Tryz.ntmps53
      go_wp2
      go_ret
      exact ⟨rfl, rfl⟩
    · rw [if_neg h2]
      go_enter Tryz.func53, Tryz.ntmps53
      go_wp2
      go_ret
      exact ⟨rfl, rfl⟩

theorem bitLen_blen (x : Nat) (h : x < 18446744073709551616) : Lib.bitLen x = blen x := by
  by_cases h0 : x = 0
  · subst h0; rfl
  · obtain ⟨a, b, c⟩ := Lib.bitLenAux_bounds 64 x h h0
    unfold Lib.bitLen
    have h1 := (blen_le x _).2 c
    have h2 : ¬ blen x ≤ Lib.bitLenAux 64 x - 1 := fun k => by have := (blen_le x _).1 k; omega
    omega

theorem blen_top {ys : List Nat} (hd : Digs 18446744073709551616 ys) (ht : Trimmed ys) (hn : 0 < ys.length) : blen (val 18446744073709551616 ys) = 64 * (ys.length - 1) + blen (ys.getD (ys.length - 1) 0) := by
  have e := val_take_drop 18446744073709551616 ys (ys.length - 1) (by omega)
  have hdrop : ys.drop (ys.length - 1) = [ys.getD (ys.length - 1) 0] := by
    rw [List.drop_eq_getElem_cons (by omega), List.drop_eq_nil_of_le (by omega), List.getD_eq_getElem?_getD, List.getElem?_eq_getElem (by omega)]
    rfl
  rw [hdrop] at e
  have hlow : val 18446744073709551616 (ys.take (ys.length - 1)) < 18446744073709551616 ^ (ys.length - 1) := by
    have := val_lt (by omega) (hd.take (ys.length - 1))
    rwa [List.length_take, Nat.min_eq_left (by omega)] at this
  have htop : ys.getD (ys.length - 1) 0 ≠ 0 := by
    rcases ht with h | h
    · omega
    · exact h
  simp only [val, Nat.mul_zero, Nat.add_zero] at e
  generalize ys.getD (ys.length - 1) 0 = y at *
  generalize ys.length - 1 = k at *
  generalize val 18446744073709551616 (ys.take k) = L at *
  generalize val 18446744073709551616 ys = V at *
  have hB : (18446744073709551616 : Nat) ^ k = 2 ^ (64 * k) := by rw [Nat.pow_mul]
  rw [hB] at e hlow
  generalize hM : blen y = M
  have h1 : y < 2 ^ M := (blen_le _ _).1 (by omega)
  have h2 : 2 ^ (M - 1) ≤ y := by
    have : ¬ blen y ≤ M - 1 := by
      have : 0 < blen y := by
        rcases Nat.eq_zero_or_pos (blen y) with z | z
        · have := (blen_le y 0).1 (by omega); omega
        · exact z
      omega
    have := mt (blen_le y (M - 1)).2 this
    omega
  have hM1 : 1 ≤ M := by
    rcases Nat.eq_zero_or_pos M with z | z
    · rw [z] at h1; omega
    · exact z
  have u1 : V < 2 ^ (64 * k + M) := by
    rw [Nat.pow_add]
    have : 2 ^ (64 * k) * (y + 1) ≤ 2 ^ (64 * k) * 2 ^ M := Nat.mul_le_mul_left _ h1
    rw [Nat.mul_add, Nat.mul_one] at this
    omega
  have u2 : 2 ^ (64 * k + (M - 1)) ≤ V := by
    rw [Nat.pow_add]
    have : 2 ^ (64 * k) * 2 ^ (M - 1) ≤ 2 ^ (64 * k) * y := Nat.mul_le_mul_left _ h2
    omega
  have h3 := (blen_le V _).2 u1
  have h4 : ¬ blen V ≤ 64 * k + (M - 1) := fun c => by have := (blen_le V _).1 c; omega
  omega

set_option maxHeartbeats 400000 in
/-- Bits. -/
theorem nBits (v : Value) (xs : List Nat) (w : World) (h : Row .u64 w v xs) (hd : Digs 18446744073709551616 xs) (hl : xs.length ≤ 100000000) :
    Calls Tryz.prog 41 #[v] w fun r w' => r = .returned (.int .i64 (blen (val 18446744073709551616 xs) : Nat)) ∧ w' = w := by
  have hN := nNeed v xs w h hd
  obtain ⟨R, hR⟩ : ∃ R, R = blen (val 18446744073709551616 xs) := ⟨_, rfl⟩
  rw [← hR]
  have HR : Hid (R = blen (val 18446744073709551616 xs)) := hR
  clear hR
  go_enter Tryz.func41, Tryz.ntmps41
  go_wp2_with fail
  refine hN.mono ?_
  rintro e w' ⟨v', ys, rfl, hr, hdy, hty, hv, _, hle, _, rfl⟩
  rw [← hv] at HR
  obtain ⟨ao, n, cap, rfl, hL, h1, h2, h3, h4⟩ := hr.open
  cases n with
  | zero =>
    obtain rfl : ys = [] := List.eq_nil_of_length_eq_zero hL.out
    clear h4 hL
    go_wp2
    go_ret
    exact ⟨by rw [HR.out]; rfl, rfl⟩
  | succ j =>
    have hb := blen_top hdy hty (by have := hL.out; omega)
    have hj : ys.length - 1 = j := by have := hL.out; omega
    rw [hj] at hb
    have hjl : j < 100000000 := by have := hL.out; omega
    obtain ⟨b, off, rfl, hc⟩ := h4 j (by omega)
    have hy : ys.getD j 0 < 18446744073709551616 := hdy.getD (by omega) j
    rw [hb] at HR
    generalize ys.getD j 0 = y at *
    have hB64 : blen y ≤ 64 := (blen_le y 64).2 hy
    have hLen := Any.bits_Len64 l129 (y : Int) w' (by omega) (by omega)
    rw [show ((y : Int).toNat) = y from rfl, bitLen_blen y hy] at hLen
    clear h4 hb hv hr hdy hty hN h hd
    have hw1 : wrap64 ((j : Int) + 1 - 1) = j := by simp [wrap64]; omega
    have hw2 : wrap64 (64 * (j : Int)) = 64 * j := by simp [wrap64]; omega
    have hw3 : wrap64 (64 * (j : Int) + (blen y : Nat)) = 64 * j + (blen y : Nat) := by simp [wrap64]; omega
    generalize blen y = M at *
    go_wp2_with fail
    refine hLen.mono ?_
    rintro e w' ⟨rfl, rfl⟩
    go_wp2
    go_ret
    exact ⟨by rw [HR.out]; simp, rfl⟩

theorem word_digs (x m : Nat) (hx : x < 18446744073709551616) : digs 18446744073709551616 x (m + 1) = x :: List.replicate m 0 := by
  refine (digs_val (by omega) (B := 18446744073709551616) (l := x :: List.replicate m 0) (V := x) (n := m + 1) ?_ (by simp) ?_).symm
  · intro d hd
    rcases List.mem_cons.1 hd with rfl | hd
    · exact hx
    · rw [List.mem_replicate] at hd; omega
  · have hz : val 18446744073709551616 (List.replicate m 0) = 0 := val_zeros _ (fun d hd => (List.mem_replicate.1 hd).2)
    rw [Nat.mod_eq_of_lt (Nat.lt_of_lt_of_le hx (by rw [Nat.pow_succ]; exact Nat.le_mul_of_pos_left _ (Nat.pow_pos (by omega))))]
    simp only [val, hz]
    omega

end Go.Proofs.YtldbfcifoijliaaGreatDoor


/- Melted of: DivA DvA DvB. -/

/- Division of two words by one, and the guess of a quotient's word: plain mathematics, over no program. -/
namespace Go.Proofs.YtldbfcifoijliaaGreatDoor

/-- A guess of a quotient's digit that is not too small: by the divisor's upper digit, corrected by its lower one. -/
structure Gss (B U u y1 y0 q r : Nat) : Prop where
  eq : q * y1 + r = U
  ge : (U * B + u) / (y1 * B + y0) ≤ q
  le : q ≤ B + 1

theorem mul_split (q y1 y0 B : Nat) : (y1 * B + y0) * q = q * y1 * B + q * y0 := by
  rw [Nat.add_mul, Nat.mul_comm (y1 * B) q, ← Nat.mul_assoc, Nat.mul_comm y0 q]

theorem quot_lt {B U u Y : Nat} (hu : u < B) (hU : U < Y) : (U * B + u) / Y < B := by
  rw [Nat.div_lt_iff_lt_mul (by omega)]
  have : (U + 1) * B ≤ Y * B := Nat.mul_le_mul_right _ hU
  rw [Nat.add_mul, Nat.one_mul] at this
  rw [Nat.mul_comm B Y]
  omega

theorem quot_eq {q A Y : Nat} (hY : 0 < Y) (h1 : A / Y ≤ q) (h2 : Y * q ≤ A) : q = A / Y := by
  have h3 : q ≤ A / Y := (Nat.le_div_iff_mul_le hY).2 (by rw [Nat.mul_comm]; exact h2)
  omega

/-- A guess that passes the test is right. -/
theorem Gss.stop {B U u y1 y0 q r : Nat} (g : Gss B U u y1 y0 q r) (hY : 0 < y1 * B + y0) (ht : q * y0 ≤ B * r + u) : q = (U * B + u) / (y1 * B + y0) := by
  refine quot_eq hY g.ge ?_
  rw [mul_split, ← g.eq, Nat.add_mul, Nat.mul_comm r B]
  omega

/-- A guess that does not is too great by one at least. -/
theorem Gss.next {B U u y1 y0 q r : Nat} (g : Gss B U u y1 y0 q r) (hu : u < B) (hU : U < y1 * B + y0) (ht : B ≤ q ∨ B * r + u < q * y0) : 0 < q ∧ Gss B U u y1 y0 (q - 1) (r + y1) := by
  have hlt : (U * B + u) / (y1 * B + y0) < q := by
    rcases ht with h | h
    · exact Nat.lt_of_lt_of_le (quot_lt hu hU) h
    · rw [Nat.div_lt_iff_lt_mul (by omega), Nat.mul_comm q, mul_split, ← g.eq, Nat.add_mul, Nat.mul_comm r B]
      omega
  have hq : 0 < q := Nat.lt_of_le_of_lt (Nat.zero_le _) hlt
  refine ⟨hq, ?_, Nat.le_sub_one_of_lt hlt, by have := g.le; omega⟩
  obtain ⟨p, rfl⟩ : ∃ p, q = p + 1 := ⟨q - 1, by omega⟩
  have := g.eq
  rw [Nat.add_mul, Nat.one_mul] at this
  rw [Nat.add_sub_cancel]; omega

/-- A guess whose rest has grown over a digit passes the test. -/
theorem Gss.over {B u y0 q r : Nat} (hq : q ≤ B) (h0 : y0 < B) (hr : B ≤ r) : q * y0 ≤ B * r + u := by
  have h1 : q * y0 ≤ B * B := Nat.le_trans (Nat.mul_le_mul_right _ hq) (Nat.mul_le_mul_left _ (by omega))
  have h2 : B * B ≤ B * r := Nat.mul_le_mul_left _ hr
  omega

end Go.Proofs.YtldbfcifoijliaaGreatDoor

/- bits.LeadingZeros64, Div64, Rem64: what they answer, for any words. -/
namespace Go.Proofs.YtldbfcifoijliaaGreatDoor
open Go.RowKit

end Go.Proofs.YtldbfcifoijliaaGreatDoor

/- bits.Div64, Rem64, at any words. -/
namespace Go.Proofs.YtldbfcifoijliaaGreatDoor
open Go.RowKit

end Go.Proofs.YtldbfcifoijliaaGreatDoor

