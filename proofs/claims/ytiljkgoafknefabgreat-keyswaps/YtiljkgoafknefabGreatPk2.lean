/- Put together of: Base3 Base4. -/
import Derived.Test.YtiljkgoafknefabGreatPk1
import Derived.BigRegion
import Derived.Test.YtiljkgoafknefabGreatRows
import Derived.Shelf.Strconv.Itoa0
import Derived.Lib.ItoaNum
import Derived.Laws.CopyOwn

/- Melted of: BigBytes BigBit RefNat. -/

/- The plain numbers in bytes: ToBytes, FromBytes. -/
namespace Go.Proofs.YtiljkgoafknefabGreat
open Go.RowKit

end Go.Proofs.YtiljkgoafknefabGreat

/- The plain numbers' bits: Bit, BitLen; whether two numbers are alike with their lengths: Same. -/
namespace Go.Proofs.YtiljkgoafknefabGreat
open Go.RowKit

/-- Bit number i. -/
def bitN (V : Nat) (i : Int) : Nat := if i < 0 then 0 else V / 2 ^ i.toNat % 2

theorem bitN_nat (V j : Nat) : bitN V (j : Int) = V / 2 ^ j % 2 := by
  unfold bitN
  rw [if_neg (by omega), Int.toNat_natCast]

/-- How many bits a number has. -/
def blen (V : Nat) : Nat := if V = 0 then 0 else Nat.log2 V + 1

theorem blen_le (V n : Nat) : blen V ≤ n ↔ V < 2 ^ n := by
  unfold blen
  by_cases h : V = 0
  · subst h; simp [Nat.pow_pos]
  · rw [if_neg h]
    have := Nat.log2_lt (n := V) (k := n) h
    omega

theorem eq_take_succ {a b : List Nat} {k : Nat} (ha : k < a.length) (hb : k < b.length) (h : a.take k = b.take k) (he : a.getD k 0 = b.getD k 0) : a.take (k + 1) = b.take (k + 1) := by
  rw [List.take_succ_eq_append_getElem ha, List.take_succ_eq_append_getElem hb, h]
  rw [List.getD_eq_getElem?_getD, List.getD_eq_getElem?_getD, List.getElem?_eq_getElem ha, List.getElem?_eq_getElem hb] at he
  simp only [Option.getD_some] at he
  rw [he]

set_option maxHeartbeats 400000 in
theorem rSame (u v : Value) (a b : List Nat) (w : World) (hu : Row .u64 w u a) (hv : Row .u64 w v b) :
    Calls Tryz.prog 7 #[u, v] w fun r w' => r = .returned (.bool (decide (a = b))) ∧ ∃ n, w' = w.drewN n := by
  obtain ⟨ao, n, ac, rfl, hN, h1, h2, _, hA⟩ := hu.open
  obtain ⟨bo, m, bc, rfl, hM, h1', h2', _, hB⟩ := hv.open
  clear hu hv
  by_cases hl : n = m
  · subst hl
    go_enter Tryz.func7, Tryz.ntmps7
    go_wp2_with fail
    go_loopw [5, 13] (fun _ i wr => ∃ k : Nat, k ≤ n ∧ i = .int .i64 k ∧ Hid (a.take k = b.take k) ∧ ∃ m, wr = w.drewN m) (fun _ i _ => n - (intOf i).toNat)
    case atStart => exact ⟨0, Nat.zero_le _, rfl, rfl, 0, rfl⟩
    case round =>
      obtain ⟨k, hk, rfl, ht, m, rfl⟩ := hrel
      by_cases hlt : k < n
      · obtain ⟨ga, oa, rfl, ca⟩ := hA k hlt
        obtain ⟨gb, ob, rfl, cb⟩ := hB k hlt
        have hst : Hid (a.getD k 0 = b.getD k 0 → a.take (k + 1) = b.take (k + 1)) := fun h => eq_take_succ (by have := hN.out; omega) (by have := hM.out; omega) ht.out h
        have hne : Hid (a.getD k 0 ≠ b.getD k 0 → decide (a = b) = false) := fun h => by
          simp only [decide_eq_false_iff_not]
          intro e; subst e; exact h rfl
        clear hA hB ht
        generalize a.getD k 0 = x at *
        generalize b.getD k 0 = y at *
        have hk0 : (0 : Int) ≤ (k : Int) := Int.natCast_nonneg _
        have hk1 : (k : Int) < (n : Int) := by omega
        by_cases he : x = y
        · subst he
          have hq : ((x : Int) == (x : Int)) = true := by simp
          go_wp2_with fail
          go_quiet (fail)
          go_wp2
          go_roundw
          case rel => exact ⟨k + 1, by omega, by go_num, hst.out (by first | rfl | trivial), _, rfl⟩
          case measure => simp [intOf]; omega
        · have hq : ((x : Int) == (y : Int)) = false := by simp; omega
          have hq2 : ((x : Int) != (y : Int)) = true := by simp; omega
          have hr : Hid (decide (a = b) = false) := hne.out he
          go_wp2_with fail
          go_quiet (fail)
          go_wp2
          go_ret
          rw [hr.out]
          exact ⟨rfl, _, World.drewN_drewN _ _ _⟩
      · have hr : Hid (decide (a = b) = true) := by
          have := ht.out
          have e1 := hN.out
          have e2 := hM.out
          rw [List.take_of_length_le (by omega), List.take_of_length_le (by omega)] at this
          unfold Hid; simpa using this
        clear hA hB ht
        have hk1 : ¬ (k : Int) < (n : Int) := by omega
        go_wp2
        go_ret
        rw [hr.out]
        exact ⟨rfl, _, rfl⟩
  · have hr : decide (a = b) = false := by
      simp only [decide_eq_false_iff_not]
      intro e; subst e; exact hl (hN.out.symm.trans hM.out)
    rw [hr]
    have hl' : ¬ (n : Int) = (m : Int) := by omega
    clear hA hB hr
    go_enter Tryz.func7, Tryz.ntmps7
    go_wp2
    go_ret
    exact ⟨rfl, 0, rfl⟩

end Go.Proofs.YtiljkgoafknefabGreat

/- The plain answers of layer 3: OfBytes, Resize, Word, Bytes. -/
namespace Go.Proofs.YtiljkgoafknefabGreat
open Go.RowKit

/-- The error's number, where a number is put into n words. -/
def resCode (V : Nat) (n : Int) : Int := if 300 < n then 2 else if n < 0 ∨ n.toNat < wordsN V then 1 else 0

/-- The words then. -/
def resList (V : Nat) (n : Int) : List Nat := if resCode V n = 0 then digs 18446744073709551616 V n.toNat else []

theorem res_long {V : Nat} {n : Int} (h : 300 < n) : resCode V n = 2 ∧ resList V n = [] := by
  have e : resCode V n = 2 := if_pos h
  exact ⟨e, by unfold resList; rw [if_neg (by rw [e]; decide)]⟩

theorem res_range {V : Nat} {n : Int} (h : ¬ 300 < n) (h2 : n < 0 ∨ n.toNat < wordsN V) : resCode V n = 1 ∧ resList V n = [] := by
  have e : resCode V n = 1 := by unfold resCode; rw [if_neg h, if_pos h2]
  exact ⟨e, by unfold resList; rw [if_neg (by rw [e]; decide)]⟩

theorem res_ok {V n : Nat} (h : n ≤ 300) (h2 : wordsN V ≤ n) : resCode V (n : Int) = 0 ∧ resList V (n : Int) = digs 18446744073709551616 V n := by
  have e : resCode V (n : Int) = 0 := by unfold resCode; rw [if_neg (by omega), if_neg (by simp; omega)]
  exact ⟨e, by unfold resList; rw [if_pos e, Int.toNat_natCast]⟩

/-- How many words a word is put into. -/
def clampN (n : Int) : Nat := (min (max n 1) 300).toNat

end Go.Proofs.YtiljkgoafknefabGreat


/- Melted of: Lay0 NatA. -/

/- Where bits.Len64 lies in this translation: the table of numbers, each row checked. -/
namespace Go.Proofs.YtiljkgoafknefabGreat
open Go.Shelf

def l129_ren : Go.Shelf.Ren := ⟨fun | 129 => 51 | n => n, fun | 53 => 24 | 3 => 3 | 4 => 4 | 46 => 92 | 5 => 5 | 9 => 9 | n => n, fun n => n⟩

theorem l129 : Lays.n129 Tryz.prog l129_ren := {
  mixed := by kernel_rfl,
  f129 := Tryz.func51.trans (congrArg some (by kernel_rfl)),
  t3 := Tryz.underlying3,
  a3 := Tryz.isAgg3,
  z3 := Tryz.sizeOf3,
  v3 := Tryz.zeroValue3,
  t4 := Tryz.underlying4,
  a4 := Tryz.isAgg4,
  z4 := Tryz.sizeOf4,
  v4 := Tryz.zeroValue4,
  t5 := Tryz.underlying5,
  a5 := Tryz.isAgg5,
  z5 := Tryz.sizeOf5,
  v5 := Tryz.zeroValue5,
  t9 := Tryz.underlying9,
  a9 := Tryz.isAgg9,
  z9 := Tryz.sizeOf9,
  v9 := Tryz.zeroValue9,
  t46 := Tryz.underlying92,
  a46 := Tryz.isAgg92,
  z46 := Tryz.sizeOf92,
  v46 := Tryz.zeroValue92,
  t53 := Tryz.underlying24,
  a53 := Tryz.isAgg24,
  z53 := Tryz.sizeOf24,
  v53 := Tryz.zeroValue24 }

end Go.Proofs.YtiljkgoafknefabGreat

/- Package nat: needed, lengthError, Bits, Word, Bit, Resize: what they answer, for any number. -/
namespace Go.Proofs.YtiljkgoafknefabGreat
open Go.RowKit

set_option maxHeartbeats 400000 in
theorem nNeeded (v : Value) (zs : List Nat) (w : World) (h : Row .u64 w v zs) :
    Calls Tryz.prog 50 #[v] w fun r w' => ∃ m v', r = .returned v' ∧ m ≤ zs.length ∧ Row .u64 w v' (zs.take m) ∧ (∀ i, m ≤ i → zs.getD i 0 = 0) ∧ (m = 0 ∨ zs.getD (m - 1) 0 ≠ 0) ∧ v'.ownBlock = v.ownBlock ∧ (∃ ao n cap, v = .slice ao n cap ∧ v' = .slice ao m cap) ∧ w' = w := by
  have hcut := fun ao n cap (e : v = .slice ao n cap) m (hm : m ≤ zs.length) => (show Row .u64 w (.slice ao n cap) zs from e ▸ h).cut hm
  obtain ⟨ao, n, cap, rfl, hN, h1, h2, h3, h4⟩ := h.open
  have HC : Hid (∀ m, m ≤ n → Row .u64 w (.slice ao m cap) (zs.take m)) := fun m hm => hcut ao n cap rfl m (by have := hN.out; omega)
  have HL : Hid (∀ i, n ≤ i → zs.getD i 0 = 0) := fun i hi => by have := hN.out; rw [List.getD_eq_getElem?_getD, List.getElem?_eq_none (by omega)]; rfl
  clear hcut h h3
  go_enter Tryz.func50, Tryz.ntmps50
  go_wp2_with fail
  go_loop [0] (fun a => ∃ m : Nat, m ≤ n ∧ a = .slice ao m cap ∧ Hid (∀ i, m ≤ i → zs.getD i 0 = 0)) (fun a => lenV a)
  case atStart => exact ⟨n, Nat.le_refl _, rfl, HL⟩
  case round =>
    obtain ⟨m, hm, rfl, hz⟩ := hrel
    cases m with
    | zero =>
      clear h4
      go_wp2
      go_ret
      exact ⟨0, _, rfl, Nat.zero_le _, HC.out 0 (Nat.zero_le _), hz.out, .inl rfl, own_len ao 0 n cap, ⟨ao, n, cap, ⟨rfl, rfl, rfl⟩, rfl⟩, rfl⟩
    | succ j =>
      obtain ⟨b, off, rfl, hc⟩ := h4 j (by omega)
      obtain ⟨z, hzz⟩ : ∃ z, z = zs.getD j 0 := ⟨_, rfl⟩
      rw [← hzz] at hc
      have HZ : Hid (z = zs.getD j 0) := hzz
      clear hzz h4
      by_cases h0 : z = 0
      · have hz0 : ((z : Int) == 0) = true := by simp [h0]
        subst h0
        go_wp2
        go_round
        case rel => exact ⟨j, by omega, rfl, fun i hi => by
          by_cases e : i = j
          · subst e; exact HZ.out.symm
          · exact hz.out i (by omega)⟩
        case measure => simp [lenV]
      · have hne : Hid (zs.getD (j + 1 - 1) 0 ≠ 0) := by
          unfold Hid
          rw [Nat.add_sub_cancel, ← HZ.out]
          exact h0
        have hz0 : ((z : Int) == 0) = false := by simp; omega
        have hz1 : ¬ ((z : Int) = 0) := by omega
        go_wp2
        go_ret
        exact ⟨j + 1, _, rfl, by have := hN.out; omega, HC.out _ hm, hz.out, .inr hne.out, own_len _ _ _ _, ⟨_, _, _, ⟨rfl, rfl, rfl⟩, rfl⟩, rfl⟩

theorem len_words {ds : List Nat} (hd : Digs 18446744073709551616 ds) (ht : Trimmed ds) : ds.length = wordsN (val 18446744073709551616 ds) := by
  have h1 := (len_le_iff (by omega) hd ht (wordsN (val 18446744073709551616 ds))).2 ((wordsN_le _ _).1 (Nat.le_refl _))
  have h2 := (wordsN_le (val 18446744073709551616 ds) ds.length).2 ((len_le_iff (by omega) hd ht _).1 (Nat.le_refl _))
  omega

/-- needed: the same number, its highest word not 0. -/
theorem nNeed (v : Value) (xs : List Nat) (w : World) (h : Row .u64 w v xs) (hd : Digs 18446744073709551616 xs) :
    Calls Tryz.prog 50 #[v] w fun r w' => ∃ v' ys, r = .returned v' ∧ Row .u64 w v' ys ∧ Digs 18446744073709551616 ys ∧ Trimmed ys ∧ val 18446744073709551616 ys = val 18446744073709551616 xs ∧ Hid (ys.length = wordsN (val 18446744073709551616 xs)) ∧ ys.length ≤ xs.length ∧ v'.ownBlock = v.ownBlock ∧ w' = w := by
  refine (nNeeded v xs w h).mono ?_
  rintro e w' ⟨m, v', rfl, hm, hr, hz, ht, ho, _, rfl⟩
  have e1 := take_trim (B := 18446744073709551616) hm hz
  have t1 := trimmed_take hm ht
  refine ⟨v', xs.take m, rfl, hr, hd.take m, t1, e1, ?_, by rw [List.length_take]; omega, ho, rfl⟩
  have := len_words (hd.take m) t1
  rw [e1] at this
  exact this

theorem nLenErr (n : Int) (w : World) : Calls Tryz.prog 70 #[.int .i64 n] w fun r w' => r = .returned (.int .i64 (if 300 < n then 2 else if n < 0 then 1 else 0)) ∧ w' = w := by
  by_cases h1 : 300 < n
  · rw [if_pos h1]
    go_enter Tryz.func70, Tryz.ntmps70
    go_wp2
    go_ret
    exact ⟨rfl, rfl⟩
  · rw [if_neg h1]
    by_cases h2 : n < 0
    · rw [if_pos h2]
      go_enter Tryz.func70, Tryz.ntmps70
      go_wp2
      go_ret
      exact ⟨rfl, rfl⟩
    · rw [if_neg h2]
      go_enter Tryz.func70, Tryz.ntmps70
      go_wp2
      go_ret
      exact ⟨rfl, rfl⟩

theorem bitLen_blen (x : Nat) (h : x < 18446744073709551616) : Lib.bitLen x = blen x := by
  by_cases h0 : x = 0
  · subst h0; rfl
  · obtain ⟨a, b, c⟩ := Lib.bitLenAux_bounds 64 x h h0
    unfold Lib.bitLen
    have h1 := (blen_le x _).2 c
    have h2 : ¬ blen x ≤ Lib.bitLenAux 64 x - 1 := fun k => by have := (blen_le x _).1 k; omega
    omega

theorem blen_top {ys : List Nat} (hd : Digs 18446744073709551616 ys) (ht : Trimmed ys) (hn : 0 < ys.length) : blen (val 18446744073709551616 ys) = 64 * (ys.length - 1) + blen (ys.getD (ys.length - 1) 0) := by
  have e := val_take_drop 18446744073709551616 ys (ys.length - 1) (by omega)
  have hdrop : ys.drop (ys.length - 1) = [ys.getD (ys.length - 1) 0] := by
    rw [List.drop_eq_getElem_cons (by omega), List.drop_eq_nil_of_le (by omega), List.getD_eq_getElem?_getD, List.getElem?_eq_getElem (by omega)]
    rfl
  rw [hdrop] at e
  have hlow : val 18446744073709551616 (ys.take (ys.length - 1)) < 18446744073709551616 ^ (ys.length - 1) := by
    have := val_lt (by omega) (hd.take (ys.length - 1))
    rwa [List.length_take, Nat.min_eq_left (by omega)] at this
  have htop : ys.getD (ys.length - 1) 0 ≠ 0 := by
    rcases ht with h | h
    · omega
    · exact h
  simp only [val, Nat.mul_zero, Nat.add_zero] at e
  generalize ys.getD (ys.length - 1) 0 = y at *
  generalize ys.length - 1 = k at *
  generalize val 18446744073709551616 (ys.take k) = L at *
  generalize val 18446744073709551616 ys = V at *
  have hB : (18446744073709551616 : Nat) ^ k = 2 ^ (64 * k) := by rw [Nat.pow_mul]
  rw [hB] at e hlow
  generalize hM : blen y = M
  have h1 : y < 2 ^ M := (blen_le _ _).1 (by omega)
  have h2 : 2 ^ (M - 1) ≤ y := by
    have : ¬ blen y ≤ M - 1 := by
      have : 0 < blen y := by
        rcases Nat.eq_zero_or_pos (blen y) with z | z
        · have := (blen_le y 0).1 (by omega); omega
        · exact z
      omega
    have := mt (blen_le y (M - 1)).2 this
    omega
  have hM1 : 1 ≤ M := by
    rcases Nat.eq_zero_or_pos M with z | z
    · rw [z] at h1; omega
    · exact z
  have u1 : V < 2 ^ (64 * k + M) := by
    rw [Nat.pow_add]
    have : 2 ^ (64 * k) * (y + 1) ≤ 2 ^ (64 * k) * 2 ^ M := Nat.mul_le_mul_left _ h1
    rw [Nat.mul_add, Nat.mul_one] at this
    omega
  have u2 : 2 ^ (64 * k + (M - 1)) ≤ V := by
    rw [Nat.pow_add]
    have : 2 ^ (64 * k) * 2 ^ (M - 1) ≤ 2 ^ (64 * k) * y := Nat.mul_le_mul_left _ h2
    omega
  have h3 := (blen_le V _).2 u1
  have h4 : ¬ blen V ≤ 64 * k + (M - 1) := fun c => by have := (blen_le V _).1 c; omega
  omega

set_option maxHeartbeats 400000 in
/-- Bits. -/
theorem nBits (v : Value) (xs : List Nat) (w : World) (h : Row .u64 w v xs) (hd : Digs 18446744073709551616 xs) (hl : xs.length ≤ 100000000) :
    Calls Tryz.prog 29 #[v] w fun r w' => r = .returned (.int .i64 (blen (val 18446744073709551616 xs) : Nat)) ∧ w' = w := by
  have hN := nNeed v xs w h hd
  obtain ⟨R, hR⟩ : ∃ R, R = blen (val 18446744073709551616 xs) := ⟨_, rfl⟩
  rw [← hR]
  have HR : Hid (R = blen (val 18446744073709551616 xs)) := hR
  clear hR
  go_enter Tryz.func29, Tryz.ntmps29
  go_wp2_with fail
  refine hN.mono ?_
  rintro e w' ⟨v', ys, rfl, hr, hdy, hty, hv, _, hle, _, rfl⟩
  rw [← hv] at HR
  obtain ⟨ao, n, cap, rfl, hL, h1, h2, h3, h4⟩ := hr.open
  cases n with
  | zero =>
    obtain rfl : ys = [] := List.eq_nil_of_length_eq_zero hL.out
    clear h4 hL
    go_wp2
    go_ret
    exact ⟨by rw [HR.out]; rfl, rfl⟩
  | succ j =>
    have hb := blen_top hdy hty (by have := hL.out; omega)
    have hj : ys.length - 1 = j := by have := hL.out; omega
    rw [hj] at hb
    have hjl : j < 100000000 := by have := hL.out; omega
    obtain ⟨b, off, rfl, hc⟩ := h4 j (by omega)
    have hy : ys.getD j 0 < 18446744073709551616 := hdy.getD (by omega) j
    rw [hb] at HR
    generalize ys.getD j 0 = y at *
    have hB64 : blen y ≤ 64 := (blen_le y 64).2 hy
    have hLen := Any.bits_Len64 l129 (y : Int) w' (by omega) (by omega)
    rw [show ((y : Int).toNat) = y from rfl, bitLen_blen y hy] at hLen
    clear h4 hb hv hr hdy hty hN h hd
    have hw1 : wrap64 ((j : Int) + 1 - 1) = j := by simp [wrap64]; omega
    have hw2 : wrap64 (64 * (j : Int)) = 64 * j := by simp [wrap64]; omega
    have hw3 : wrap64 (64 * (j : Int) + (blen y : Nat)) = 64 * j + (blen y : Nat) := by simp [wrap64]; omega
    generalize blen y = M at *
    go_wp2_with fail
    refine hLen.mono ?_
    rintro e w' ⟨rfl, rfl⟩
    go_wp2
    go_ret
    exact ⟨by rw [HR.out]; simp, rfl⟩

theorem word_digs (x m : Nat) (hx : x < 18446744073709551616) : digs 18446744073709551616 x (m + 1) = x :: List.replicate m 0 := by
  refine (digs_val (by omega) (B := 18446744073709551616) (l := x :: List.replicate m 0) (V := x) (n := m + 1) ?_ (by simp) ?_).symm
  · intro d hd
    rcases List.mem_cons.1 hd with rfl | hd
    · exact hx
    · rw [List.mem_replicate] at hd; omega
  · have hz : val 18446744073709551616 (List.replicate m 0) = 0 := val_zeros _ (fun d hd => (List.mem_replicate.1 hd).2)
    rw [Nat.mod_eq_of_lt (Nat.lt_of_lt_of_le hx (by rw [Nat.pow_succ]; exact Nat.le_mul_of_pos_left _ (Nat.pow_pos (by omega))))]
    simp only [val, hz]
    omega

end Go.Proofs.YtiljkgoafknefabGreat

