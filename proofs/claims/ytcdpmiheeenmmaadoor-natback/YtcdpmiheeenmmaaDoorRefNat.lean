/- The plain answers of layer 3: OfBytes, Resize, Word, Bytes. -/
import Derived.Test.YtcdpmiheeenmmaaDoorBigBytes
import Derived.Test.YtcdpmiheeenmmaaDoorBigBit
namespace Go.Proofs.YtcdpmiheeenmmaaDoor
open Go.RowKit

/-- The error's number, where a number is put into n words. -/
def resCode (V : Nat) (n : Int) : Int := if 300 < n then 2 else if n < 0 ∨ n.toNat < wordsN V then 1 else 0

/-- The words then. -/
def resList (V : Nat) (n : Int) : List Nat := if resCode V n = 0 then digs 18446744073709551616 V n.toNat else []

theorem res_long {V : Nat} {n : Int} (h : 300 < n) : resCode V n = 2 ∧ resList V n = [] := by
  have e : resCode V n = 2 := if_pos h
  exact ⟨e, by unfold resList; rw [if_neg (by rw [e]; decide)]⟩

theorem res_range {V : Nat} {n : Int} (h : ¬ 300 < n) (h2 : n < 0 ∨ n.toNat < wordsN V) : resCode V n = 1 ∧ resList V n = [] := by
  have e : resCode V n = 1 := by unfold resCode; rw [if_neg h, if_pos h2]
  exact ⟨e, by unfold resList; rw [if_neg (by rw [e]; decide)]⟩

theorem res_ok {V n : Nat} (h : n ≤ 300) (h2 : wordsN V ≤ n) : resCode V (n : Int) = 0 ∧ resList V (n : Int) = digs 18446744073709551616 V n := by
  have e : resCode V (n : Int) = 0 := by unfold resCode; rw [if_neg (by omega), if_neg (by simp; omega)]
  exact ⟨e, by unfold resList; rw [if_pos e, Int.toNat_natCast]⟩

set_option maxHeartbeats 400000 in
theorem rOfBytes (v : Value) (bs : List Nat) (n : Int) (w : World) (h : Row .u8 w v bs) (hd : Digs 256 bs) (hl : bs.length ≤ 100000000) :
    Calls Tryd.prog 11 #[v, .int .i64 n] w fun r w' => ∃ v', r = .returned (.tuple #[v', .int .i64 (resCode (bev bs) n)]) ∧ Row .u64 w' v' (resList (bev bs) n) ∧ Kept Nought w w' := by
  have hF := rFromBytes v bs w h hd hl
  clear h hd hl
  generalize bev bs = V at *
  by_cases h1 : 300 < n
  · obtain ⟨e1, e2⟩ := res_long (V := V) h1
    rw [e1, e2]
    clear hF
    go_enter Tryd.func11, Tryd.ntmps11
    go_wp2
    go_ret2
    exact ⟨_, rfl, Row.nil _ _, Kept.refl _ _⟩
  · by_cases h2 : n < 0
    · obtain ⟨e1, e2⟩ := res_range (V := V) h1 (.inl h2)
      rw [e1, e2]
      go_enter Tryd.func11, Tryd.ntmps11
      go_wp2_with fail
      refine hF.mono ?_
      rintro e w1 ⟨v1, rfl, hb, _, k1⟩
      go_wp2
      go_ret2
      exact ⟨_, rfl, Row.nil _ _, k1⟩
    · obtain ⟨m, rfl⟩ := Int.eq_ofNat_of_zero_le (show 0 ≤ n by omega)
      by_cases h3 : wordsN V ≤ m
      · obtain ⟨e1, e2⟩ := res_ok (V := V) (n := m) (by omega) h3
        rw [e1, e2]
        have h3' : ¬ (m : Int) < (wordsN V : Int) := by omega
        go_enter Tryd.func11, Tryd.ntmps11
        go_wp2_with fail
        refine hF.mono ?_
        rintro e w1 ⟨v1, rfl, hb, _, k1⟩
        have hW := rWordsBig v1 V w1 hb
        have hNt := rNat v1 V m w1 hb (by omega)
        clear h3
        generalize wordsN V = q at *
        go_wp2_with fail
        refine hW.mono ?_
        rintro e w' ⟨rfl, rfl⟩
        go_wp2_with fail
        refine hNt.mono ?_
        rintro e w2 ⟨v2, rfl, hr, _, k2⟩
        go_wp2
        go_ret2
        exact ⟨_, rfl, hr, k1.trans k2⟩
      · obtain ⟨e1, e2⟩ := res_range (V := V) (n := (m : Int)) h1 (.inr (by simp; omega))
        rw [e1, e2]
        have h3' : (m : Int) < (wordsN V : Int) := by omega
        go_enter Tryd.func11, Tryd.ntmps11
        go_wp2_with fail
        refine hF.mono ?_
        rintro e w1 ⟨v1, rfl, hb, _, k1⟩
        have hW := rWordsBig v1 V w1 hb
        clear h3
        generalize wordsN V = q at *
        go_wp2_with fail
        refine hW.mono ?_
        rintro e w' ⟨rfl, rfl⟩
        go_wp2
        go_ret2
        exact ⟨_, rfl, Row.nil _ _, k1⟩

set_option maxHeartbeats 400000 in
theorem rResize (v : Value) (xs : List Nat) (n : Int) (w : World) (h : Row .u64 w v xs) (hd : Digs 18446744073709551616 xs) (hl : xs.length ≤ 100000000) :
    Calls Tryd.prog 17 #[v, .int .i64 n] w fun r w' => ∃ v', r = .returned (.tuple #[v', .int .i64 (resCode (val 18446744073709551616 xs) n)]) ∧ Row .u64 w' v' (resList (val 18446744073709551616 xs) n) ∧ Kept Nought w w' := by
  have hF := rOf v xs w h hd hl
  clear h hd hl
  generalize val 18446744073709551616 xs = V at *
  by_cases h1 : 300 < n
  · obtain ⟨e1, e2⟩ := res_long (V := V) h1
    rw [e1, e2]
    clear hF
    go_enter Tryd.func17, Tryd.ntmps17
    go_wp2
    go_ret2
    exact ⟨_, rfl, Row.nil _ _, Kept.refl _ _⟩
  · by_cases h2 : n < 0
    · obtain ⟨e1, e2⟩ := res_range (V := V) h1 (.inl h2)
      rw [e1, e2]
      go_enter Tryd.func17, Tryd.ntmps17
      go_wp2_with fail
      refine hF.mono ?_
      rintro e w1 ⟨v1, rfl, hb, _, k1⟩
      go_wp2
      go_ret2
      exact ⟨_, rfl, Row.nil _ _, k1⟩
    · obtain ⟨m, rfl⟩ := Int.eq_ofNat_of_zero_le (show 0 ≤ n by omega)
      by_cases h3 : wordsN V ≤ m
      · obtain ⟨e1, e2⟩ := res_ok (V := V) (n := m) (by omega) h3
        rw [e1, e2]
        have h3' : ¬ (m : Int) < (wordsN V : Int) := by omega
        go_enter Tryd.func17, Tryd.ntmps17
        go_wp2_with fail
        refine hF.mono ?_
        rintro e w1 ⟨v1, rfl, hb, _, k1⟩
        have hW := rWordsBig v1 V w1 hb
        have hNt := rNat v1 V m w1 hb (by omega)
        clear h3
        generalize wordsN V = q at *
        go_wp2_with fail
        refine hW.mono ?_
        rintro e w' ⟨rfl, rfl⟩
        go_wp2_with fail
        refine hNt.mono ?_
        rintro e w2 ⟨v2, rfl, hr, _, k2⟩
        go_wp2
        go_ret2
        exact ⟨_, rfl, hr, k1.trans k2⟩
      · obtain ⟨e1, e2⟩ := res_range (V := V) (n := (m : Int)) h1 (.inr (by simp; omega))
        rw [e1, e2]
        have h3' : (m : Int) < (wordsN V : Int) := by omega
        go_enter Tryd.func17, Tryd.ntmps17
        go_wp2_with fail
        refine hF.mono ?_
        rintro e w1 ⟨v1, rfl, hb, _, k1⟩
        have hW := rWordsBig v1 V w1 hb
        clear h3
        generalize wordsN V = q at *
        go_wp2_with fail
        refine hW.mono ?_
        rintro e w' ⟨rfl, rfl⟩
        go_wp2
        go_ret2
        exact ⟨_, rfl, Row.nil _ _, k1⟩

/-- How many words a word is put into. -/
def clampN (n : Int) : Nat := (min (max n 1) 300).toNat

set_option maxHeartbeats 400000 in
theorem rWord (x : Nat) (hx : x < 18446744073709551616) (n : Int) (w : World) :
    Calls Tryd.prog 19 #[.int .u64 x, .int .i64 n] w fun r w' => ∃ v', r = .returned v' ∧ Row .u64 w' v' (digs 18446744073709551616 x (clampN n)) ∧ Kept Nought w w' := by
  have hS := rSmall x hx w
  have hc : ((clampN n : Nat) : Int) = min (max n 1) 300 := by unfold clampN; omega
  have hb : clampN n ≤ 300 := by unfold clampN; omega
  have hm : min (max n 1) 300 = ((clampN n : Nat) : Int) := hc.symm
  clear hc
  generalize clampN n = m at *
  go_enter Tryd.func19, Tryd.ntmps19
  go_wp2_with fail
  refine hS.mono ?_
  rintro e w1 ⟨v1, rfl, hbg, _, k1⟩
  have hNt := rNat v1 x m w1 hbg (by omega)
  go_wp2_with fail
  refine hNt.mono ?_
  rintro e w2 ⟨v2, rfl, hr, _, k2⟩
  go_wp2
  go_ret
  exact ⟨_, rfl, hr, k1.trans k2⟩

/-- The error's number, where a number of so many words is put into bytes. -/
def bytCode (V len : Nat) (n : Int) : Int := if 2400 < n ∨ 300 < len then 2 else if n < 0 ∨ n.toNat < (blen V + 7) / 8 then 1 else 0

def bytList (V len : Nat) (n : Int) : List Nat := if bytCode V len n = 0 then bes V n.toNat n.toNat else []

theorem byt_long {V len : Nat} {n : Int} (h : 2400 < n ∨ 300 < len) : bytCode V len n = 2 ∧ bytList V len n = [] := by
  have e : bytCode V len n = 2 := if_pos h
  exact ⟨e, by unfold bytList; rw [if_neg (by rw [e]; decide)]⟩

theorem byt_range {V len : Nat} {n : Int} (h : ¬ (2400 < n ∨ 300 < len)) (h2 : n < 0 ∨ n.toNat < (blen V + 7) / 8) : bytCode V len n = 1 ∧ bytList V len n = [] := by
  have e : bytCode V len n = 1 := by unfold bytCode; rw [if_neg h, if_pos h2]
  exact ⟨e, by unfold bytList; rw [if_neg (by rw [e]; decide)]⟩

theorem byt_ok {V len n : Nat} (h : n ≤ 2400) (hl : len ≤ 300) (h2 : (blen V + 7) / 8 ≤ n) : bytCode V len (n : Int) = 0 ∧ bytList V len (n : Int) = bes V n n := by
  have e : bytCode V len (n : Int) = 0 := by unfold bytCode; rw [if_neg (by omega), if_neg (by simp; omega)]
  exact ⟨e, by unfold bytList; rw [if_pos e, Int.toNat_natCast]⟩

theorem blen_bd {w : World} {v : Value} {V : Nat} (h : IsBig w v V) : blen V ≤ 32000000000 := by
  obtain ⟨ds, _, hd, _, rfl, hl⟩ := h
  have h1 := val_lt (by omega) hd
  have e : (4294967296 : Nat) ^ ds.length = 2 ^ (32 * ds.length) := by rw [Nat.pow_mul]
  rw [e] at h1
  have := (blen_le _ _).2 h1
  omega

set_option maxHeartbeats 400000 in
theorem rBytes (v : Value) (xs : List Nat) (n : Int) (w : World) (h : Row .u64 w v xs) (hd : Digs 18446744073709551616 xs) (hl : xs.length ≤ 100000000) :
    Calls Tryd.prog 15 #[v, .int .i64 n] w fun r w' => ∃ v', r = .returned (.tuple #[v', .int .i64 (bytCode (val 18446744073709551616 xs) xs.length n)]) ∧ Row .u8 w' v' (bytList (val 18446744073709551616 xs) xs.length n) ∧ Kept Nought w w' := by
  have hF := rOf v xs w h hd hl
  obtain ⟨ao, len, cap, rfl, hN, _, _, _, _⟩ := h.open
  rw [hN.out]
  clear h hd hl
  generalize val 18446744073709551616 xs = V at *
  by_cases h1 : 2400 < n
  · obtain ⟨e1, e2⟩ := byt_long (V := V) (len := len) (.inl h1)
    rw [e1, e2]
    clear hF
    go_enter Tryd.func15, Tryd.ntmps15
    go_wp2
    go_ret2
    exact ⟨_, rfl, Row.nil _ _, Kept.refl _ _⟩
  · by_cases hlen : 300 < len
    · obtain ⟨e1, e2⟩ := byt_long (V := V) (len := len) (n := n) (.inr hlen)
      rw [e1, e2]
      have hl' : (300 : Int) < (len : Int) := by omega
      clear hF
      go_enter Tryd.func15, Tryd.ntmps15
      go_wp2
      go_ret2
      exact ⟨_, rfl, Row.nil _ _, Kept.refl _ _⟩
    · have hl' : ¬ (300 : Int) < (len : Int) := by omega
      by_cases h2 : n < 0
      · obtain ⟨e1, e2⟩ := byt_range (V := V) (len := len) (n := n) (by omega) (.inl h2)
        rw [e1, e2]
        go_enter Tryd.func15, Tryd.ntmps15
        go_wp2_with fail
        refine hF.mono ?_
        rintro e w1 ⟨v1, rfl, hb, _, k1⟩
        go_wp2
        go_ret2
        exact ⟨_, rfl, Row.nil _ _, k1⟩
      · obtain ⟨m, rfl⟩ := Int.eq_ofNat_of_zero_le (show 0 ≤ n by omega)
        by_cases h3 : (blen V + 7) / 8 ≤ m
        · obtain ⟨e1, e2⟩ := byt_ok (V := V) (len := len) (n := m) (by omega) (by omega) h3
          rw [e1, e2]
          have h3' : ¬ (m : Int) < ((blen V : Int) + 7) / 8 := by omega
          go_enter Tryd.func15, Tryd.ntmps15
          go_wp2_with fail
          refine hF.mono ?_
          rintro e w1 ⟨v1, rfl, hb, _, k1⟩
          have hW := rBitLen v1 V w1 hb
          have hNt := rToBytes v1 V m w1 hb (by omega)
          have hbd := blen_bd hb
          clear h3
          generalize blen V = q at *
          go_wp2_with fail
          refine hW.mono ?_
          rintro e w' ⟨rfl, rfl⟩
          go_wp2_with fail
          refine hNt.mono ?_
          rintro e w2 ⟨v2, rfl, hr, _, k2⟩
          go_wp2
          go_ret2
          exact ⟨_, rfl, hr, k1.trans k2⟩
        · obtain ⟨e1, e2⟩ := byt_range (V := V) (len := len) (n := (m : Int)) (by omega) (.inr (by simp; omega))
          rw [e1, e2]
          have h3' : (m : Int) < ((blen V : Int) + 7) / 8 := by omega
          go_enter Tryd.func15, Tryd.ntmps15
          go_wp2_with fail
          refine hF.mono ?_
          rintro e w1 ⟨v1, rfl, hb, _, k1⟩
          have hW := rBitLen v1 V w1 hb
          have hbd := blen_bd hb
          clear h3
          generalize blen V = q at *
          go_wp2_with fail
          refine hW.mono ?_
          rintro e w' ⟨rfl, rfl⟩
          go_wp2
          go_ret2
          exact ⟨_, rfl, Row.nil _ _, k1⟩

end Go.Proofs.YtcdpmiheeenmmaaDoor
