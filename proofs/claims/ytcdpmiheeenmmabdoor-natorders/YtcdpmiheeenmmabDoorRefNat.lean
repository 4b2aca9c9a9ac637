/- The plain answers of layer 3: OfBytes, Resize, Word, Bytes. -/
import Derived.Test.YtcdpmiheeenmmabDoorBigBytes
import Derived.Test.YtcdpmiheeenmmabDoorBigBit
namespace Go.Proofs.YtcdpmiheeenmmabDoor
open Go.RowKit

/-- The error's number, where a number is put into n words. -/
def resCode (V : Nat) (n : Int) : Int := if 300 < n then 2 else if n < 0 ∨ n.toNat < wordsN V then 1 else 0

/-- The words then. -/
def resList (V : Nat) (n : Int) : List Nat := if resCode V n = 0 then digs 18446744073709551616 V n.toNat else []

theorem res_long {V : Nat} {n : Int} (h : 300 < n) : resCode V n = 2 ∧ resList V n = [] := by
  have e : resCode V n = 2 := if_pos h
  exact ⟨e, by unfold resList; rw [if_neg (by rw [e]; decide)]⟩

theorem res_range {V : Nat} {n : Int} (h : ¬ 300 < n) (h2 : n < 0 ∨ n.toNat < wordsN V) : resCode V n = 1 ∧ resList V n = [] := by
  have e : resCode V n = 1 := by unfold resCode; rw [if_neg h, if_pos h2]
  exact ⟨e, by unfold resList; rw [if_neg (by rw [e]; decide)]⟩

theorem res_ok {V n : Nat} (h : n ≤ 300) (h2 : wordsN V ≤ n) : resCode V (n : Int) = 0 ∧ resList V (n : Int) = digs 18446744073709551616 V n := by
  have e : resCode V (n : Int) = 0 := by unfold resCode; rw [if_neg (by omega), if_neg (by simp; omega)]
  exact ⟨e, by unfold resList; rw [if_pos e, Int.toNat_natCast]⟩

/-- How many words a word is put into. -/
def clampN (n : Int) : Nat := (min (max n 1) 300).toNat

/-- The error's number, where a number of so many words is put into bytes. -/
def bytCode (V len : Nat) (n : Int) : Int := if 2400 < n ∨ 300 < len then 2 else if n < 0 ∨ n.toNat < (blen V + 7) / 8 then 1 else 0

def bytList (V len : Nat) (n : Int) : List Nat := if bytCode V len n = 0 then bes V n.toNat n.toNat else []

theorem byt_long {V len : Nat} {n : Int} (h : 2400 < n ∨ 300 < len) : bytCode V len n = 2 ∧ bytList V len n = [] := by
  have e : bytCode V len n = 2 := if_pos h
  exact ⟨e, by unfold bytList; rw [if_neg (by rw [e]; decide)]⟩

theorem byt_range {V len : Nat} {n : Int} (h : ¬ (2400 < n ∨ 300 < len)) (h2 : n < 0 ∨ n.toNat < (blen V + 7) / 8) : bytCode V len n = 1 ∧ bytList V len n = [] := by
  have e : bytCode V len n = 1 := by unfold bytCode; rw [if_neg h, if_pos h2]
  exact ⟨e, by unfold bytList; rw [if_neg (by rw [e]; decide)]⟩

theorem byt_ok {V len n : Nat} (h : n ≤ 2400) (hl : len ≤ 300) (h2 : (blen V + 7) / 8 ≤ n) : bytCode V len (n : Int) = 0 ∧ bytList V len (n : Int) = bes V n n := by
  have e : bytCode V len (n : Int) = 0 := by unfold bytCode; rw [if_neg (by omega), if_neg (by simp; omega)]
  exact ⟨e, by unfold bytList; rw [if_pos e, Int.toNat_natCast]⟩

theorem blen_bd {w : World} {v : Value} {V : Nat} (h : IsBig w v V) : blen V ≤ 32000000000 := by
  obtain ⟨ds, _, hd, _, rfl, hl⟩ := h
  have h1 := val_lt (by omega) hd
  have e : (4294967296 : Nat) ^ ds.length = 2 ^ (32 * ds.length) := by rw [Nat.pow_mul]
  rw [e] at h1
  have := (blen_le _ _).2 h1
  omega

end Go.Proofs.YtcdpmiheeenmmabDoor
