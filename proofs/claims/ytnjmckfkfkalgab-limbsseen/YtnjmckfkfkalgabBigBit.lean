/- The plain numbers' bits: Bit, BitLen; whether two numbers are alike with their lengths: Same. -/
import Derived.Test.YtnjmckfkfkalgabBigNat
namespace Go.Proofs.Ytnjmckfkfkalgab
open Go.RowKit

/-- Bit number i. -/
def bitN (V : Nat) (i : Int) : Nat := if i < 0 then 0 else V / 2 ^ i.toNat % 2

theorem bitN_nat (V j : Nat) : bitN V (j : Int) = V / 2 ^ j % 2 := by
  unfold bitN
  rw [if_neg (by omega), Int.toNat_natCast]

theorem bit_dig (V j : Nat) : dig 4294967296 V (j / 32) / 2 ^ (j % 32) % 2 = V / 2 ^ j % 2 := by
  unfold dig
  have e : (4294967296 : Nat) ^ (j / 32) = 2 ^ (32 * (j / 32)) := by rw [Nat.pow_mul]
  have e3 : (2 : Nat) ^ j = 2 ^ (32 * (j / 32)) * 2 ^ (j % 32) := by rw [← Nat.pow_add]; congr 1; omega
  rw [e, e3, ← Nat.div_div_eq_div_mul]
  generalize V / 2 ^ (32 * (j / 32)) = x
  have e4 : (4294967296 : Nat) = 2 ^ (j % 32) * 2 ^ (32 - j % 32) := by
    rw [← Nat.pow_add, show j % 32 + (32 - j % 32) = 32 by omega]
  rw [e4, Nat.mod_mul_right_div_self]
  have hd : 2 ∣ 2 ^ (32 - j % 32) := ⟨2 ^ (31 - j % 32), by rw [← Nat.pow_succ', show (31 - j % 32).succ = 32 - j % 32 by omega]⟩
  exact Nat.mod_mod_of_dvd _ hd

theorem bit_above {ds : List Nat} (hd : Digs 4294967296 ds) (j : Nat) (h : ds.length ≤ j / 32) : val 4294967296 ds / 2 ^ j % 2 = 0 := by
  have h1 := val_lt (by omega) hd
  have h2 : (4294967296 : Nat) ^ ds.length ≤ 2 ^ j := by
    have e : (4294967296 : Nat) ^ ds.length = 2 ^ (32 * ds.length) := by rw [Nat.pow_mul]
    rw [e]
    exact Nat.pow_le_pow_right (by omega) (by omega)
  rw [Nat.div_eq_of_lt (by omega)]

/-- How many bits a number has. -/
def blen (V : Nat) : Nat := if V = 0 then 0 else Nat.log2 V + 1

theorem blen_le (V n : Nat) : blen V ≤ n ↔ V < 2 ^ n := by
  unfold blen
  by_cases h : V = 0
  · subst h; simp [Nat.pow_pos]
  · rw [if_neg h]
    have := Nat.log2_lt (n := V) (k := n) h
    omega

theorem blen_zero {V k : Nat} (h : V < 2 ^ (k + 1)) (hb : V / 2 ^ k % 2 = 0) : V < 2 ^ k := by
  have h1 : V / 2 ^ k < 2 := by rw [Nat.div_lt_iff_lt_mul (Nat.pow_pos (by omega))]; rw [Nat.pow_succ] at h; omega
  have h2 : V / 2 ^ k = 0 := by
    generalize V / 2 ^ k = q at *
    omega
  rcases Nat.lt_or_ge V (2 ^ k) with h3 | h3
  · exact h3
  · have := (Nat.div_pos_iff).2 ⟨Nat.pow_pos (n := k) (show 0 < 2 by omega), h3⟩
    omega

theorem blen_one {V k : Nat} (h : V < 2 ^ (k + 1)) (hb : V / 2 ^ k % 2 ≠ 0) : blen V = k + 1 := by
  have h1 := (blen_le V (k + 1)).2 h
  have h2 : ¬ blen V ≤ k := fun hk => by
    have := (blen_le V k).1 hk
    rw [Nat.div_eq_of_lt this] at hb
    exact hb rfl
  omega

theorem eq_take_succ {a b : List Nat} {k : Nat} (ha : k < a.length) (hb : k < b.length) (h : a.take k = b.take k) (he : a.getD k 0 = b.getD k 0) : a.take (k + 1) = b.take (k + 1) := by
  rw [List.take_succ_eq_append_getElem ha, List.take_succ_eq_append_getElem hb, h]
  rw [List.getD_eq_getElem?_getD, List.getD_eq_getElem?_getD, List.getElem?_eq_getElem ha, List.getElem?_eq_getElem hb] at he
  simp only [Option.getD_some] at he
  rw [he]

set_option maxHeartbeats 400000 in
theorem rSame (u v : Value) (a b : List Nat) (w : World) (hu : Row .u64 w u a) (hv : Row .u64 w v b) :
    Calls Try.prog 13 #[u, v] w fun r w' => r = .returned (.bool (decide (a = b))) ∧ ∃ n, w' = w.drewN n := by
  obtain ⟨ao, n, ac, rfl, hN, h1, h2, _, hA⟩ := hu.open
  obtain ⟨bo, m, bc, rfl, hM, h1', h2', _, hB⟩ := hv.open
  clear hu hv
  by_cases hl : n = m
  · subst hl
    go_enter Try.func13, Try.ntmps13
    go_wp2_with fail
    go_loopw [5, 13] (fun _ i wr => ∃ k : Nat, k ≤ n ∧ i = .int .i64 k ∧ Hid (a.take k = b.take k) ∧ ∃ m, wr = w.drewN m) (fun _ i _ => n - (intOf i).toNat)
    case atStart => exact ⟨0, Nat.zero_le _, rfl, rfl, 0, rfl⟩
    case round =>
      obtain ⟨k, hk, rfl, ht, m, rfl⟩ := hrel
      by_cases hlt : k < n
      · obtain ⟨ga, oa, rfl, ca⟩ := hA k hlt
        obtain ⟨gb, ob, rfl, cb⟩ := hB k hlt
        have hst : Hid (a.getD k 0 = b.getD k 0 → a.take (k + 1) = b.take (k + 1)) := fun h => eq_take_succ (by have := hN.out; omega) (by have := hM.out; omega) ht.out h
        have hne : Hid (a.getD k 0 ≠ b.getD k 0 → decide (a = b) = false) := fun h => by
          simp only [decide_eq_false_iff_not]
          intro e; subst e; exact h rfl
        clear hA hB ht
        generalize a.getD k 0 = x at *
        generalize b.getD k 0 = y at *
        have hk0 : (0 : Int) ≤ (k : Int) := Int.natCast_nonneg _
        have hk1 : (k : Int) < (n : Int) := by omega
        by_cases he : x = y
        · subst he
          have hq : ((x : Int) == (x : Int)) = true := by simp
          go_wp2_with fail
          go_quiet (fail)
          go_wp2
          go_roundw
          case rel => exact ⟨k + 1, by omega, by go_num, hst.out (by first | rfl | trivial), _, rfl⟩
          case measure => simp [intOf]; omega
        · have hq : ((x : Int) == (y : Int)) = false := by simp; omega
          have hq2 : ((x : Int) != (y : Int)) = true := by simp; omega
          have hr : Hid (decide (a = b) = false) := hne.out he
          go_wp2_with fail
          go_quiet (fail)
          go_wp2
          go_ret
          rw [hr.out]
          exact ⟨rfl, _, World.drewN_drewN _ _ _⟩
      · have hr : Hid (decide (a = b) = true) := by
          have := ht.out
          have e1 := hN.out
          have e2 := hM.out
          rw [List.take_of_length_le (by omega), List.take_of_length_le (by omega)] at this
          unfold Hid; simpa using this
        clear hA hB ht
        have hk1 : ¬ (k : Int) < (n : Int) := by omega
        go_wp2
        go_ret
        rw [hr.out]
        exact ⟨rfl, _, rfl⟩
  · have hr : decide (a = b) = false := by
      simp only [decide_eq_false_iff_not]
      intro e; subst e; exact hl (hN.out.symm.trans hM.out)
    rw [hr]
    have hl' : ¬ (n : Int) = (m : Int) := by omega
    clear hA hB hr
    go_enter Try.func13, Try.ntmps13
    go_wp2
    go_ret
    exact ⟨rfl, 0, rfl⟩

end Go.Proofs.Ytnjmckfkfkalgab
