/- The plain numbers in words: Nat, Least; how two stand to one another: Cmp. -/
import Derived.Test.YtnjmckfkfkalgaaBigs
namespace Go.Proofs.Ytnjmckfkfkalgaa
open Go.RowKit

theorem dig_join (V k : Nat) : dig 18446744073709551616 V k = dig 4294967296 V (2 * k) + 4294967296 * dig 4294967296 V (2 * k + 1) := by
  unfold dig
  have e : (18446744073709551616 : Nat) ^ k = 4294967296 ^ (2 * k) := by rw [Nat.pow_mul]
  have e2 : (4294967296 : Nat) ^ (2 * k + 1) = 4294967296 ^ (2 * k) * 4294967296 := Nat.pow_succ ..
  rw [e, e2, ← Nat.div_div_eq_div_mul]
  generalize V / 4294967296 ^ (2 * k) = x
  omega

theorem or_join32 (x y : Nat) (hx : x < 4294967296) (hy : y < 4294967296) : bits .or .u64 (x : Int) ((y : Int) * 4294967296) = ((x + 4294967296 * y : Nat) : Int) := by
  have h := u64_or_nat x (y * 4294967296) (by omega) (by omega)
  have hj := nat_join 32 (y * 4294967296) x (by omega) (by omega)
  rw [Nat.or_comm, hj] at h
  have e1 : (y : Int) * 4294967296 = ((y * 4294967296 : Nat) : Int) := by omega
  rw [e1, h]
  omega

theorem set_fill (V n k : Nat) (h : k < n) : (digs 18446744073709551616 V k ++ List.replicate (n - k) 0).set k (dig 18446744073709551616 V k) = digs 18446744073709551616 V (k + 1) ++ List.replicate (n - (k + 1)) 0 := by
  rw [List.set_append_right _ _ (by rw [digs_length]; omega), digs_length, Nat.sub_self, digs, show n - k = (n - (k + 1)) + 1 by omega, List.replicate_succ]
  simp

theorem Try.info26 : (Try.prog.info? 26).map (fun i => (i.zero, i.size, i.bytes)) = some (some (.int .u64 0), 1, 8) := by kernel_rfl

theorem zeros_map (k : IntKind) (n : Nat) : (madeCells (Value.int k 0).cells (n * 1)).toList = (List.replicate n 0).map fun z : Nat => Value.int k (z : Int) := by
  rw [Nat.mul_one]
  show (madeCells #[Value.int k 0] n).toList = _
  rw [toList_madeCells_one, List.map_replicate]
  rfl

set_option maxHeartbeats 800000 in
theorem rNat (v : Value) (V n : Nat) (w : World) (h : IsBig w v V) (hn : n ≤ 1000000000) :
    Calls Try.prog 38 #[v, .int .i64 n] w fun r w' => ∃ v', r = .returned v' ∧ Row .u64 w' v' (digs 18446744073709551616 V n) ∧ v'.ownBlock = some w.heap.size ∧ Kept Nought w w' := by
  obtain ⟨i0, hi0, hz0, hz1, hz2⟩ := info_parts Try.info26
  obtain ⟨ds, hr, hd, _, rfl, _⟩ := h
  have HD := fun i W (hk : Kept Nought w W) => rDigit v ds i W (hr.grew hk)
  have hV : ∀ i, ds.getD i 0 = dig 4294967296 (val 4294967296 ds) i := fun i => (dig_val (by omega) hd i).symm
  have hlt : ∀ i, dig 4294967296 (val 4294967296 ds) i < 4294967296 := fun i => Nat.mod_lt _ (by omega)
  simp only [hV] at HD
  clear hr hd hV
  generalize val 4294967296 ds = V at *
  have hm : max (n : Int) 0 = (n : Int) := by omega
  go_enter Try.func38, Try.ntmps38
  go_wp2_with (at_make; refine wpList_make_full _ rfl _ _ 23 rfl w.heap.size 26 i0 _ 1 Try.underlying23 hi0 hz0 hz1 _ _ _ _ n rfl rfl rfl rfl (by rw [hz2]; omega) (by unfold maxLen; omega) (Nat.le_refl _) ?_; intro w1 ho1 hg1)
  rw [zeros_map] at ho1
  have k1 := grown_kept hg1
  go_loopw [12] (fun i wr => ∃ k : Nat, k ≤ n ∧ i = .int .i64 k ∧ wr.ownsRow w.heap.size 26 1 (.slice (some ⟨w.heap.size, 0, none⟩) n n) n ((digs 18446744073709551616 V k ++ List.replicate (n - k) 0).map fun z => .int .u64 (z : Nat)) ∧ Kept Nought w wr) (fun i _ => n - (intOf i).toNat)
  case atStart => exact ⟨0, Nat.zero_le _, rfl, by simpa [digs] using ho1, k1⟩
  case round =>
    clear ho1 hg1 k1
    obtain ⟨k, hk, rfl, ho, hkp⟩ := hrel
    by_cases hkn : k < n
    · have hk1 : (k : Int) < (n : Int) := by omega
      have hc : wr.cell? ⟨w.heap.size, k, none⟩ = some (.int .u64 0) := by
        rw [World.ownsRow.cellAt ho k (by omega), List.getElem?_map, List.getElem?_append_right (by rw [digs_length]; omega), digs_length, Nat.sub_self, List.getElem?_replicate, if_pos (by omega)]
        rfl
      have hf := World.ownsRow.frozenAt ho k
      have hst := fun u => (World.ownsRow.stored ho k u).1
      have hD0 := HD (2 * k) wr hkp
      have hD1 := HD (2 * k + 1) wr hkp
      rw [show ((2 * k : Nat) : Int) = 2 * (k : Int) by omega] at hD0
      rw [show ((2 * k + 1 : Nat) : Int) = 2 * (k : Int) + 1 by omega] at hD1
      have hj : Hid (bits .or .u64 (dig 4294967296 V (2 * k) : Nat) ((dig 4294967296 V (2 * k + 1) : Nat) * 4294967296) = ((dig 18446744073709551616 V k : Nat) : Int)) := by
        unfold Hid
        rw [dig_join]
        exact or_join32 _ _ (hlt _) (hlt _)
      have l0 := hlt (2 * k)
      have l1 := hlt (2 * k + 1)
      clear HD hlt
      generalize dig 4294967296 V (2 * k) = d0 at *
      generalize dig 4294967296 V (2 * k + 1) = d1 at *
      go_wp2_with fail
      refine hD0.mono ?_
      rintro e w' ⟨rfl, rfl⟩
      go_wp2_with fail
      refine hD1.mono ?_
      rintro e w' ⟨rfl, rfl⟩
      go_wp2
      rw [hj.out]
      go_roundw
      case rel =>
        refine ⟨k + 1, by omega, by go_num, ?_, hkp.setCell _ (fun h => by simp at h) _⟩
        rw [← set_fill V n k hkn, List.map_set]
        exact hst _
      case measure => simp [intOf]; omega
    · have hk1 : ¬ (k : Int) < (n : Int) := by omega
      have e : k = n := by omega
      subst e
      rw [Nat.sub_self, List.replicate_zero, List.append_nil] at ho
      clear HD hlt
      go_wp2
      go_ret
      exact ⟨_, rfl, Row.of_own (by rw [digs_length]; exact ho), rfl, hkp⟩

/-- How many words a number needs. -/
def wordsN (V : Nat) : Nat := if V = 0 then 0 else Nat.log2 V / 64 + 1

theorem wordsN_le (V n : Nat) : wordsN V ≤ n ↔ V < 18446744073709551616 ^ n := by
  unfold wordsN
  have e : (18446744073709551616 : Nat) ^ n = 2 ^ (64 * n) := by rw [Nat.pow_mul]
  rw [e]
  by_cases h : V = 0
  · subst h; simp [Nat.pow_pos]
  · rw [if_neg h]
    have := Nat.log2_lt (n := V) (k := 64 * n) h
    omega

/-- Half as many as there are digits. -/
theorem words_half {ds : List Nat} (hd : Digs 4294967296 ds) (ht : Trimmed ds) : (ds.length + 1) / 2 = wordsN (val 4294967296 ds) := by
  have key : ∀ n, (ds.length + 1) / 2 ≤ n ↔ wordsN (val 4294967296 ds) ≤ n := fun n => by
    rw [wordsN_le]
    have e : (18446744073709551616 : Nat) ^ n = 4294967296 ^ (2 * n) := by rw [Nat.pow_mul]
    rw [e, ← len_le_iff (by omega) hd ht]
    omega
  have h1 := (key ((ds.length + 1) / 2)).1 (Nat.le_refl _)
  have h2 := (key (wordsN (val 4294967296 ds))).2 (Nat.le_refl _)
  omega

theorem wordsN_bd {w : World} {v : Value} {V : Nat} (h : IsBig w v V) : wordsN V ≤ 500000000 := by
  obtain ⟨ds, hr, hd, ht, rfl, hl⟩ := h
  rw [← words_half hd ht]
  omega

/-- How two numbers stand to one another. -/
def cmpN (a b : Nat) : Int := if a < b then -1 else if a = b then 0 else 1

theorem cmpN_lt {a b : Nat} (h : a < b) : cmpN a b = -1 := if_pos h

theorem cmpN_gt {a b : Nat} (h : b < a) : cmpN a b = 1 := by unfold cmpN; rw [if_neg (by omega), if_neg (by omega)]

theorem cmpN_eq {a b : Nat} (h : a = b) : cmpN a b = 0 := by unfold cmpN; rw [if_neg (by omega), if_pos h]

theorem val_lt_len {a b : List Nat} (ha : Digs 4294967296 a) (tb : Trimmed b) (h : a.length < b.length) : val 4294967296 a < val 4294967296 b := by
  have h1 := val_lt (by omega) ha
  have h2 := val_le_of_top (B := 4294967296) tb (by omega)
  have h3 : (4294967296 : Nat) ^ a.length ≤ 4294967296 ^ (b.length - 1) := Nat.pow_le_pow_right (by omega) (by omega)
  omega

/-- A higher digit that is less makes the number less. -/
theorem val_lt_top {a b : List Nat} {k : Nat} (ha : Digs 4294967296 a) (hl : a.length = b.length) (hk : k < a.length) (hd : a.drop (k + 1) = b.drop (k + 1)) (h : a.getD k 0 < b.getD k 0) : val 4294967296 a < val 4294967296 b := by
  have ea := val_take_drop 4294967296 a k (by omega)
  have eb := val_take_drop 4294967296 b k (by omega)
  rw [List.drop_eq_getElem_cons hk] at ea
  rw [List.drop_eq_getElem_cons (by omega : k < b.length), ← hd] at eb
  simp only [val] at ea eb
  have h1 : val 4294967296 (a.take k) < 4294967296 ^ k := by
    have := val_lt (by omega) (ha.take k)
    rwa [List.length_take, Nat.min_eq_left (by omega)] at this
  rw [List.getD_eq_getElem?_getD, List.getD_eq_getElem?_getD, List.getElem?_eq_getElem hk, List.getElem?_eq_getElem (by omega : k < b.length)] at h
  simp only [Option.getD_some] at h
  have h2 : 4294967296 ^ k * (a[k] + 4294967296 * val 4294967296 (a.drop (k + 1)) + 1) ≤ 4294967296 ^ k * (b[k] + 4294967296 * val 4294967296 (a.drop (k + 1))) := Nat.mul_le_mul_left _ (by omega)
  rw [Nat.mul_add, Nat.mul_one] at h2
  omega

theorem drop_step {a b : List Nat} {k : Nat} (hl : a.length = b.length) (hk : k < a.length) (hd : a.drop (k + 1) = b.drop (k + 1)) (h : a.getD k 0 = b.getD k 0) : a.drop k = b.drop k := by
  rw [List.drop_eq_getElem_cons hk, List.drop_eq_getElem_cons (by omega : k < b.length), hd]
  rw [List.getD_eq_getElem?_getD, List.getD_eq_getElem?_getD, List.getElem?_eq_getElem hk, List.getElem?_eq_getElem (by omega : k < b.length)] at h
  simp only [Option.getD_some] at h
  rw [h]

theorem drew3 (w : World) (a b c : Nat) : ∃ n, ((w.drewN a).drewN b).drewN c = w.drewN n := ⟨_, by rw [World.drewN_drewN, World.drewN_drewN]⟩

set_option maxHeartbeats 400000 in
theorem rCmp (u v : Value) (A B : Nat) (w : World) (hu : IsBig w u A) (hv : IsBig w v B) :
    Calls Try.prog 40 #[u, v] w fun r w' => r = .returned (.int .i64 (cmpN A B)) ∧ ∃ n, w' = w.drewN n := by
  obtain ⟨a, ra, da, ta, rfl, la⟩ := hu
  obtain ⟨b, rb, db, tb, rfl, lb⟩ := hv
  obtain ⟨ao, n, ac, rfl, hN, h1, h2, _, hA⟩ := ra.open
  obtain ⟨bo, m, bc, rfl, hM, h1', h2', _, hB⟩ := rb.open
  rw [hN.out] at la
  rw [hM.out] at lb
  clear ra rb
  by_cases hl : n = m
  · subst hl
    have hL : Hid (a.length = b.length) := hN.out.trans hM.out.symm
    go_enter Try.func40, Try.ntmps40
    go_wp2_with fail
    go_loopw [5] (fun i wr => ∃ k : Nat, k ≤ n ∧ i = .int .i64 ((k : Int) - 1) ∧ Hid (a.drop k = b.drop k) ∧ ∃ j, wr = w.drewN j) (fun i _ => (intOf i + 1).toNat)
    case atStart => exact ⟨n, Nat.le_refl _, rfl, by have := hN.out; have := hM.out; unfold Hid; rw [List.drop_of_length_le (by omega), List.drop_of_length_le (by omega)], 0, rfl⟩
    case round =>
      obtain ⟨k, hk, rfl, hd, j, rfl⟩ := hrel
      cases k with
      | zero =>
        have he : Hid (cmpN (val 4294967296 a) (val 4294967296 b) = 0) := by
          have := hd.out
          rw [List.drop_zero, List.drop_zero] at this
          exact cmpN_eq (by rw [this])
        clear hA hB
        go_wp2
        go_ret
        rw [he.out]
        exact ⟨rfl, j, rfl⟩
      | succ i =>
        obtain ⟨ga, oa, rfl, ca⟩ := hA i (by omega)
        obtain ⟨gb, ob, rfl, cb⟩ := hB i (by omega)
        have hlt : Hid (a.getD i 0 < b.getD i 0 → val 4294967296 a < val 4294967296 b) := fun h => val_lt_top da hL.out (by have := hN.out; omega) hd.out h
        have hgt : Hid (b.getD i 0 < a.getD i 0 → val 4294967296 b < val 4294967296 a) := fun h => val_lt_top db hL.out.symm (by have := hM.out; omega) hd.out.symm h
        have hst : Hid (a.getD i 0 = b.getD i 0 → a.drop i = b.drop i) := fun h => drop_step hL.out (by have := hN.out; omega) hd.out h
        clear hA hB hd
        generalize a.getD i 0 = x at *
        generalize b.getD i 0 = y at *
        have hi0 : (0 : Int) ≤ (i : Int) := Int.natCast_nonneg _
        have hi1 : (i : Int) < (n : Int) := by omega
        by_cases he : x = y
        · have hq : ((x : Int) == (y : Int)) = true := by simp [he]
          subst he
          go_wp2_with fail
          go_quiet (fail)
          go_wp2
          go_roundw
          case rel => exact ⟨i, by omega, by go_num, hst.out (by first | rfl | trivial), _, rfl⟩
          case measure => simp [intOf]
        · have hq : ((x : Int) == (y : Int)) = false := by simp; omega
          have hq2 : ((x : Int) != (y : Int)) = true := by simp; omega
          by_cases hc : x < y
          · have hr : Hid (cmpN (val 4294967296 a) (val 4294967296 b) = -1) := cmpN_lt (hlt.out hc)
            have hc' : decide ((x : Int) < (y : Int)) = true := by simp; omega
            go_wp2_with fail
            go_quiet (fail)
            go_wp2_with fail
            go_quiet (fail)
            go_wp2
            go_ret
            rw [hr.out]
            exact ⟨rfl, drew3 _ _ _ _⟩
          · have hr : Hid (cmpN (val 4294967296 a) (val 4294967296 b) = 1) := cmpN_gt (hgt.out (by omega))
            have hc' : decide ((x : Int) < (y : Int)) = false := by simp; omega
            go_wp2_with fail
            go_quiet (fail)
            go_wp2_with fail
            go_quiet (fail)
            go_wp2
            go_ret
            rw [hr.out]
            exact ⟨rfl, drew3 _ _ _ _⟩
  · have hl' : ¬ (n : Int) = (m : Int) := by omega
    clear hA hB
    by_cases hc : n < m
    · have hr : Hid (cmpN (val 4294967296 a) (val 4294967296 b) = -1) := cmpN_lt (val_lt_len da tb (by have := hN.out; have := hM.out; omega))
      have hc' : (n : Int) < (m : Int) := by omega
      go_enter Try.func40, Try.ntmps40
      go_wp2
      go_ret
      rw [hr.out]
      exact ⟨rfl, 0, rfl⟩
    · have hr : Hid (cmpN (val 4294967296 a) (val 4294967296 b) = 1) := cmpN_gt (val_lt_len db ta (by have := hN.out; have := hM.out; omega))
      have hc' : ¬ (n : Int) < (m : Int) := by omega
      go_enter Try.func40, Try.ntmps40
      go_wp2
      go_ret
      rw [hr.out]
      exact ⟨rfl, 0, rfl⟩

end Go.Proofs.Ytnjmckfkfkalgaa
