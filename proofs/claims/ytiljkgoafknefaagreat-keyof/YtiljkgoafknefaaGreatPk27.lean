/- Put together of: Kex2 Mon5. -/
import Derived.Test.YtiljkgoafknefaaGreatPk7
import Derived.Test.YtiljkgoafknefaaGreatPk23
import Derived.Test.YtiljkgoafknefaaGreatPk24
import Derived.Test.YtiljkgoafknefaaGreatPk25
import Derived.Test.YtiljkgoafknefaaGreatPk26

/- Package key: steps of structs, half, Public, Size. (written by wip/gen/kex2.py) -/
namespace Go.Proofs.YtiljkgoafknefaaGreat
open Go.RowKit

set_option maxHeartbeats 800000 in
/-- step, of a modulus. -/
theorem kStepM (ao bo : Option Addr) (n ac K l bc : Nat) (w : World) : Calls Tryz.prog 72 #[.agg #[.slice ao n ac, .int .u64 (K : Nat), .slice bo l bc], .int .i64 0] w fun e w' => e = .returned (.agg #[.slice ao n ac, .int .u64 (K : Nat), .slice bo l bc]) ∧ Kept Nought w w' := by
  have hR := kRefuseNo 0
  obtain ⟨W, hW⟩ : ∃ W, W = (w.alloc (.cells #[.slice ao n ac, .int .u64 (K : Nat), .slice bo l bc] 90)).alloc (.cells #[.slice none 0 0, .int .u64 0, .slice none 0 0] 90) := ⟨_, rfl⟩
  have k0 : Kept Nought w W := by rw [hW]; exact ((Kept.refl Nought w).alloc _).alloc _
  have b1 : W.heap[w.heap.size]? = some (.cells #[.slice ao n ac, .int .u64 (K : Nat), .slice bo l bc] 90 (0, 0)) := by rw [hW]; exact heapAt_alloc (heap_alloc_new _ _)
  have b2 : W.heap[w.heap.size + 1]? = some (.cells #[.slice none 0 0, .int .u64 0, .slice none 0 0] 90 (0, 0)) := by
    rw [hW]
    have := heap_alloc_new (w.alloc (.cells #[.slice ao n ac, .int .u64 (K : Nat), .slice bo l bc] 90)) (.cells #[.slice none 0 0, .int .u64 0, .slice none 0 0] 90)
    rwa [World.size_alloc] at this
  obtain ⟨c0, c1, c2⟩ := cells3 b1
  obtain ⟨f0, f1, f2⟩ := frees3 b2
  obtain ⟨d0, d1, d2⟩ := cells3 (put3 b2 (.slice ao n ac) (.int .u64 (K : Nat)) (.slice bo l bc))
  obtain ⟨g0, g1, g2⟩ := cells3 b2
  have HKK := toHid (k0.next (kept3 W (w.heap.size + 1) (.slice ao n ac) (.int .u64 (K : Nat)) (.slice bo l bc)) (fun x hx e => by omega))
  have HW := toHid hW
  clear hW k0 b1 b2
  go_enter Tryz.func72, Tryz.ntmps72
  go_wp2_with (rw [← HW.out])
  refine (hR W).mono ?_
  rintro e w1 ⟨rfl, rfl⟩
  clear hR
  go_wp2_with fail
  exact bodyPost_ret (v := .agg #[.slice ao n ac, .int .u64 (K : Nat), .slice bo l bc]) (by simp [results, Tryz.results72, go_sem, d0, d1, d2]) rfl ⟨rfl, HKK.out⟩

set_option maxHeartbeats 800000 in
/-- step, of a key. -/
theorem kStepK (no dO po qo dpo dqo qio : Option Addr) (nl nc en dl dc pl pc ql qc dpl dpc dql dqc qil qic : Nat) (w : World) : Calls Tryz.prog 54 #[.agg #[.slice no nl nc, .int .u64 (en : Nat), .slice dO dl dc, .slice po pl pc, .slice qo ql qc, .slice dpo dpl dpc, .slice dqo dql dqc, .slice qio qil qic], .int .i64 0] w fun e w' => e = .returned (.agg #[.slice no nl nc, .int .u64 (en : Nat), .slice dO dl dc, .slice po pl pc, .slice qo ql qc, .slice dpo dpl dpc, .slice dqo dql dqc, .slice qio qil qic]) ∧ Kept Nought w w' := by
  have hR := kRefuseNo 0
  obtain ⟨W, hW⟩ : ∃ W, W = (w.alloc (.cells #[.slice no nl nc, .int .u64 (en : Nat), .slice dO dl dc, .slice po pl pc, .slice qo ql qc, .slice dpo dpl dpc, .slice dqo dql dqc, .slice qio qil qic] 32)).alloc (.cells zeroKey 32) := ⟨_, rfl⟩
  have k0 : Kept Nought w W := by rw [hW]; exact ((Kept.refl Nought w).alloc _).alloc _
  have b1 : W.heap[w.heap.size]? = some (.cells #[.slice no nl nc, .int .u64 (en : Nat), .slice dO dl dc, .slice po pl pc, .slice qo ql qc, .slice dpo dpl dpc, .slice dqo dql dqc, .slice qio qil qic] 32 (0, 0)) := by rw [hW]; exact heapAt_alloc (heap_alloc_new _ _)
  have b2 : W.heap[w.heap.size + 1]? = some (.cells zeroKey 32 (0, 0)) := by
    rw [hW]
    have := heap_alloc_new (w.alloc (.cells #[.slice no nl nc, .int .u64 (en : Nat), .slice dO dl dc, .slice po pl pc, .slice qo ql qc, .slice dpo dpl dpc, .slice dqo dql dqc, .slice qio qil qic] 32)) (.cells zeroKey 32)
    rwa [World.size_alloc] at this
  obtain ⟨c0, c1, c2, c3, c4, c5, c6, c7⟩ := cells8 b1
  have f0 := frees8 b2 0
  have f1 := frees8 b2 1
  have f2 := frees8 b2 2
  have f3 := frees8 b2 3
  have f4 := frees8 b2 4
  have f5 := frees8 b2 5
  have f6 := frees8 b2 6
  have f7 := frees8 b2 7
  obtain ⟨hb3, hk3, -⟩ := stored8 k0 (by omega) b2 (.slice no nl nc) (.int .u64 (en : Nat)) (.slice dO dl dc) (.slice po pl pc) (.slice qo ql qc) (.slice dpo dpl dpc) (.slice dqo dql dqc) (.slice qio qil qic)
  unfold put8w at hb3 hk3
  obtain ⟨d0, d1, d2, d3, d4, d5, d6, d7⟩ := cells8 hb3
  obtain ⟨g0, g1, g2, g3, g4, g5, g6, g7⟩ := cells8 b2
  have HKK := toHid hk3
  have HW := toHid hW
  clear hW k0 b1 b2 hb3 hk3
  unfold zeroKey at HW
  go_enter Tryz.func54, Tryz.ntmps54
  go_wp2_with (rw [← HW.out])
  refine (hR W).mono ?_
  rintro e w1 ⟨rfl, rfl⟩
  clear hR
  go_wp2_with fail
  exact bodyPost_ret (v := .agg #[.slice no nl nc, .int .u64 (en : Nat), .slice dO dl dc, .slice po pl pc, .slice qo ql qc, .slice dpo dpl dpc, .slice dqo dql dqc, .slice qio qil qic]) (by simp [results, Tryz.results54, go_sem, d0, d1, d2, d3, d4, d5, d6, d7]) rfl ⟨rfl, HKK.out⟩

set_option maxHeartbeats 800000 in
/-- step, of a key, of an error. -/
theorem kStepKE (no dO po qo dpo dqo qio : Option Addr) (nl nc en dl dc pl pc ql qc dpl dpc dql dqc qil qic : Nat) (E : Nat) (hE : E ≠ 0) (w : World) : Calls Tryz.prog 54 #[.agg #[.slice no nl nc, .int .u64 (en : Nat), .slice dO dl dc, .slice po pl pc, .slice qo ql qc, .slice dpo dpl dpc, .slice dqo dql dqc, .slice qio qil qic], .int .i64 (E : Nat)] w fun e w' => e = .panicked [refusal (E : Nat)] ∧ Kept Nought w w' := by
  have hR := kRefuseYes (E : Nat)
  obtain ⟨W, hW⟩ : ∃ W, W = (w.alloc (.cells #[.slice no nl nc, .int .u64 (en : Nat), .slice dO dl dc, .slice po pl pc, .slice qo ql qc, .slice dpo dpl dpc, .slice dqo dql dqc, .slice qio qil qic] 32)).alloc (.cells zeroKey 32) := ⟨_, rfl⟩
  have k0 : Kept Nought w W := by rw [hW]; exact ((Kept.refl Nought w).alloc _).alloc _
  have b1 : W.heap[w.heap.size]? = some (.cells #[.slice no nl nc, .int .u64 (en : Nat), .slice dO dl dc, .slice po pl pc, .slice qo ql qc, .slice dpo dpl dpc, .slice dqo dql dqc, .slice qio qil qic] 32 (0, 0)) := by rw [hW]; exact heapAt_alloc (heap_alloc_new _ _)
  have b2 : W.heap[w.heap.size + 1]? = some (.cells zeroKey 32 (0, 0)) := by
    rw [hW]
    have := heap_alloc_new (w.alloc (.cells #[.slice no nl nc, .int .u64 (en : Nat), .slice dO dl dc, .slice po pl pc, .slice qo ql qc, .slice dpo dpl dpc, .slice dqo dql dqc, .slice qio qil qic] 32)) (.cells zeroKey 32)
    rwa [World.size_alloc] at this
  obtain ⟨c0, c1, c2, c3, c4, c5, c6, c7⟩ := cells8 b1
  have hE1 : ¬ (E : Int) = 0 := by omega
  have hb : ((E : Int) != 0) = true := by simp; omega
  have HK0 := toHid k0
  have HW := toHid hW
  clear hW k0 b1 b2
  unfold zeroKey at HW
  go_enter Tryz.func54, Tryz.ntmps54
  go_wp2_with (rw [← HW.out])
  try rw [hb]
  refine (hR W).mono ?_
  rintro e w1 ⟨rfl, rfl⟩
  exact ⟨rfl, rfl, HK0.out⟩

set_option maxHeartbeats 400000 in
/-- attempt of something that leaves all as it was. -/
theorem kAttemptK (f : Nat) (cap : Array Value) (w : World) (E : Nat) (he : ∀ args w, (callFunc f args).run Tryz.prog w = .ok (.enter f args) w)
    (h : Calls Tryz.prog f cap (w.alloc (.cells #[.int .i64 0] 27)) fun e w' => ((E = 0 ∧ e = .returned (.tuple #[])) ∨ (E ≠ 0 ∧ e = .panicked [refusal (E : Nat)])) ∧ Kept Nought (w.alloc (.cells #[.int .i64 0] 27)) w') :
    Calls Tryz.prog 30 #[.func (.func f) #[] cap] w fun e w' => e = .returned (.int .i64 (E : Nat)) ∧ Kept Nought w w' := by
  have xe := heap_alloc_new w (.cells #[.int .i64 0] 27)
  refine (kAttempt f cap w (fun n W' => n = (E : Nat) ∧ Kept Nought (w.alloc (.cells #[.int .i64 0] 27)) W') he (h.mono ?_)).mono ?_
  · rintro e w' ⟨hc, k⟩
    refine ⟨(k.block _ (lt_of_block xe) (fun f => f)).trans xe, ?_⟩
    rcases hc with ⟨rfl, rfl⟩ | ⟨_, rfl⟩
    · exact .inl ⟨rfl, rfl, k⟩
    · exact .inr ⟨_, rfl, rfl, k⟩
  · rintro e w' ⟨n, w1, rfl, ⟨⟨rfl, k⟩, hb⟩, rfl⟩
    exact ⟨rfl, (((Kept.refl Nought w).alloc _).trans k).setCell _ (fun h => by simp at h) _⟩

/-- A number that has as many words as it needs. -/
theorem words_full {xs : List Nat} (hd : Digs 18446744073709551616 xs) (hp : 0 < val 18446744073709551616 xs) : xs.length = wordsN (val 18446744073709551616 xs) ↔ xs.length ≠ 0 ∧ xs.getD (xs.length - 1) 0 ≠ 0 := by
  constructor
  · intro h
    have h0 : xs.length ≠ 0 := fun h0 => by
      rw [List.length_eq_zero_iff.1 h0] at hp
      exact absurd hp (by decide)
    refine ⟨h0, fun ht => ?_⟩
    obtain ⟨n, hn⟩ : ∃ n, xs.length = n + 1 := ⟨xs.length - 1, by omega⟩
    have e : xs = xs.take n ++ [0] := by
      have h1 := List.take_append_drop n xs
      rw [List.drop_eq_getElem_cons (by omega : n < xs.length), List.drop_of_length_le (by omega)] at h1
      have h2 : xs[n]'(by omega) = 0 := by
        rw [hn, Nat.add_sub_cancel, List.getD_eq_getElem?_getD, List.getElem?_eq_getElem (by omega)] at ht
        exact ht
      rw [h2] at h1
      exact h1.symm
    have hv : val 18446744073709551616 xs < 18446744073709551616 ^ n := by
      rw [e, val_snoc, Nat.mul_zero, Nat.add_zero]
      have := val_lt (B := 18446744073709551616) (by omega) (hd.take n)
      rwa [List.length_take, Nat.min_eq_left (by omega)] at this
    have := (wordsN_le (val 18446744073709551616 xs) n).2 hv
    omega
  · rintro ⟨_, h⟩
    exact len_words hd (.inr h)

theorem pub_iff {xs : List Nat} (hd : Digs 18446744073709551616 xs) (hL : xs.length ≤ 1000) (e : Nat) : pubE xs e = 0 ↔ (32 ≤ blen (val 18446744073709551616 xs) ∧ blen (val 18446744073709551616 xs) ≤ 8192) ∧ (xs.length = wordsN (val 18446744073709551616 xs) ∧ val 18446744073709551616 xs % 2 = 1) ∧ 3 ≤ e ∧ e < 4294967296 ∧ e % 2 = 1 := by
  unfold pubE
  constructor
  · intro h
    by_cases hc : xs.length = 0 ∨ 1000 < xs.length ∨ xs.getD (xs.length - 1) 0 = 0 ∨ val 18446744073709551616 xs % 2 = 0 ∨ blen (val 18446744073709551616 xs) < 32 ∨ 8192 < blen (val 18446744073709551616 xs) ∨ e < 3 ∨ e % 2 = 0 ∨ 4294967296 ≤ e
    · rw [if_pos hc] at h
      exact absurd h (by decide)
    · have h0 : 0 < val 18446744073709551616 xs := by omega
      have := (words_full hd h0).2 (by omega)
      omega
  · rintro ⟨h1, h2, h3⟩
    have h0 : 0 < val 18446744073709551616 xs := by omega
    have := (words_full hd h0).1 h2.1
    rw [if_neg (by omega)]

theorem pub_two (xs : List Nat) (e : Nat) : pubE xs e = 0 ∨ pubE xs e = 190 := by
  unfold pubE
  split
  · exact .inr rfl
  · exact .inl rfl

set_option maxHeartbeats 800000 in
/-- Size. -/
theorem kSiz (ao : Option Addr) (L cap : Nat) (xs : List Nat) (w : World) (hu : Row .u64 w (.slice ao L cap) xs) (hd : Digs 18446744073709551616 xs) (hL : L ≤ 1000) :
    Calls Tryz.prog 21 #[.slice ao L cap] w fun e w' => e = .returned (.int .i64 (sizeN (val 18446744073709551616 xs) : Nat)) ∧ Kept Nought w w' := by
  obtain ⟨_, _, _, e1, hl, -, -, -, -⟩ := hu.open
  cases e1
  have hbl : blen (val 18446744073709551616 xs) ≤ 64 * xs.length := (blen_le _ _).2 (by rw [Nat.pow_mul]; exact val_lt (by omega) hd)
  have JB := nBits _ xs w hu hd (by rw [hl.out]; omega)
  have JP := kParts (blen (val 18446744073709551616 xs)) 8 (sizeN (val 18446744073709551616 xs)) rfl (by rw [hl.out] at hbl; omega) (by omega) (by omega) w
  generalize sizeN (val 18446744073709551616 xs) = s at *
  generalize blen (val 18446744073709551616 xs) = b at *
  clear hu hd hl hbl
  go_enter Tryz.func21, Tryz.ntmps21
  go_wp2_with fail
  refine JB.mono ?_
  rintro e w1 ⟨rfl, rfl⟩
  clear JB
  go_wp2_with fail
  refine JP.mono ?_
  rintro e w1 ⟨rfl, rfl⟩
  clear JP
  go_wp2
  go_ret
  exact ⟨rfl, Kept.refl _ _⟩

set_option maxHeartbeats 1000000 in
/-- half, of a number that may be one. -/
theorem kHalf (ao : Option Addr) (L cap : Nat) (xs : List Nat) (X n : Nat) (hX : X = val 18446744073709551616 xs) (hn : n = wordsN X) (hok : L ≤ 300 ∧ halfOk X) (w : World) (hu : Row .u64 w (.slice ao L cap) xs) (hd : Digs 18446744073709551616 xs) :
    Calls Tryz.prog 38 #[.slice ao L cap] w fun e w' => ∃ vo vc, e = .returned (.slice vo n vc) ∧ Row .u64 w' (.slice vo n vc) (digs 18446744073709551616 X n) ∧ Fresh w (.slice vo n vc) ∧ Kept Nought w w' := by
  obtain ⟨_, _, _, e1, hl, -, -, -, -⟩ := hu.open
  cases e1
  obtain ⟨hL, h3, ho, hb⟩ := hok
  have hn1 : n ≤ 300 := by rw [hn]; exact Nat.le_trans (words_of_bits (n := 128) (by omega)) (by omega)
  have JB := nBits _ xs w hu hd (by rw [hl.out]; omega)
  have JO : Hid (∀ W, Kept Nought w W → Calls Tryz.prog 35 #[.slice ao L cap] W fun e w' => e = .returned (.bool true) ∧ w' = W) := fun W k => by
    have h := kOdd ao L cap xs W (hu.grew k) hd
    rw [← hX, decide_eq_true ho] at h
    exact h
  have JL := kBelow ao L cap xs 3 (by omega) false (by symm; exact decide_eq_false (by omega)) w hu hd
  have JN : Hid (∀ W, Kept Nought w W → Calls Tryz.prog 39 #[.slice ao L cap] W fun e w' => ∃ vo vc, e = .returned (.slice vo n vc) ∧ Row .u64 w' (.slice vo n vc) (digs 18446744073709551616 X n) ∧ Fresh W (.slice vo n vc) ∧ Kept Nought W w') := fun W k => kNeed ao L cap xs X n hX hn hn1 W (hu.grew k) hd (by rw [hl.out]; omega)
  have hR := kRefuseNo 190
  rw [← hX] at JB
  obtain ⟨b, hbb⟩ : ∃ b, b = blen X := ⟨_, rfl⟩
  rw [← hbb] at JB hb
  have g1 : ¬ (L : Int) > 300 := by omega
  have g1' : ¬ (300 : Int) < (L : Int) := by omega
  have g2 : ¬ (b : Int) > 8192 := by omega
  have g2' : ¬ (8192 : Int) < (b : Int) := by omega
  have d1 : decide ((300 : Int) < (L : Int)) = false := decide_eq_false g1'
  have d2 : decide ((8192 : Int) < (b : Int)) = false := decide_eq_false g2'
  clear hu hd hl hX hn h3 ho hb hbb hn1 hL
  go_enter Tryz.func38, Tryz.ntmps38
  go_wp2_with fail
  refine JB.mono ?_
  rintro e w1 ⟨rfl, rfl⟩
  clear JB
  go_wp2_with fail
  try rw [d2]
  refine (hR _).mono ?_
  rintro e w1 ⟨rfl, rfl⟩
  clear g1 g1' g2 g2' d1 d2
  go_wp2_with fail
  refine JL.mono ?_
  rintro e w1 ⟨rfl, k1⟩
  have J2 := JO.out _ k1
  have HK1 := toHid k1
  clear JL k1
  go_wp2_with fail
  refine J2.mono ?_
  rintro e w2 ⟨rfl, rfl⟩
  clear J2
  go_wp2_with fail
  refine (hR _).mono ?_
  rintro e w3 ⟨rfl, rfl⟩
  have J3 := JN.out _ HK1.out
  clear hR
  go_wp2_with fail
  refine J3.mono ?_
  rintro e w4 ⟨vo, vc, rfl, hr, hf, k4⟩
  have HR := toHid hr
  have HF := toHid (hf.after HK1.out)
  have HK := toHid (HK1.out.trans k4)
  clear J3 hr hf k4
  go_wp2
  go_ret
  exact ⟨_, _, rfl, HR.out, HF.out, HK.out⟩

set_option maxHeartbeats 1000000 in
/-- half, of a number that may not be one. -/
theorem kHalfBad (ao : Option Addr) (L cap : Nat) (xs : List Nat) (X : Nat) (hX : X = val 18446744073709551616 xs) (hLb : L ≤ 1000000) (hno : ¬ (L ≤ 300 ∧ halfOk X)) (w : World) (hu : Row .u64 w (.slice ao L cap) xs) (hd : Digs 18446744073709551616 xs) :
    Calls Tryz.prog 38 #[.slice ao L cap] w fun e w' => e = .panicked [refusal 190] ∧ Kept Nought w w' := by
  obtain ⟨_, _, _, e1, hl, -, -, -, -⟩ := hu.open
  cases e1
  have hR := kRefuseNo 190
  have hY := kRefuseYes 190
  by_cases hL : L ≤ 300
  · have hno2 : X < 3 ∨ X % 2 = 0 ∨ 8192 < blen X := by
      have h : ¬ halfOk X := fun h => hno ⟨hL, h⟩
      unfold halfOk at h
      omega
    have JB := nBits _ xs w hu hd (by rw [hl.out]; omega)
    have JO : Hid (∀ W, Kept Nought w W → Calls Tryz.prog 35 #[.slice ao L cap] W fun e w' => e = .returned (.bool (decide (X % 2 = 1))) ∧ w' = W) := fun W k => by
      have h := kOdd ao L cap xs W (hu.grew k) hd
      rw [← hX] at h
      exact h
    have JL := kBelow ao L cap xs 3 (by omega) (decide (X < 3)) (by rw [hX]) w hu hd
    rw [← hX] at JB
    obtain ⟨b, hbb⟩ : ∃ b, b = blen X := ⟨_, rfl⟩
    rw [← hbb] at JB hno2
    have g1 : ¬ (L : Int) > 300 := by omega
    have g1' : ¬ (300 : Int) < (L : Int) := by omega
    have d1 : decide ((300 : Int) < (L : Int)) = false := decide_eq_false g1'
    clear hu hd hl hX hbb hno
    by_cases h2 : 8192 < b
    · have g2 : (b : Int) > 8192 := by omega
      have g2' : (8192 : Int) < (b : Int) := by omega
      have d2 : decide ((8192 : Int) < (b : Int)) = true := decide_eq_true g2'
      clear hno2 h2 JO JL hR
      go_enter Tryz.func38, Tryz.ntmps38
      go_wp2_with fail
      refine JB.mono ?_
      rintro e w1 ⟨rfl, rfl⟩
      clear JB
      go_wp2_with fail
      try rw [d2]
      refine (hY _).mono ?_
      rintro e w1 ⟨rfl, rfl⟩
      exact ⟨rfl, rfl, Kept.refl _ _⟩
    · have g2 : ¬ (b : Int) > 8192 := by omega
      have g2' : ¬ (8192 : Int) < (b : Int) := by omega
      have d2 : decide ((8192 : Int) < (b : Int)) = false := decide_eq_false g2'
      by_cases h3 : X < 3
      · rw [decide_eq_true h3] at JL
        clear hno2 h2 JO h3
        go_enter Tryz.func38, Tryz.ntmps38
        go_wp2_with fail
        refine JB.mono ?_
        rintro e w1 ⟨rfl, rfl⟩
        clear JB
        go_wp2_with fail
        try rw [d2]
        refine (hR _).mono ?_
        rintro e w1 ⟨rfl, rfl⟩
        clear g1 g1' g2 g2' d1 d2 hR
        go_wp2_with fail
        refine JL.mono ?_
        rintro e w1 ⟨rfl, k1⟩
        have HK1 := toHid k1
        clear JL k1
        go_wp2_with fail
        refine (hY _).mono ?_
        rintro e w2 ⟨rfl, rfl⟩
        exact ⟨rfl, rfl, HK1.out⟩
      · rw [decide_eq_false h3] at JL
        have h4 : ¬ X % 2 = 1 := by omega
        rw [decide_eq_false h4] at JO
        clear hno2 h2 h3 h4
        go_enter Tryz.func38, Tryz.ntmps38
        go_wp2_with fail
        refine JB.mono ?_
        rintro e w1 ⟨rfl, rfl⟩
        clear JB
        go_wp2_with fail
        try rw [d2]
        refine (hR _).mono ?_
        rintro e w1 ⟨rfl, rfl⟩
        clear g1 g1' g2 g2' d1 d2 hR
        go_wp2_with fail
        refine JL.mono ?_
        rintro e w1 ⟨rfl, k1⟩
        have J2 := JO.out _ k1
        have HK1 := toHid k1
        clear JL k1
        go_wp2_with fail
        refine J2.mono ?_
        rintro e w2 ⟨rfl, rfl⟩
        clear J2
        go_wp2_with fail
        refine (hY _).mono ?_
        rintro e w3 ⟨rfl, rfl⟩
        exact ⟨rfl, rfl, HK1.out⟩
  · have g1 : (L : Int) > 300 := by omega
    have g1' : (300 : Int) < (L : Int) := by omega
    have d1 : decide ((300 : Int) < (L : Int)) = true := decide_eq_true g1'
    clear hu hd hl hX hno hL hLb hR
    go_enter Tryz.func38, Tryz.ntmps38
    go_wp2_with fail
    try rw [d1]
    refine (hY _).mono ?_
    rintro e w1 ⟨rfl, rfl⟩
    exact ⟨rfl, rfl, Kept.refl _ _⟩

end Go.Proofs.YtiljkgoafknefaaGreat


/- Melted of: MonN MonO MonP MonQ MonR MonS. -/

/- Package mont: asked: what it attempts. -/
namespace Go.Proofs.YtiljkgoafknefaaGreat
open Go.RowKit

/-- Whether all operands are members. -/
def AllIn (cnt n V : Nat) (N : Nat → Nat) (xss : Nat → List Nat) : Prop := ∀ i, i < cnt → N i = n ∧ val 18446744073709551616 (xss i) < V

/-- Whether the first of them are members, as a word. -/
def inN (cnt n V : Nat) (N : Nat → Nat) (xss : Nat → List Nat) : Nat → Nat
  | 0 => 1
  | k + 1 => if inN cnt n V N xss k = 1 ∧ (N k = n ∧ val 18446744073709551616 (xss k) < V) then 1 else 0

theorem inN_le (cnt n V : Nat) (N : Nat → Nat) (xss : Nat → List Nat) : ∀ k, inN cnt n V N xss k ≤ 1
  | 0 => by simp [inN]
  | k + 1 => by unfold inN; split <;> omega

theorem inN_iff (cnt n V : Nat) (N : Nat → Nat) (xss : Nat → List Nat) : ∀ k, inN cnt n V N xss k = 1 ↔ AllIn k n V N xss
  | 0 => by simp [inN, AllIn]
  | k + 1 => by
    have ih := inN_iff cnt n V N xss k
    unfold inN
    constructor
    · intro h
      split at h
      · rename_i h1
        intro i hi
        rcases Nat.lt_or_ge i k with h2 | h2
        · exact ih.1 h1.1 i h2
        · obtain rfl : i = k := by omega
          exact h1.2
      · omega
    · intro h
      rw [if_pos ⟨ih.2 (fun i hi => h i (by omega)), h k (by omega)⟩]

theorem inN_bits (cnt n V : Nat) (N : Nat → Nat) (xss : Nat → List Nat) (k : Nat) : bits .and .u64 ((inN cnt n V N xss k : Nat) : Int) ((memN (N k) n (val 18446744073709551616 (xss k)) V : Nat) : Int) = ((inN cnt n V N xss (k + 1) : Nat) : Int) := by
  have h := inN_le cnt n V N xss k
  have h1 : inN cnt n V N xss (k + 1) = if inN cnt n V N xss k = 1 ∧ (N k = n ∧ val 18446744073709551616 (xss k) < V) then 1 else 0 := rfl
  rw [h1]
  unfold memN
  generalize inN cnt n V N xss k = m at *
  have h01 : m = 0 ∨ m = 1 := by omega
  by_cases h2 : N k = n ∧ val 18446744073709551616 (xss k) < V
  · rcases h01 with rfl | rfl
    · rw [if_pos h2, if_neg (by omega)]
      decide
    · rw [if_pos h2, if_pos ⟨rfl, h2⟩]
      decide
  · rcases h01 with rfl | rfl
    · rw [if_neg h2, if_neg (by omega)]
      decide
    · rw [if_neg h2, if_neg (fun h => h2 h.2)]
      decide

/-- What 'do' leaves: a number of n words in new memory, of which G holds; the events m. -/
def Done (W : World) (o : Tr) (m : List Ev) (n : Nat) (G : Nat → Prop) (w' : World) (v' : Value) : Prop :=
  ∃ (Y : Nat) (o' : Tr), OwnN .u64 24 w' W.heap.size v' n (digs 18446744073709551616 Y n) ∧ G Y ∧ Did W o m w' o'

end Go.Proofs.YtiljkgoafknefaaGreat

/- Package mont: asked. -/
namespace Go.Proofs.YtiljkgoafknefaaGreat
open Go.RowKit

/-- What asked answers beside the error. -/
def Answered (w : World) (o : Tr) (n E cnt : Nat) (dE : List Ev) (G : Nat → Prop) (w' : World) (v' : Value) : Prop :=
  (∃ Y, Row .u64 w' v' (if E = 0 then digs 18446744073709551616 Y n else []) ∧ (E = 0 → G Y)) ∧ (Fresh w v' ∧ U64s w' v') ∧ ∃ o', Did w o (if n ≤ 130 then List.replicate cnt (1, (n : Int), 0) ++ dE else []) w' o'

end Go.Proofs.YtiljkgoafknefaaGreat

/- Package mont: Mul. -/
namespace Go.Proofs.YtiljkgoafknefaaGreat
open Go.RowKit

/-- What a modulus that is one has. -/
theorem okMod.facts {ms rs : List Nat} {K n l : Nat} (h : okMod ms K rs) (hn : ms.length = n) (hl : rs.length = l) (hmd : Digs 18446744073709551616 ms) (hrd : Digs 18446744073709551616 rs) (hK : K < 18446744073709551616) :
    (val 18446744073709551616 ms * K + 1) % 18446744073709551616 = 0 ∧ 0 < n ∧ n ≤ 130 ∧ l = n ∧ val 18446744073709551616 ms % 2 = 1 ∧ val 18446744073709551616 ms < 18446744073709551616 ^ n ∧ val 18446744073709551616 rs = 18446744073709551616 ^ (2 * n) % val 18446744073709551616 ms := by
  obtain ⟨h1, h2, h3, h4⟩ := (chk_iff hn hl hmd hrd hK).1 h
  have hVn : val 18446744073709551616 ms < 18446744073709551616 ^ n := by rw [← hn]; exact val_lt (by omega) hmd
  obtain ⟨V, hV⟩ : ∃ V, V = val 18446744073709551616 ms := ⟨_, rfl⟩
  rw [← hV] at h1 h2 h4 hVn ⊢
  have m := montE_ok h.1
  rw [← hV] at m
  unfold prepN at h4
  by_cases h5 : (V * K + 1) % 18446744073709551616 = 0 ∧ val 18446744073709551616 rs = 18446744073709551616 ^ (2 * n) % V
  · refine ⟨h5.1, ?_, by omega, h3, m.2.2, hVn, h5.2⟩
    rcases Nat.eq_zero_or_pos n with h0 | h0
    · rw [h0, Nat.pow_zero] at hVn
      omega
    · exact h0
  · rw [if_neg h5] at h4
    omega

theorem Reduced.done {W : World} {o : Tr} {m : List Ev} {n K X V : Nat} {w' : World} {v' : Value} {G : Nat → Prop} (h : Reduced W o m n K X V w' v') (hG : ∀ Y, ((V * K + 1) % 18446744073709551616 = 0 → 0 < n → X < V * 18446744073709551616 ^ n → Y < V ∧ 18446744073709551616 ^ n * Y % V = X % V) → G Y) : Done W o (m ++ List.replicate (n + 2) (1, (n : Int), 0)) n G w' v' := by
  obtain ⟨Y, o', h1, h2, h3⟩ := h
  exact ⟨Y, o', h1, hG Y h2, h3⟩

end Go.Proofs.YtiljkgoafknefaaGreat

/- Package mont: Mul, whole. -/
namespace Go.Proofs.YtiljkgoafknefaaGreat
open Go.RowKit

theorem one_slot {W : World} {g N1 xc : Nat} {xo : Option Addr} {t : TypeId} (h : W.heap[g]? = some (.cells #[.slice xo N1 xc] t (0, 0))) : Slots W (some ⟨g, 0, none⟩) 1 (fun _ => xo) (fun _ => N1) (fun _ => xc) := by
  intro i hi
  refine ⟨g, 0, rfl, ?_⟩
  obtain rfl : i = 0 := by omega
  exact (cell_of_row W g 0 _ _ _ h).trans rfl

theorem Answered.after {w W : World} {o : Tr} {n E cnt : Nat} {dE : List Ev} {G : Nat → Prop} {w' : World} {v' : Value} (k : Kept Nought w W) (h : Answered W o n E cnt dE G w' v') : Answered w o n E cnt dE G w' v' := by
  obtain ⟨h1, h2, o', d⟩ := h
  exact ⟨h1, ⟨h2.1.after k, h2.2⟩, o', Did.after k d⟩

end Go.Proofs.YtiljkgoafknefaaGreat

/- Package mont: what Enter and Leave ask for. -/
namespace Go.Proofs.YtiljkgoafknefaaGreat
open Go.RowKit

end Go.Proofs.YtiljkgoafknefaaGreat

/- Package mont: Enter, Leave, One. -/
namespace Go.Proofs.YtiljkgoafknefaaGreat
open Go.RowKit

end Go.Proofs.YtiljkgoafknefaaGreat

