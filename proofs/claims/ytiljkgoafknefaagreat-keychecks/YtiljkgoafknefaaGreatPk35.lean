/- Put together of: Kex3. -/
import Derived.Test.YtiljkgoafknefaaGreatPk27
import Derived.Test.YtiljkgoafknefaaGreatPk34

/- Package key: Public; inverted. (written by wip/gen/kex3.py) -/
namespace Go.Proofs.YtiljkgoafknefaaGreat
open Go.RowKit

/-- How an attempt ends: by itself, or refused. -/
def AttE (E : Nat) (e : Ending) : Prop := (E = 0 ∧ e = .returned (.tuple #[])) ∨ (E ≠ 0 ∧ e = .panicked [refusal (E : Nat)])

theorem AttE.ok : AttE 0 (.returned (.tuple #[])) := .inl ⟨rfl, rfl⟩

theorem AttE.no {E : Nat} (h : E ≠ 0) : AttE E (.panicked [refusal (E : Nat)]) := .inr ⟨h, rfl⟩

set_option maxRecDepth 20000 in
set_option maxHeartbeats 2000000 in
/-- What Public attempts: a number of too few or too many bits. -/
theorem kPub1A (bN bE : Nat) (ao : Option Addr) (L cap : Nat) (xs : List Nat) (hL : L ≤ 1000) (hA : blen (val 18446744073709551616 xs) < 32 ∨ 8192 < blen (val 18446744073709551616 xs)) (w : World) (hu : Row .u64 w (.slice ao L cap) xs) (hd : Digs 18446744073709551616 xs) (b0 : w.cell? ⟨bN, 0, none⟩ = some (.slice ao L cap)) :
    Calls Tryz.prog 31 #[.pointer (some ⟨bN, 0, none⟩), .pointer (some ⟨bE, 0, none⟩)] w fun e w' => AttE 190 e ∧ Kept Nought w w' := by
  obtain ⟨_, _, _, e1, hl, -, -, -, -⟩ := hu.open
  cases e1
  have hR := kRefuseNo 190
  have hY := kRefuseYes 190
  have JB := nBits _ xs w hu hd (by rw [hl.out]; omega)
  have hbl : blen (val 18446744073709551616 xs) ≤ 64 * xs.length := (blen_le _ _).2 (by rw [Nat.pow_mul]; exact val_lt (by omega) hd)
  rw [hl.out] at hbl
  have HK0 : Hid (Kept Nought w w) := Kept.refl _ _
  generalize blen (val 18446744073709551616 xs) = b at *
  clear hu hd hl
  by_cases h1 : b < 32
  · have g1 : (b : Int) < 32 := by omega
    have d1 : decide ((b : Int) < 32) = true := decide_eq_true g1
    clear hA h1 hR
    go_enter Tryz.func31, Tryz.ntmps31
    go_wp2_with fail
    refine JB.mono ?_
    rintro e w1 ⟨rfl, rfl⟩
    clear JB
    go_wp2_with fail
    try rw [d1]
    refine (hY _).mono ?_
    rintro e w1 ⟨rfl, rfl⟩
    exact ⟨rfl, .no (by decide), HK0.out⟩
  · have g1 : ¬ (b : Int) < 32 := by omega
    have d1 : decide ((b : Int) < 32) = false := decide_eq_false g1
    have g2 : (b : Int) > 8192 := by omega
    have g2' : (8192 : Int) < (b : Int) := by omega
    have d2 : decide ((8192 : Int) < (b : Int)) = true := decide_eq_true g2'
    clear hA h1 hR
    go_enter Tryz.func31, Tryz.ntmps31
    go_wp2_with fail
    refine JB.mono ?_
    rintro e w1 ⟨rfl, rfl⟩
    clear JB
    go_wp2_with fail
    try rw [d2]
    refine (hY _).mono ?_
    rintro e w1 ⟨rfl, rfl⟩
    exact ⟨rfl, .no (by decide), HK0.out⟩

set_option maxRecDepth 20000 in
set_option maxHeartbeats 2000000 in
/-- What Public attempts: a number with noughts at its top, or none. -/
theorem kPub1B (bN bE : Nat) (ao : Option Addr) (L cap : Nat) (xs : List Nat) (hL : L ≤ 1000) (hA : 32 ≤ blen (val 18446744073709551616 xs) ∧ blen (val 18446744073709551616 xs) ≤ 8192) (hW : L ≠ wordsN (val 18446744073709551616 xs)) (w : World) (hu : Row .u64 w (.slice ao L cap) xs) (hd : Digs 18446744073709551616 xs) (b0 : w.cell? ⟨bN, 0, none⟩ = some (.slice ao L cap)) :
    Calls Tryz.prog 31 #[.pointer (some ⟨bN, 0, none⟩), .pointer (some ⟨bE, 0, none⟩)] w fun e w' => AttE 190 e ∧ Kept Nought w w' := by
  obtain ⟨_, _, _, e1, hl, -, -, -, -⟩ := hu.open
  cases e1
  have hR := kRefuseNo 190
  have hY := kRefuseYes 190
  have JB := nBits _ xs w hu hd (by rw [hl.out]; omega)
  have hbl : blen (val 18446744073709551616 xs) ≤ 64 * xs.length := (blen_le _ _).2 (by rw [Nat.pow_mul]; exact val_lt (by omega) hd)
  rw [hl.out] at hbl
  have HK0 : Hid (Kept Nought w w) := Kept.refl _ _
  generalize val 18446744073709551616 xs = X at *
  obtain ⟨z, hz⟩ : ∃ z, z = (blen X + 64 - 1) / 64 := ⟨_, rfl⟩
  have hzw : z = wordsN X := by rw [hz, words_blen]; rfl
  have JPA := fun W => kParts (blen X) 64 z hz (by omega) (by omega) (by omega) W
  obtain ⟨b, hb⟩ : ∃ b, b = blen X := ⟨_, rfl⟩
  rw [← hb] at JPA JB hA
  have g1 : ¬ (b : Int) < 32 := by omega
  have d1 : decide ((b : Int) < 32) = false := decide_eq_false g1
  have g2 : ¬ (b : Int) > 8192 := by omega
  have g2' : ¬ (8192 : Int) < (b : Int) := by omega
  have d2 : decide ((8192 : Int) < (b : Int)) = false := decide_eq_false g2'
  have hne : ¬ (L : Int) = (z : Int) := by omega
  clear hu hd hl hb hz hzw hW hbl hA
  go_enter Tryz.func31, Tryz.ntmps31
  go_wp2_with fail
  refine JB.mono ?_
  rintro e w1 ⟨rfl, rfl⟩
  clear JB
  go_wp2_with fail
  try rw [d2]
  refine (hR _).mono ?_
  rintro e w1 ⟨rfl, rfl⟩
  clear g1 d1 g2 g2' d2
  go_wp2_with fail
  refine wp_region_held_drew (S := fun w' => w'.cell? ⟨bN, 0, none⟩ = some (.slice ao L cap)) (by kernel_rfl) b0 (fun hS => ?_)
  refine takeH 0 (some 12) (.slice ao L cap) rfl rfl (by kernel_rfl) (by kernel_rfl) (by kernel_rfl) (fun _ _ _ h => h) (.inl ⟨by rfl, fun w h => by simp [execOp, go_sem, h]⟩) hS ?_
  simp only [Act.put, List.setIfInBounds_toArray, List.set_cons_succ, List.set_cons_zero]
  refine takeH 1 (some 13) (.int .i64 (L : Int)) rfl rfl (by kernel_rfl) (by kernel_rfl) (by kernel_rfl) (fun _ _ _ h => h) (.inl ⟨by rfl, fun w h => by simp [execOp, go_sem]⟩) hS ?_
  simp only [Act.put, List.setIfInBounds_toArray, List.set_cons_succ, List.set_cons_zero]
  refine takeH 2 (some 14) (.int .i64 (b : Int)) rfl rfl (by kernel_rfl) (by kernel_rfl) (by kernel_rfl) (fun _ _ _ h => h) (.inl ⟨by rfl, fun w h => by simp [execOp, go_sem]⟩) hS ?_
  simp only [Act.put, List.setIfInBounds_toArray, List.set_cons_succ, List.set_cons_zero]
  refine callG 3 (some 15) (by kernel_rfl) rfl rfl (by rfl) 34 _ _ [.int .i64 (b : Int), .int .i64 64] rfl rfl (fun _ _ => by simp [go_sem]) (JPA _) ?_
  rintro e w4 ⟨rfl, rfl⟩
  refine .inl ⟨_, rfl, hS, ?_⟩
  simp only [Act.put, List.setIfInBounds_toArray, List.set_cons_succ, List.set_cons_zero]
  refine takeH 4 (some 16) (.bool true) rfl rfl (by kernel_rfl) (by kernel_rfl) (by kernel_rfl) (fun _ _ _ h => h) (.inl ⟨by rfl, fun w h => by simp [execOp, go_sem, hne]⟩) hS ?_
  simp only [Act.put, List.setIfInBounds_toArray, List.set_cons_succ, List.set_cons_zero]
  refine takeH 5 (some 17) (.bool true) rfl rfl (by kernel_rfl) (by kernel_rfl) (by kernel_rfl) (fun _ _ _ h => h) (.inl ⟨by rfl, fun w h => by simp [execOp, go_sem]⟩) hS ?_
  simp only [Act.put, List.setIfInBounds_toArray, List.set_cons_succ, List.set_cons_zero]
  refine takeH 6 (some 18) (undef) rfl rfl (by kernel_rfl) (by kernel_rfl) (by kernel_rfl) (fun _ _ _ h => h) (.inr ⟨by rfl, rfl⟩) hS ?_
  simp only [Act.put, List.setIfInBounds_toArray, List.set_cons_succ, List.set_cons_zero]
  refine skipH 7 (some 19) (by kernel_rfl) rfl rfl (by rfl) hS ?_
  simp only [Act.put, List.setIfInBounds_toArray, List.set_cons_succ, List.set_cons_zero]
  refine takeH 8 (some 20) (undef) rfl rfl (by kernel_rfl) (by kernel_rfl) (by kernel_rfl) (fun _ _ _ h => h) (.inr ⟨by rfl, rfl⟩) hS ?_
  simp only [Act.put, List.setIfInBounds_toArray, List.set_cons_succ, List.set_cons_zero]
  refine takeH 9 (some 21) (.bool true) rfl rfl (by kernel_rfl) (by kernel_rfl) (by kernel_rfl) (fun _ _ _ h => h) (.inl ⟨by rfl, fun w h => by simp [execOp, go_sem]⟩) hS ?_
  simp only [Act.put, List.setIfInBounds_toArray, List.set_cons_succ, List.set_cons_zero]
  refine callG 10 (some 22) (by kernel_rfl) rfl rfl (by rfl) 33 _ _ [.bool true, .int .i64 190] rfl rfl (fun _ _ => by simp [go_sem]) (hY _) ?_
  rintro e w6 ⟨rfl, rfl⟩
  exact .inr ⟨_, rfl, rfl, .no (by decide), HK0.out.drew⟩

set_option maxRecDepth 20000 in
set_option maxHeartbeats 2000000 in
/-- What Public attempts: an even number. -/
theorem kPub1C (bN bE : Nat) (ao : Option Addr) (L cap : Nat) (xs : List Nat) (hL : L ≤ 1000) (hA : 32 ≤ blen (val 18446744073709551616 xs) ∧ blen (val 18446744073709551616 xs) ≤ 8192) (hW : L = wordsN (val 18446744073709551616 xs)) (hO : val 18446744073709551616 xs % 2 = 0) (w : World) (hu : Row .u64 w (.slice ao L cap) xs) (hd : Digs 18446744073709551616 xs) (b0 : w.cell? ⟨bN, 0, none⟩ = some (.slice ao L cap)) :
    Calls Tryz.prog 31 #[.pointer (some ⟨bN, 0, none⟩), .pointer (some ⟨bE, 0, none⟩)] w fun e w' => AttE 190 e ∧ Kept Nought w w' := by
  obtain ⟨_, _, _, e1, hl, -, -, -, -⟩ := hu.open
  cases e1
  have hR := kRefuseNo 190
  have hY := kRefuseYes 190
  have JB := nBits _ xs w hu hd (by rw [hl.out]; omega)
  have hbl : blen (val 18446744073709551616 xs) ≤ 64 * xs.length := (blen_le _ _).2 (by rw [Nat.pow_mul]; exact val_lt (by omega) hd)
  rw [hl.out] at hbl
  have HK0 : Hid (Kept Nought w w) := Kept.refl _ _
  have JO : Hid (∀ W, Kept Nought w W → Calls Tryz.prog 35 #[.slice ao L cap] W fun e w' => e = .returned (.bool false) ∧ w' = W) := fun W k => by
    have h := kOdd ao L cap xs W (hu.grew k) hd
    rw [decide_eq_false (by omega)] at h
    exact h
  generalize val 18446744073709551616 xs = X at *
  obtain ⟨z, hz⟩ : ∃ z, z = (blen X + 64 - 1) / 64 := ⟨_, rfl⟩
  have hzw : z = wordsN X := by rw [hz, words_blen]; rfl
  have JPA := fun W => kParts (blen X) 64 z hz (by omega) (by omega) (by omega) W
  obtain ⟨b, hb⟩ : ∃ b, b = blen X := ⟨_, rfl⟩
  rw [← hb] at JPA JB hA
  have g1 : ¬ (b : Int) < 32 := by omega
  have d1 : decide ((b : Int) < 32) = false := decide_eq_false g1
  have g2 : ¬ (b : Int) > 8192 := by omega
  have g2' : ¬ (8192 : Int) < (b : Int) := by omega
  have d2 : decide ((8192 : Int) < (b : Int)) = false := decide_eq_false g2'
  have hne : (L : Int) = (z : Int) := by omega
  clear hu hd hl hb hz hzw hW hbl hA hO
  go_enter Tryz.func31, Tryz.ntmps31
  go_wp2_with fail
  refine JB.mono ?_
  rintro e w1 ⟨rfl, rfl⟩
  clear JB
  go_wp2_with fail
  try rw [d2]
  refine (hR _).mono ?_
  rintro e w1 ⟨rfl, rfl⟩
  clear g1 d1 g2 g2' d2
  go_wp2_with fail
  refine wp_region_held_drew (S := fun w' => w'.cell? ⟨bN, 0, none⟩ = some (.slice ao L cap)) (by kernel_rfl) b0 (fun hS => ?_)
  refine takeH 0 (some 12) (.slice ao L cap) rfl rfl (by kernel_rfl) (by kernel_rfl) (by kernel_rfl) (fun _ _ _ h => h) (.inl ⟨by rfl, fun w h => by simp [execOp, go_sem, h]⟩) hS ?_
  simp only [Act.put, List.setIfInBounds_toArray, List.set_cons_succ, List.set_cons_zero]
  refine takeH 1 (some 13) (.int .i64 (L : Int)) rfl rfl (by kernel_rfl) (by kernel_rfl) (by kernel_rfl) (fun _ _ _ h => h) (.inl ⟨by rfl, fun w h => by simp [execOp, go_sem]⟩) hS ?_
  simp only [Act.put, List.setIfInBounds_toArray, List.set_cons_succ, List.set_cons_zero]
  refine takeH 2 (some 14) (.int .i64 (b : Int)) rfl rfl (by kernel_rfl) (by kernel_rfl) (by kernel_rfl) (fun _ _ _ h => h) (.inl ⟨by rfl, fun w h => by simp [execOp, go_sem]⟩) hS ?_
  simp only [Act.put, List.setIfInBounds_toArray, List.set_cons_succ, List.set_cons_zero]
  refine callG 3 (some 15) (by kernel_rfl) rfl rfl (by rfl) 34 _ _ [.int .i64 (b : Int), .int .i64 64] rfl rfl (fun _ _ => by simp [go_sem]) (JPA _) ?_
  rintro e w4 ⟨rfl, rfl⟩
  refine .inl ⟨_, rfl, hS, ?_⟩
  simp only [Act.put, List.setIfInBounds_toArray, List.set_cons_succ, List.set_cons_zero]
  refine takeH 4 (some 16) (.bool false) rfl rfl (by kernel_rfl) (by kernel_rfl) (by kernel_rfl) (fun _ _ _ h => h) (.inl ⟨by rfl, fun w h => by simp [execOp, go_sem, hne]⟩) hS ?_
  simp only [Act.put, List.setIfInBounds_toArray, List.set_cons_succ, List.set_cons_zero]
  refine takeH 5 (some 17) (.bool false) rfl rfl (by kernel_rfl) (by kernel_rfl) (by kernel_rfl) (fun _ _ _ h => h) (.inl ⟨by rfl, fun w h => by simp [execOp, go_sem]⟩) hS ?_
  simp only [Act.put, List.setIfInBounds_toArray, List.set_cons_succ, List.set_cons_zero]
  refine takeH 6 (some 18) (.slice ao L cap) rfl rfl (by kernel_rfl) (by kernel_rfl) (by kernel_rfl) (fun _ _ _ h => h) (.inl ⟨by rfl, fun w h => by simp [execOp, go_sem, h]⟩) hS ?_
  simp only [Act.put, List.setIfInBounds_toArray, List.set_cons_succ, List.set_cons_zero]
  refine callG 7 (some 19) (by kernel_rfl) rfl rfl (by rfl) 35 _ _ [.slice ao L cap] rfl rfl (fun _ _ => by simp [go_sem]) (JO.out _ HK0.out.drew) ?_
  rintro e w5 ⟨rfl, rfl⟩
  refine .inl ⟨_, rfl, hS, ?_⟩
  simp only [Act.put, List.setIfInBounds_toArray, List.set_cons_succ, List.set_cons_zero]
  refine takeH 8 (some 20) (.bool true) rfl rfl (by kernel_rfl) (by kernel_rfl) (by kernel_rfl) (fun _ _ _ h => h) (.inl ⟨by rfl, fun w h => by simp [execOp, go_sem]⟩) hS ?_
  simp only [Act.put, List.setIfInBounds_toArray, List.set_cons_succ, List.set_cons_zero]
  refine takeH 9 (some 21) (.bool true) rfl rfl (by kernel_rfl) (by kernel_rfl) (by kernel_rfl) (fun _ _ _ h => h) (.inl ⟨by rfl, fun w h => by simp [execOp, go_sem]⟩) hS ?_
  simp only [Act.put, List.setIfInBounds_toArray, List.set_cons_succ, List.set_cons_zero]
  refine callG 10 (some 22) (by kernel_rfl) rfl rfl (by rfl) 33 _ _ [.bool true, .int .i64 190] rfl rfl (fun _ _ => by simp [go_sem]) (hY _) ?_
  rintro e w6 ⟨rfl, rfl⟩
  exact .inr ⟨_, rfl, rfl, .no (by decide), HK0.out.drew⟩

set_option maxRecDepth 20000 in
set_option maxHeartbeats 2000000 in
/-- What Public attempts: an exponent below 3. -/
theorem kPub1D (bN bE : Nat) (ao : Option Addr) (L cap : Nat) (xs : List Nat) (e : Nat) (hL : L ≤ 1000) (hA : 32 ≤ blen (val 18446744073709551616 xs) ∧ blen (val 18446744073709551616 xs) ≤ 8192) (hW : L = wordsN (val 18446744073709551616 xs)) (hO : val 18446744073709551616 xs % 2 = 1) (h3 : e < 3) (w : World) (hu : Row .u64 w (.slice ao L cap) xs) (hd : Digs 18446744073709551616 xs) (b0 : w.cell? ⟨bN, 0, none⟩ = some (.slice ao L cap)) (b1 : w.cell? ⟨bE, 0, none⟩ = some (.int .u64 (e : Int))) :
    Calls Tryz.prog 31 #[.pointer (some ⟨bN, 0, none⟩), .pointer (some ⟨bE, 0, none⟩)] w fun e w' => AttE 190 e ∧ Kept Nought w w' := by
  obtain ⟨_, _, _, e1, hl, -, -, -, -⟩ := hu.open
  cases e1
  have hR := kRefuseNo 190
  have hY := kRefuseYes 190
  have JB := nBits _ xs w hu hd (by rw [hl.out]; omega)
  have hbl : blen (val 18446744073709551616 xs) ≤ 64 * xs.length := (blen_le _ _).2 (by rw [Nat.pow_mul]; exact val_lt (by omega) hd)
  rw [hl.out] at hbl
  have HK0 : Hid (Kept Nought w w) := Kept.refl _ _
  have JO : Hid (∀ W, Kept Nought w W → Calls Tryz.prog 35 #[.slice ao L cap] W fun e w' => e = .returned (.bool true) ∧ w' = W) := fun W k => by
    have h := kOdd ao L cap xs W (hu.grew k) hd
    rw [decide_eq_true (by omega)] at h
    exact h
  generalize val 18446744073709551616 xs = X at *
  obtain ⟨z, hz⟩ : ∃ z, z = (blen X + 64 - 1) / 64 := ⟨_, rfl⟩
  have hzw : z = wordsN X := by rw [hz, words_blen]; rfl
  have JPA := fun W => kParts (blen X) 64 z hz (by omega) (by omega) (by omega) W
  obtain ⟨b, hb⟩ : ∃ b, b = blen X := ⟨_, rfl⟩
  rw [← hb] at JPA JB hA
  have g1 : ¬ (b : Int) < 32 := by omega
  have d1 : decide ((b : Int) < 32) = false := decide_eq_false g1
  have g2 : ¬ (b : Int) > 8192 := by omega
  have g2' : ¬ (8192 : Int) < (b : Int) := by omega
  have d2 : decide ((8192 : Int) < (b : Int)) = false := decide_eq_false g2'
  have hne : (L : Int) = (z : Int) := by omega
  clear hu hd hl hb hz hzw hW hbl hA hO
  go_enter Tryz.func31, Tryz.ntmps31
  go_wp2_with fail
  refine JB.mono ?_
  rintro e w1 ⟨rfl, rfl⟩
  clear JB
  go_wp2_with fail
  try rw [d2]
  refine (hR _).mono ?_
  rintro e w1 ⟨rfl, rfl⟩
  clear g1 d1 g2 g2' d2
  go_wp2_with fail
  refine wp_region_held_drew (S := fun w' => w'.cell? ⟨bN, 0, none⟩ = some (.slice ao L cap)) (by kernel_rfl) b0 (fun hS => ?_)
  refine takeH 0 (some 12) (.slice ao L cap) rfl rfl (by kernel_rfl) (by kernel_rfl) (by kernel_rfl) (fun _ _ _ h => h) (.inl ⟨by rfl, fun w h => by simp [execOp, go_sem, h]⟩) hS ?_
  simp only [Act.put, List.setIfInBounds_toArray, List.set_cons_succ, List.set_cons_zero]
  refine takeH 1 (some 13) (.int .i64 (L : Int)) rfl rfl (by kernel_rfl) (by kernel_rfl) (by kernel_rfl) (fun _ _ _ h => h) (.inl ⟨by rfl, fun w h => by simp [execOp, go_sem]⟩) hS ?_
  simp only [Act.put, List.setIfInBounds_toArray, List.set_cons_succ, List.set_cons_zero]
  refine takeH 2 (some 14) (.int .i64 (b : Int)) rfl rfl (by kernel_rfl) (by kernel_rfl) (by kernel_rfl) (fun _ _ _ h => h) (.inl ⟨by rfl, fun w h => by simp [execOp, go_sem]⟩) hS ?_
  simp only [Act.put, List.setIfInBounds_toArray, List.set_cons_succ, List.set_cons_zero]
  refine callG 3 (some 15) (by kernel_rfl) rfl rfl (by rfl) 34 _ _ [.int .i64 (b : Int), .int .i64 64] rfl rfl (fun _ _ => by simp [go_sem]) (JPA _) ?_
  rintro e w4 ⟨rfl, rfl⟩
  refine .inl ⟨_, rfl, hS, ?_⟩
  simp only [Act.put, List.setIfInBounds_toArray, List.set_cons_succ, List.set_cons_zero]
  refine takeH 4 (some 16) (.bool false) rfl rfl (by kernel_rfl) (by kernel_rfl) (by kernel_rfl) (fun _ _ _ h => h) (.inl ⟨by rfl, fun w h => by simp [execOp, go_sem, hne]⟩) hS ?_
  simp only [Act.put, List.setIfInBounds_toArray, List.set_cons_succ, List.set_cons_zero]
  refine takeH 5 (some 17) (.bool false) rfl rfl (by kernel_rfl) (by kernel_rfl) (by kernel_rfl) (fun _ _ _ h => h) (.inl ⟨by rfl, fun w h => by simp [execOp, go_sem]⟩) hS ?_
  simp only [Act.put, List.setIfInBounds_toArray, List.set_cons_succ, List.set_cons_zero]
  refine takeH 6 (some 18) (.slice ao L cap) rfl rfl (by kernel_rfl) (by kernel_rfl) (by kernel_rfl) (fun _ _ _ h => h) (.inl ⟨by rfl, fun w h => by simp [execOp, go_sem, h]⟩) hS ?_
  simp only [Act.put, List.setIfInBounds_toArray, List.set_cons_succ, List.set_cons_zero]
  refine callG 7 (some 19) (by kernel_rfl) rfl rfl (by rfl) 35 _ _ [.slice ao L cap] rfl rfl (fun _ _ => by simp [go_sem]) (JO.out _ HK0.out.drew) ?_
  rintro e w5 ⟨rfl, rfl⟩
  refine .inl ⟨_, rfl, hS, ?_⟩
  simp only [Act.put, List.setIfInBounds_toArray, List.set_cons_succ, List.set_cons_zero]
  refine takeH 8 (some 20) (.bool false) rfl rfl (by kernel_rfl) (by kernel_rfl) (by kernel_rfl) (fun _ _ _ h => h) (.inl ⟨by rfl, fun w h => by simp [execOp, go_sem]⟩) hS ?_
  simp only [Act.put, List.setIfInBounds_toArray, List.set_cons_succ, List.set_cons_zero]
  refine takeH 9 (some 21) (.bool false) rfl rfl (by kernel_rfl) (by kernel_rfl) (by kernel_rfl) (fun _ _ _ h => h) (.inl ⟨by rfl, fun w h => by simp [execOp, go_sem]⟩) hS ?_
  simp only [Act.put, List.setIfInBounds_toArray, List.set_cons_succ, List.set_cons_zero]
  refine callG 10 (some 22) (by kernel_rfl) rfl rfl (by rfl) 33 _ _ [.bool false, .int .i64 190] rfl rfl (fun _ _ => by simp [go_sem]) (hR _) ?_
  rintro e w6 ⟨rfl, rfl⟩
  refine .inl ⟨_, rfl, hS, ?_⟩
  simp only [Act.put, List.setIfInBounds_toArray, List.set_cons_succ, List.set_cons_zero]
  refine wpAnyH_done (by kernel_rfl) ?_ _
  have HK6 : Hid (Kept Nought w1 w1.drew) := (Kept.refl Nought w1).drew
  have b2 : w1.drew.cell? ⟨bE, 0, none⟩ = some (.int .u64 (e : Int)) := HK6.out.cellN b1
  generalize w1.drew = W6 at *
  clear b0 b1 hne JPA JO hS HK0
  have g3 : (e : Int) < 3 := by omega
  have d3 : decide ((e : Int) < 3) = true := decide_eq_true g3
  clear h3
  go_wp2_with fail
  refine (hY _).mono ?_
  rintro e w7 ⟨rfl, rfl⟩
  exact ⟨rfl, .no (by decide), HK6.out⟩

set_option maxRecDepth 20000 in
set_option maxHeartbeats 2000000 in
/-- What Public attempts: an exponent that is too great. -/
theorem kPub1E (bN bE : Nat) (ao : Option Addr) (L cap : Nat) (xs : List Nat) (e : Nat) (hL : L ≤ 1000) (hA : 32 ≤ blen (val 18446744073709551616 xs) ∧ blen (val 18446744073709551616 xs) ≤ 8192) (hW : L = wordsN (val 18446744073709551616 xs)) (hO : val 18446744073709551616 xs % 2 = 1) (h4 : 4294967296 ≤ e) (w : World) (hu : Row .u64 w (.slice ao L cap) xs) (hd : Digs 18446744073709551616 xs) (b0 : w.cell? ⟨bN, 0, none⟩ = some (.slice ao L cap)) (b1 : w.cell? ⟨bE, 0, none⟩ = some (.int .u64 (e : Int))) :
    Calls Tryz.prog 31 #[.pointer (some ⟨bN, 0, none⟩), .pointer (some ⟨bE, 0, none⟩)] w fun e w' => AttE 190 e ∧ Kept Nought w w' := by
  obtain ⟨_, _, _, e1, hl, -, -, -, -⟩ := hu.open
  cases e1
  have hR := kRefuseNo 190
  have hY := kRefuseYes 190
  have JB := nBits _ xs w hu hd (by rw [hl.out]; omega)
  have hbl : blen (val 18446744073709551616 xs) ≤ 64 * xs.length := (blen_le _ _).2 (by rw [Nat.pow_mul]; exact val_lt (by omega) hd)
  rw [hl.out] at hbl
  have HK0 : Hid (Kept Nought w w) := Kept.refl _ _
  have JO : Hid (∀ W, Kept Nought w W → Calls Tryz.prog 35 #[.slice ao L cap] W fun e w' => e = .returned (.bool true) ∧ w' = W) := fun W k => by
    have h := kOdd ao L cap xs W (hu.grew k) hd
    rw [decide_eq_true (by omega)] at h
    exact h
  generalize val 18446744073709551616 xs = X at *
  obtain ⟨z, hz⟩ : ∃ z, z = (blen X + 64 - 1) / 64 := ⟨_, rfl⟩
  have hzw : z = wordsN X := by rw [hz, words_blen]; rfl
  have JPA := fun W => kParts (blen X) 64 z hz (by omega) (by omega) (by omega) W
  obtain ⟨b, hb⟩ : ∃ b, b = blen X := ⟨_, rfl⟩
  rw [← hb] at JPA JB hA
  have g1 : ¬ (b : Int) < 32 := by omega
  have d1 : decide ((b : Int) < 32) = false := decide_eq_false g1
  have g2 : ¬ (b : Int) > 8192 := by omega
  have g2' : ¬ (8192 : Int) < (b : Int) := by omega
  have d2 : decide ((8192 : Int) < (b : Int)) = false := decide_eq_false g2'
  have hne : (L : Int) = (z : Int) := by omega
  clear hu hd hl hb hz hzw hW hbl hA hO
  go_enter Tryz.func31, Tryz.ntmps31
  go_wp2_with fail
  refine JB.mono ?_
  rintro e w1 ⟨rfl, rfl⟩
  clear JB
  go_wp2_with fail
  try rw [d2]
  refine (hR _).mono ?_
  rintro e w1 ⟨rfl, rfl⟩
  clear g1 d1 g2 g2' d2
  go_wp2_with fail
  refine wp_region_held_drew (S := fun w' => w'.cell? ⟨bN, 0, none⟩ = some (.slice ao L cap)) (by kernel_rfl) b0 (fun hS => ?_)
  refine takeH 0 (some 12) (.slice ao L cap) rfl rfl (by kernel_rfl) (by kernel_rfl) (by kernel_rfl) (fun _ _ _ h => h) (.inl ⟨by rfl, fun w h => by simp [execOp, go_sem, h]⟩) hS ?_
  simp only [Act.put, List.setIfInBounds_toArray, List.set_cons_succ, List.set_cons_zero]
  refine takeH 1 (some 13) (.int .i64 (L : Int)) rfl rfl (by kernel_rfl) (by kernel_rfl) (by kernel_rfl) (fun _ _ _ h => h) (.inl ⟨by rfl, fun w h => by simp [execOp, go_sem]⟩) hS ?_
  simp only [Act.put, List.setIfInBounds_toArray, List.set_cons_succ, List.set_cons_zero]
  refine takeH 2 (some 14) (.int .i64 (b : Int)) rfl rfl (by kernel_rfl) (by kernel_rfl) (by kernel_rfl) (fun _ _ _ h => h) (.inl ⟨by rfl, fun w h => by simp [execOp, go_sem]⟩) hS ?_
  simp only [Act.put, List.setIfInBounds_toArray, List.set_cons_succ, List.set_cons_zero]
  refine callG 3 (some 15) (by kernel_rfl) rfl rfl (by rfl) 34 _ _ [.int .i64 (b : Int), .int .i64 64] rfl rfl (fun _ _ => by simp [go_sem]) (JPA _) ?_
  rintro e w4 ⟨rfl, rfl⟩
  refine .inl ⟨_, rfl, hS, ?_⟩
  simp only [Act.put, List.setIfInBounds_toArray, List.set_cons_succ, List.set_cons_zero]
  refine takeH 4 (some 16) (.bool false) rfl rfl (by kernel_rfl) (by kernel_rfl) (by kernel_rfl) (fun _ _ _ h => h) (.inl ⟨by rfl, fun w h => by simp [execOp, go_sem, hne]⟩) hS ?_
  simp only [Act.put, List.setIfInBounds_toArray, List.set_cons_succ, List.set_cons_zero]
  refine takeH 5 (some 17) (.bool false) rfl rfl (by kernel_rfl) (by kernel_rfl) (by kernel_rfl) (fun _ _ _ h => h) (.inl ⟨by rfl, fun w h => by simp [execOp, go_sem]⟩) hS ?_
  simp only [Act.put, List.setIfInBounds_toArray, List.set_cons_succ, List.set_cons_zero]
  refine takeH 6 (some 18) (.slice ao L cap) rfl rfl (by kernel_rfl) (by kernel_rfl) (by kernel_rfl) (fun _ _ _ h => h) (.inl ⟨by rfl, fun w h => by simp [execOp, go_sem, h]⟩) hS ?_
  simp only [Act.put, List.setIfInBounds_toArray, List.set_cons_succ, List.set_cons_zero]
  refine callG 7 (some 19) (by kernel_rfl) rfl rfl (by rfl) 35 _ _ [.slice ao L cap] rfl rfl (fun _ _ => by simp [go_sem]) (JO.out _ HK0.out.drew) ?_
  rintro e w5 ⟨rfl, rfl⟩
  refine .inl ⟨_, rfl, hS, ?_⟩
  simp only [Act.put, List.setIfInBounds_toArray, List.set_cons_succ, List.set_cons_zero]
  refine takeH 8 (some 20) (.bool false) rfl rfl (by kernel_rfl) (by kernel_rfl) (by kernel_rfl) (fun _ _ _ h => h) (.inl ⟨by rfl, fun w h => by simp [execOp, go_sem]⟩) hS ?_
  simp only [Act.put, List.setIfInBounds_toArray, List.set_cons_succ, List.set_cons_zero]
  refine takeH 9 (some 21) (.bool false) rfl rfl (by kernel_rfl) (by kernel_rfl) (by kernel_rfl) (fun _ _ _ h => h) (.inl ⟨by rfl, fun w h => by simp [execOp, go_sem]⟩) hS ?_
  simp only [Act.put, List.setIfInBounds_toArray, List.set_cons_succ, List.set_cons_zero]
  refine callG 10 (some 22) (by kernel_rfl) rfl rfl (by rfl) 33 _ _ [.bool false, .int .i64 190] rfl rfl (fun _ _ => by simp [go_sem]) (hR _) ?_
  rintro e w6 ⟨rfl, rfl⟩
  refine .inl ⟨_, rfl, hS, ?_⟩
  simp only [Act.put, List.setIfInBounds_toArray, List.set_cons_succ, List.set_cons_zero]
  refine wpAnyH_done (by kernel_rfl) ?_ _
  have HK6 : Hid (Kept Nought w1 w1.drew) := (Kept.refl Nought w1).drew
  have b2 : w1.drew.cell? ⟨bE, 0, none⟩ = some (.int .u64 (e : Int)) := HK6.out.cellN b1
  generalize w1.drew = W6 at *
  clear b0 b1 hne JPA JO hS HK0
  have g3 : ¬ (e : Int) < 3 := by omega
  have d3 : decide ((e : Int) < 3) = false := decide_eq_false g3
  have g4 : (e : Int) ≥ 4294967296 := by omega
  have g4' : (4294967296 : Int) ≤ (e : Int) := by omega
  have d4 : decide ((4294967296 : Int) ≤ (e : Int)) = true := decide_eq_true g4'
  clear h4
  go_wp2_with fail
  refine (hY _).mono ?_
  rintro e w7 ⟨rfl, rfl⟩
  exact ⟨rfl, .no (by decide), HK6.out⟩

set_option maxRecDepth 20000 in
set_option maxHeartbeats 2000000 in
/-- What Public attempts: an even exponent. -/
theorem kPub1F (bN bE : Nat) (ao : Option Addr) (L cap : Nat) (xs : List Nat) (e : Nat) (hL : L ≤ 1000) (hA : 32 ≤ blen (val 18446744073709551616 xs) ∧ blen (val 18446744073709551616 xs) ≤ 8192) (hW : L = wordsN (val 18446744073709551616 xs)) (hO : val 18446744073709551616 xs % 2 = 1) (h3 : 3 ≤ e) (h4 : e < 4294967296) (h5 : e % 2 = 0) (w : World) (hu : Row .u64 w (.slice ao L cap) xs) (hd : Digs 18446744073709551616 xs) (b0 : w.cell? ⟨bN, 0, none⟩ = some (.slice ao L cap)) (b1 : w.cell? ⟨bE, 0, none⟩ = some (.int .u64 (e : Int))) :
    Calls Tryz.prog 31 #[.pointer (some ⟨bN, 0, none⟩), .pointer (some ⟨bE, 0, none⟩)] w fun e w' => AttE 190 e ∧ Kept Nought w w' := by
  obtain ⟨_, _, _, e1, hl, -, -, -, -⟩ := hu.open
  cases e1
  have hR := kRefuseNo 190
  have hY := kRefuseYes 190
  have JB := nBits _ xs w hu hd (by rw [hl.out]; omega)
  have hbl : blen (val 18446744073709551616 xs) ≤ 64 * xs.length := (blen_le _ _).2 (by rw [Nat.pow_mul]; exact val_lt (by omega) hd)
  rw [hl.out] at hbl
  have HK0 : Hid (Kept Nought w w) := Kept.refl _ _
  have JO : Hid (∀ W, Kept Nought w W → Calls Tryz.prog 35 #[.slice ao L cap] W fun e w' => e = .returned (.bool true) ∧ w' = W) := fun W k => by
    have h := kOdd ao L cap xs W (hu.grew k) hd
    rw [decide_eq_true (by omega)] at h
    exact h
  generalize val 18446744073709551616 xs = X at *
  obtain ⟨z, hz⟩ : ∃ z, z = (blen X + 64 - 1) / 64 := ⟨_, rfl⟩
  have hzw : z = wordsN X := by rw [hz, words_blen]; rfl
  have JPA := fun W => kParts (blen X) 64 z hz (by omega) (by omega) (by omega) W
  obtain ⟨b, hb⟩ : ∃ b, b = blen X := ⟨_, rfl⟩
  rw [← hb] at JPA JB hA
  have g1 : ¬ (b : Int) < 32 := by omega
  have d1 : decide ((b : Int) < 32) = false := decide_eq_false g1
  have g2 : ¬ (b : Int) > 8192 := by omega
  have g2' : ¬ (8192 : Int) < (b : Int) := by omega
  have d2 : decide ((8192 : Int) < (b : Int)) = false := decide_eq_false g2'
  have hne : (L : Int) = (z : Int) := by omega
  clear hu hd hl hb hz hzw hW hbl hA hO
  go_enter Tryz.func31, Tryz.ntmps31
  go_wp2_with fail
  refine JB.mono ?_
  rintro e w1 ⟨rfl, rfl⟩
  clear JB
  go_wp2_with fail
  try rw [d2]
  refine (hR _).mono ?_
  rintro e w1 ⟨rfl, rfl⟩
  clear g1 d1 g2 g2' d2
  go_wp2_with fail
  refine wp_region_held_drew (S := fun w' => w'.cell? ⟨bN, 0, none⟩ = some (.slice ao L cap)) (by kernel_rfl) b0 (fun hS => ?_)
  refine takeH 0 (some 12) (.slice ao L cap) rfl rfl (by kernel_rfl) (by kernel_rfl) (by kernel_rfl) (fun _ _ _ h => h) (.inl ⟨by rfl, fun w h => by simp [execOp, go_sem, h]⟩) hS ?_
  simp only [Act.put, List.setIfInBounds_toArray, List.set_cons_succ, List.set_cons_zero]
  refine takeH 1 (some 13) (.int .i64 (L : Int)) rfl rfl (by kernel_rfl) (by kernel_rfl) (by kernel_rfl) (fun _ _ _ h => h) (.inl ⟨by rfl, fun w h => by simp [execOp, go_sem]⟩) hS ?_
  simp only [Act.put, List.setIfInBounds_toArray, List.set_cons_succ, List.set_cons_zero]
  refine takeH 2 (some 14) (.int .i64 (b : Int)) rfl rfl (by kernel_rfl) (by kernel_rfl) (by kernel_rfl) (fun _ _ _ h => h) (.inl ⟨by rfl, fun w h => by simp [execOp, go_sem]⟩) hS ?_
  simp only [Act.put, List.setIfInBounds_toArray, List.set_cons_succ, List.set_cons_zero]
  refine callG 3 (some 15) (by kernel_rfl) rfl rfl (by rfl) 34 _ _ [.int .i64 (b : Int), .int .i64 64] rfl rfl (fun _ _ => by simp [go_sem]) (JPA _) ?_
  rintro e w4 ⟨rfl, rfl⟩
  refine .inl ⟨_, rfl, hS, ?_⟩
  simp only [Act.put, List.setIfInBounds_toArray, List.set_cons_succ, List.set_cons_zero]
  refine takeH 4 (some 16) (.bool false) rfl rfl (by kernel_rfl) (by kernel_rfl) (by kernel_rfl) (fun _ _ _ h => h) (.inl ⟨by rfl, fun w h => by simp [execOp, go_sem, hne]⟩) hS ?_
  simp only [Act.put, List.setIfInBounds_toArray, List.set_cons_succ, List.set_cons_zero]
  refine takeH 5 (some 17) (.bool false) rfl rfl (by kernel_rfl) (by kernel_rfl) (by kernel_rfl) (fun _ _ _ h => h) (.inl ⟨by rfl, fun w h => by simp [execOp, go_sem]⟩) hS ?_
  simp only [Act.put, List.setIfInBounds_toArray, List.set_cons_succ, List.set_cons_zero]
  refine takeH 6 (some 18) (.slice ao L cap) rfl rfl (by kernel_rfl) (by kernel_rfl) (by kernel_rfl) (fun _ _ _ h => h) (.inl ⟨by rfl, fun w h => by simp [execOp, go_sem, h]⟩) hS ?_
  simp only [Act.put, List.setIfInBounds_toArray, List.set_cons_succ, List.set_cons_zero]
  refine callG 7 (some 19) (by kernel_rfl) rfl rfl (by rfl) 35 _ _ [.slice ao L cap] rfl rfl (fun _ _ => by simp [go_sem]) (JO.out _ HK0.out.drew) ?_
  rintro e w5 ⟨rfl, rfl⟩
  refine .inl ⟨_, rfl, hS, ?_⟩
  simp only [Act.put, List.setIfInBounds_toArray, List.set_cons_succ, List.set_cons_zero]
  refine takeH 8 (some 20) (.bool false) rfl rfl (by kernel_rfl) (by kernel_rfl) (by kernel_rfl) (fun _ _ _ h => h) (.inl ⟨by rfl, fun w h => by simp [execOp, go_sem]⟩) hS ?_
  simp only [Act.put, List.setIfInBounds_toArray, List.set_cons_succ, List.set_cons_zero]
  refine takeH 9 (some 21) (.bool false) rfl rfl (by kernel_rfl) (by kernel_rfl) (by kernel_rfl) (fun _ _ _ h => h) (.inl ⟨by rfl, fun w h => by simp [execOp, go_sem]⟩) hS ?_
  simp only [Act.put, List.setIfInBounds_toArray, List.set_cons_succ, List.set_cons_zero]
  refine callG 10 (some 22) (by kernel_rfl) rfl rfl (by rfl) 33 _ _ [.bool false, .int .i64 190] rfl rfl (fun _ _ => by simp [go_sem]) (hR _) ?_
  rintro e w6 ⟨rfl, rfl⟩
  refine .inl ⟨_, rfl, hS, ?_⟩
  simp only [Act.put, List.setIfInBounds_toArray, List.set_cons_succ, List.set_cons_zero]
  refine wpAnyH_done (by kernel_rfl) ?_ _
  have HK6 : Hid (Kept Nought w1 w1.drew) := (Kept.refl Nought w1).drew
  have b2 : w1.drew.cell? ⟨bE, 0, none⟩ = some (.int .u64 (e : Int)) := HK6.out.cellN b1
  generalize w1.drew = W6 at *
  clear b0 b1 hne JPA JO hS HK0
  have g3 : ¬ (e : Int) < 3 := by omega
  have d3 : decide ((e : Int) < 3) = false := decide_eq_false g3
  have g4 : ¬ (e : Int) ≥ 4294967296 := by omega
  have g4' : ¬ (4294967296 : Int) ≤ (e : Int) := by omega
  have d4 : decide ((4294967296 : Int) ≤ (e : Int)) = false := decide_eq_false g4'
  have g5 : (e : Int) % 2 = 0 := by omega
  have g5' : (e : Int).tmod 2 = 0 := by rw [Int.tmod_eq_emod_of_nonneg (by omega)]; omega
  have d5 : ((e : Int) % 2 == 0) = true := by simp; omega
  clear h3 h4 h5
  go_wp2_with fail
  refine (hY _).mono ?_
  rintro e w7 ⟨rfl, rfl⟩
  exact ⟨rfl, .no (by decide), HK6.out⟩

set_option maxRecDepth 20000 in
set_option maxHeartbeats 2000000 in
/-- What Public attempts: a key that may be. -/
theorem kPub1G (bN bE : Nat) (ao : Option Addr) (L cap : Nat) (xs : List Nat) (e : Nat) (hL : L ≤ 1000) (hA : 32 ≤ blen (val 18446744073709551616 xs) ∧ blen (val 18446744073709551616 xs) ≤ 8192) (hW : L = wordsN (val 18446744073709551616 xs)) (hO : val 18446744073709551616 xs % 2 = 1) (h3 : 3 ≤ e) (h4 : e < 4294967296) (h5 : e % 2 = 1) (w : World) (hu : Row .u64 w (.slice ao L cap) xs) (hd : Digs 18446744073709551616 xs) (b0 : w.cell? ⟨bN, 0, none⟩ = some (.slice ao L cap)) (b1 : w.cell? ⟨bE, 0, none⟩ = some (.int .u64 (e : Int))) :
    Calls Tryz.prog 31 #[.pointer (some ⟨bN, 0, none⟩), .pointer (some ⟨bE, 0, none⟩)] w fun e w' => AttE 0 e ∧ Kept Nought w w' := by
  obtain ⟨_, _, _, e1, hl, -, -, -, -⟩ := hu.open
  cases e1
  have hR := kRefuseNo 190
  have hY := kRefuseYes 190
  have JB := nBits _ xs w hu hd (by rw [hl.out]; omega)
  have hbl : blen (val 18446744073709551616 xs) ≤ 64 * xs.length := (blen_le _ _).2 (by rw [Nat.pow_mul]; exact val_lt (by omega) hd)
  rw [hl.out] at hbl
  have HK0 : Hid (Kept Nought w w) := Kept.refl _ _
  have JO : Hid (∀ W, Kept Nought w W → Calls Tryz.prog 35 #[.slice ao L cap] W fun e w' => e = .returned (.bool true) ∧ w' = W) := fun W k => by
    have h := kOdd ao L cap xs W (hu.grew k) hd
    rw [decide_eq_true (by omega)] at h
    exact h
  generalize val 18446744073709551616 xs = X at *
  obtain ⟨z, hz⟩ : ∃ z, z = (blen X + 64 - 1) / 64 := ⟨_, rfl⟩
  have hzw : z = wordsN X := by rw [hz, words_blen]; rfl
  have JPA := fun W => kParts (blen X) 64 z hz (by omega) (by omega) (by omega) W
  obtain ⟨b, hb⟩ : ∃ b, b = blen X := ⟨_, rfl⟩
  rw [← hb] at JPA JB hA
  have g1 : ¬ (b : Int) < 32 := by omega
  have d1 : decide ((b : Int) < 32) = false := decide_eq_false g1
  have g2 : ¬ (b : Int) > 8192 := by omega
  have g2' : ¬ (8192 : Int) < (b : Int) := by omega
  have d2 : decide ((8192 : Int) < (b : Int)) = false := decide_eq_false g2'
  have hne : (L : Int) = (z : Int) := by omega
  clear hu hd hl hb hz hzw hW hbl hA hO
  go_enter Tryz.func31, Tryz.ntmps31
  go_wp2_with fail
  refine JB.mono ?_
  rintro e w1 ⟨rfl, rfl⟩
  clear JB
  go_wp2_with fail
  try rw [d2]
  refine (hR _).mono ?_
  rintro e w1 ⟨rfl, rfl⟩
  clear g1 d1 g2 g2' d2
  go_wp2_with fail
  refine wp_region_held_drew (S := fun w' => w'.cell? ⟨bN, 0, none⟩ = some (.slice ao L cap)) (by kernel_rfl) b0 (fun hS => ?_)
  refine takeH 0 (some 12) (.slice ao L cap) rfl rfl (by kernel_rfl) (by kernel_rfl) (by kernel_rfl) (fun _ _ _ h => h) (.inl ⟨by rfl, fun w h => by simp [execOp, go_sem, h]⟩) hS ?_
  simp only [Act.put, List.setIfInBounds_toArray, List.set_cons_succ, List.set_cons_zero]
  refine takeH 1 (some 13) (.int .i64 (L : Int)) rfl rfl (by kernel_rfl) (by kernel_rfl) (by kernel_rfl) (fun _ _ _ h => h) (.inl ⟨by rfl, fun w h => by simp [execOp, go_sem]⟩) hS ?_
  simp only [Act.put, List.setIfInBounds_toArray, List.set_cons_succ, List.set_cons_zero]
  refine takeH 2 (some 14) (.int .i64 (b : Int)) rfl rfl (by kernel_rfl) (by kernel_rfl) (by kernel_rfl) (fun _ _ _ h => h) (.inl ⟨by rfl, fun w h => by simp [execOp, go_sem]⟩) hS ?_
  simp only [Act.put, List.setIfInBounds_toArray, List.set_cons_succ, List.set_cons_zero]
  refine callG 3 (some 15) (by kernel_rfl) rfl rfl (by rfl) 34 _ _ [.int .i64 (b : Int), .int .i64 64] rfl rfl (fun _ _ => by simp [go_sem]) (JPA _) ?_
  rintro e w4 ⟨rfl, rfl⟩
  refine .inl ⟨_, rfl, hS, ?_⟩
  simp only [Act.put, List.setIfInBounds_toArray, List.set_cons_succ, List.set_cons_zero]
  refine takeH 4 (some 16) (.bool false) rfl rfl (by kernel_rfl) (by kernel_rfl) (by kernel_rfl) (fun _ _ _ h => h) (.inl ⟨by rfl, fun w h => by simp [execOp, go_sem, hne]⟩) hS ?_
  simp only [Act.put, List.setIfInBounds_toArray, List.set_cons_succ, List.set_cons_zero]
  refine takeH 5 (some 17) (.bool false) rfl rfl (by kernel_rfl) (by kernel_rfl) (by kernel_rfl) (fun _ _ _ h => h) (.inl ⟨by rfl, fun w h => by simp [execOp, go_sem]⟩) hS ?_
  simp only [Act.put, List.setIfInBounds_toArray, List.set_cons_succ, List.set_cons_zero]
  refine takeH 6 (some 18) (.slice ao L cap) rfl rfl (by kernel_rfl) (by kernel_rfl) (by kernel_rfl) (fun _ _ _ h => h) (.inl ⟨by rfl, fun w h => by simp [execOp, go_sem, h]⟩) hS ?_
  simp only [Act.put, List.setIfInBounds_toArray, List.set_cons_succ, List.set_cons_zero]
  refine callG 7 (some 19) (by kernel_rfl) rfl rfl (by rfl) 35 _ _ [.slice ao L cap] rfl rfl (fun _ _ => by simp [go_sem]) (JO.out _ HK0.out.drew) ?_
  rintro e w5 ⟨rfl, rfl⟩
  refine .inl ⟨_, rfl, hS, ?_⟩
  simp only [Act.put, List.setIfInBounds_toArray, List.set_cons_succ, List.set_cons_zero]
  refine takeH 8 (some 20) (.bool false) rfl rfl (by kernel_rfl) (by kernel_rfl) (by kernel_rfl) (fun _ _ _ h => h) (.inl ⟨by rfl, fun w h => by simp [execOp, go_sem]⟩) hS ?_
  simp only [Act.put, List.setIfInBounds_toArray, List.set_cons_succ, List.set_cons_zero]
  refine takeH 9 (some 21) (.bool false) rfl rfl (by kernel_rfl) (by kernel_rfl) (by kernel_rfl) (fun _ _ _ h => h) (.inl ⟨by rfl, fun w h => by simp [execOp, go_sem]⟩) hS ?_
  simp only [Act.put, List.setIfInBounds_toArray, List.set_cons_succ, List.set_cons_zero]
  refine callG 10 (some 22) (by kernel_rfl) rfl rfl (by rfl) 33 _ _ [.bool false, .int .i64 190] rfl rfl (fun _ _ => by simp [go_sem]) (hR _) ?_
  rintro e w6 ⟨rfl, rfl⟩
  refine .inl ⟨_, rfl, hS, ?_⟩
  simp only [Act.put, List.setIfInBounds_toArray, List.set_cons_succ, List.set_cons_zero]
  refine wpAnyH_done (by kernel_rfl) ?_ _
  have HK6 : Hid (Kept Nought w1 w1.drew) := (Kept.refl Nought w1).drew
  have b2 : w1.drew.cell? ⟨bE, 0, none⟩ = some (.int .u64 (e : Int)) := HK6.out.cellN b1
  generalize w1.drew = W6 at *
  clear b0 b1 hne JPA JO hS HK0
  have g3 : ¬ (e : Int) < 3 := by omega
  have d3 : decide ((e : Int) < 3) = false := decide_eq_false g3
  have g4 : ¬ (e : Int) ≥ 4294967296 := by omega
  have g4' : ¬ (4294967296 : Int) ≤ (e : Int) := by omega
  have d4 : decide ((4294967296 : Int) ≤ (e : Int)) = false := decide_eq_false g4'
  have g5 : ¬ (e : Int) % 2 = 0 := by omega
  have g5' : ¬ (e : Int).tmod 2 = 0 := by rw [Int.tmod_eq_emod_of_nonneg (by omega)]; omega
  have d5 : ((e : Int) % 2 == 0) = false := by simp; omega
  clear h3 h4 h5
  go_wp2_with fail
  refine (hR _).mono ?_
  rintro e w7 ⟨rfl, rfl⟩
  go_wp2
  go_end0
  exact ⟨.ok, HK6.out⟩

set_option maxRecDepth 20000 in
set_option maxHeartbeats 2000000 in
/-- Public. -/
theorem kPub (ao : Option Addr) (L cap : Nat) (xs : List Nat) (e : Nat) (w : World) (hu : Row .u64 w (.slice ao L cap) xs) (hd : Digs 18446744073709551616 xs) (hL : L ≤ 1000) :
    Calls Tryz.prog 10 #[.slice ao L cap, .int .u64 (e : Nat)] w fun r w' => r = .returned (.int .i64 ((pubE xs e : Nat) : Int)) ∧ Kept Nought w w' := by
  have hmf : ∀ (fn : Fn) (first cap : Array Value) (w : World), (Instr.makeFunc fn first cap).run Tryz.prog w = .ok (.func fn first cap) w := fun _ _ _ _ => rfl
  have hfn : ∀ args w, (callFunc 31 args).run Tryz.prog w = .ok (.enter 31 args) w := fun _ _ => by simp [go_sem]
  obtain ⟨_, _, _, e1, hl, -, -, -, -⟩ := hu.open
  cases e1
  have hxl : xs.length = L := hl.out
  obtain ⟨W, hW⟩ : ∃ W, W = (w.alloc (.cells #[.slice ao L cap] 23)).alloc (.cells #[.int .u64 (e : Nat)] 24) := ⟨_, rfl⟩
  have k0 : Kept Nought w W := by rw [hW]; exact ((Kept.refl Nought w).alloc _).alloc _
  have x0 : W.heap[w.heap.size]? = some (.cells #[.slice ao L cap] 23 (0, 0)) := by rw [hW]; exact heapAt_alloc (heap_alloc_new _ _)
  have x1 : W.heap[w.heap.size + 1]? = some (.cells #[.int .u64 (e : Nat)] 24 (0, 0)) := by
    rw [hW]
    have := heap_alloc_new (w.alloc (.cells #[.slice ao L cap] 23)) (.cells #[.int .u64 (e : Nat)] 24)
    rwa [World.size_alloc] at this
  have kE := (Kept.refl Nought W).alloc (.cells #[.int .i64 0] 27)
  have c0 : (W.alloc (.cells #[.int .i64 0] 27)).cell? ⟨w.heap.size, 0, none⟩ = some (.slice ao L cap) := kE.cellN ((cell_of_row W _ 0 _ _ _ x0).trans rfl)
  have c1 : (W.alloc (.cells #[.int .i64 0] 27)).cell? ⟨w.heap.size + 1, 0, none⟩ = some (.int .u64 (e : Int)) := kE.cellN ((cell_of_row W _ 0 _ _ _ x1).trans rfl)
  have hu1 := hu.grew (k0.trans kE)
  have JA : Calls Tryz.prog 30 #[.func (.func 31) #[] #[.pointer (some ⟨w.heap.size, 0, none⟩), .pointer (some ⟨w.heap.size + 1, 0, none⟩)]] W fun e' w' => e' = .returned (.int .i64 ((pubE xs e : Nat) : Int)) ∧ Kept Nought W w' := by
    refine kAttemptK _ _ W (pubE xs e) hfn ?_
    have hiff := pub_iff hd (by omega) e
    rw [hxl] at hiff
    by_cases hA : 32 ≤ blen (val 18446744073709551616 xs) ∧ blen (val 18446744073709551616 xs) ≤ 8192
    · by_cases hw : L = wordsN (val 18446744073709551616 xs)
      · by_cases ho : val 18446744073709551616 xs % 2 = 1
        · by_cases h3 : 3 ≤ e
          · by_cases h4 : e < 4294967296
            · by_cases h5 : e % 2 = 1
              · rw [hiff.2 ⟨hA, ⟨hw, ho⟩, h3, h4, h5⟩]
                exact kPub1G _ _ ao L cap xs e hL hA hw ho h3 h4 h5 _ hu1 hd c0 c1
              · rw [(pub_two xs e).resolve_left (fun h => by have := hiff.1 h; omega)]
                exact kPub1F _ _ ao L cap xs e hL hA hw ho h3 h4 (by omega) _ hu1 hd c0 c1
            · rw [(pub_two xs e).resolve_left (fun h => by have := hiff.1 h; omega)]
              exact kPub1E _ _ ao L cap xs e hL hA hw ho (by omega) _ hu1 hd c0 c1
          · rw [(pub_two xs e).resolve_left (fun h => by have := hiff.1 h; omega)]
            exact kPub1D _ _ ao L cap xs e hL hA hw ho (by omega) _ hu1 hd c0 c1
        · rw [(pub_two xs e).resolve_left (fun h => by have := hiff.1 h; omega)]
          exact kPub1C _ (w.heap.size + 1) ao L cap xs hL hA hw (by omega) _ hu1 hd c0
      · rw [(pub_two xs e).resolve_left (fun h => by have := hiff.1 h; omega)]
        exact kPub1B _ (w.heap.size + 1) ao L cap xs hL hA hw _ hu1 hd c0
    · rw [(pub_two xs e).resolve_left (fun h => by have := hiff.1 h; omega)]
      exact kPub1A _ (w.heap.size + 1) ao L cap xs hL (by omega) _ hu1 hd c0
  have HW := toHid hW
  have HK0 := toHid k0
  generalize pubE xs e = E at *
  clear hu hd hL hl hxl hW k0 x0 x1 kE c0 c1 hu1 hfn
  go_enter Tryz.func10, Tryz.ntmps10
  go_wp2_with (rw [← HW.out])
  refine JA.mono ?_
  rintro r w1 ⟨rfl, k1⟩
  have HK1 := toHid (HK0.out.trans k1)
  clear JA k1
  go_wp2
  go_ret
  exact ⟨rfl, HK1.out⟩

theorem mont_good {M : Nat} (h2 : 2 ≤ M) (ho : M % 2 = 1) (hn : wordsN M ≤ 130) : montE M = 0 := by
  unfold montE
  rw [if_neg (by omega), if_neg (by omega), if_neg (by omega)]

set_option maxRecDepth 20000 in
set_option maxHeartbeats 4000000 in
/-- inverted, of a number that has one. -/
theorem kInv (ao bo : Option Addr) (L n cap dap : Nat) (xs ms : List Nat) (X M : Nat) (hX : X = val 18446744073709551616 xs) (hM : M = val 18446744073709551616 ms) (h2 : 2 ≤ M) (ho : M % 2 = 1) (hn : n = wordsN M) (hn1 : n ≤ 130) (hL : L ≤ 300) (hg : Nat.gcd X M = 1) (w : World) (hu : Row .u64 w (.slice ao L cap) xs) (hv : Row .u64 w (.slice bo n dap) ms) (hdx : Digs 18446744073709551616 xs) (hdm : Digs 18446744073709551616 ms) :
    Calls Tryz.prog 41 #[.slice ao L cap, .slice bo n dap] w fun e w' => ∃ vo vc T, e = .returned (.slice vo n vc) ∧ Hid (T < M ∧ X * T % M = 1) ∧ Row .u64 w' (.slice vo n vc) (digs 18446744073709551616 T n) ∧ Kept Nought w w' := by
  obtain ⟨_, _, _, e1, hlm, -, -, -, -⟩ := hv.open
  cases e1
  have hE := mont_good h2 ho (by omega)
  have J1 := mSetup bo n dap ms M 0 hM hE.symm w hv hdm (by omega)
  have JR : Hid (∀ W, Kept Nought w W → Calls Tryz.prog 45 #[.slice ao L cap, .slice bo n dap] W fun e w' => ∃ vo vc, e = .returned (.slice vo n vc) ∧ Row .u64 w' (.slice vo n vc) (digs 18446744073709551616 (X % M) n) ∧ Kept Nought W w') := fun W k => kRest ao bo L n cap dap xs ms X M hX hM (by omega) hL (by omega) W (hu.grew k) (hv.grew k) hdx hdm
  have hgm : Nat.gcd (X % M) M = Nat.gcd X M := by rw [Nat.gcd_comm X M, Nat.gcd_rec M X]
  have hlt : X % M < M := Nat.mod_lt _ (by omega)
  have hfit : X % M < 18446744073709551616 ^ n := Nat.lt_trans hlt ((wordsN_le M n).1 (by omega))
  have JI : Hid (∀ W (sa sb so : Option Addr) (na nb ca cb sc K : Nat), isKf M K → Row .u64 W (.slice sa na ca) (modM M) → Row .u64 W (.slice sb nb cb) (modR M) → Row .u64 W (.slice so n sc) (digs 18446744073709551616 (X % M) n) → Calls Tryz.prog 74 #[.pointer none, .agg #[.slice sa na ca, .int .u64 (K : Nat), .slice sb nb cb], .slice so n sc] W fun e w' => ∃ vo vc T, e = .returned (.tuple #[.slice vo n vc, .int .u64 1, .int .i64 0]) ∧ Hid (T < M ∧ X * T % M = 1) ∧ Row .u64 w' (.slice vo n vc) (digs 18446744073709551616 T n) ∧ Kept Nought W w') := fun W sa sb so na nb ca cb sc K hK h1 h3 h4 => by
    obtain ⟨ok1, ok2, ok3, ok4, ok5, ok6⟩ := setup_ok hE hK
    obtain ⟨_, _, _, e1, hla, -, -, -, -⟩ := h1.open
    cases e1
    obtain rfl : n = na := by rw [← hla.out, ok2, hn]
    refine (of10 sa sb so n nb K ca cb n sc (modM M) (modR M) (digs 18446744073709551616 (X % M) n) W h1 h3 h4 ok5 ok6 (digs_digs (by omega) _ _) hK.1 (by omega)).mono ?_
    rintro e w' ⟨v', F, E, rfl, T, RL, hr, k, h10⟩
    obtain ⟨c1, c2, c3, c4⟩ := h10.out
    rw [val_digs, Nat.mod_eq_of_lt hfit, ok4] at c1 c2
    rcases c1 with ⟨rfl, _⟩ | ⟨_, hno⟩
    · rw [if_pos rfl] at c4
      subst c4
      obtain ⟨vo, vn, vc, rfl, hlv, -, -, -, -⟩ := hr.open
      obtain rfl : n = vn := by rw [← hlv.out, digs_length]
      have hI := c2 rfl
      obtain ⟨t1, t2, rfl⟩ := hI.1 (by rw [hgm]; exact hg)
      exact ⟨_, _, T, rfl, ⟨t1, by rw [Nat.mul_mod, Nat.mod_mod, ← Nat.mul_mod] at t2; exact t2⟩, hr, k⟩
    · exact absurd ⟨⟨by rw [ok4]; exact hE, by rw [ok4], by rw [ok4]; exact hK, by rw [ok4]⟩, rfl, hlt⟩ hno
  clear hu hv hdx hdm hlm hX hM h2 ho hL hg hE hgm hlt hfit hn1 hn
  go_enter Tryz.func41, Tryz.ntmps41
  go_wp2_with fail
  refine J1.mono ?_
  rintro e w1 ⟨va, K, vb, rfl, hra, hrb, hK, k1⟩
  obtain ⟨sa, na, ca, rfl, _, _, _, _, _⟩ := hra.open
  obtain ⟨sb, nb, cb, rfl, _, _, _, _, _⟩ := hrb.open
  have J2 := kStepM sa sb na ca K nb cb w1
  have HA := toHid hra
  have HB := toHid hrb
  have HKF := toHid hK
  have HK1 := toHid k1
  unfold modCells
  clear J1 hra hrb hK k1
  go_wp2_with fail
  refine J2.mono ?_
  rintro e w2 ⟨rfl, k2⟩
  obtain ⟨W, hW⟩ : ∃ W, W = w2.alloc (.cells #[.slice sa na ca, .int .u64 (K : Nat), .slice sb nb cb] 90) := ⟨_, rfl⟩
  have ha1 : W.heap[w2.heap.size]? = some (.cells #[.slice sa na ca, .int .u64 (K : Nat), .slice sb nb cb] 90 (0, 0)) := by rw [hW]; exact heap_alloc_new _ _
  have kW : Kept Nought w2 W := by rw [hW]; exact (Kept.refl Nought w2).alloc _
  have HC : Hid (∀ W', Kept Nought W W' → W'.cell? ⟨w2.heap.size, 0, none⟩ = some (.slice sa na ca) ∧ W'.cell? ⟨w2.heap.size, 1, none⟩ = some (.int .u64 (K : Nat)) ∧ W'.cell? ⟨w2.heap.size, 2, none⟩ = some (.slice sb nb cb)) := fun W' k => cells3 ((k.block _ (lt_of_block ha1) (fun f => f)).trans ha1)
  have HW := toHid hW
  have HKW := toHid ((HK1.out.trans k2).trans kW)
  have HA2 := toHid (HA.out.grew (k2.trans kW))
  have HB2 := toHid (HB.out.grew (k2.trans kW))
  clear J2 k2 kW ha1 hW HA HB HK1
  go_wp2_with (rw [← HW.out])
  have KD : Kept Nought W W.drew := (Kept.refl Nought W).drew
  obtain ⟨c0, c1, c2⟩ := HC.out _ (Kept.refl Nought W)
  have JR2 := JR.out _ (HKW.out.trans KD)
  go_region_held3 (fun w' => w'.cell? ⟨w2.heap.size, 0, none⟩ = some (.slice sa na ca) ∧ w'.cell? ⟨w2.heap.size, 1, none⟩ = some (.int .u64 (K : Nat)) ∧ w'.cell? ⟨w2.heap.size, 2, none⟩ = some (.slice sb nb cb))
    (((try dsimp only); (repeat' apply And.intro) <;> first | (go_keep; done) | assumption))
    (first
    | (go_at_call 74; refine (JI.out _ sa sb so na nb ca cb sc K HKF.out (HA2.out.grew KD3) (HB2.out.grew KD3) hr3).mono ?_; rintro e w4 ⟨vo, vc, T, rfl, hT, hr4, k4⟩; obtain ⟨c0'', c1'', c2''⟩ := HC.out _ (KD3.trans k4))
    | (go_at_call 45; refine JR2.mono ?_; rintro e w3 ⟨so, sc, rfl, hr3, k3⟩; have KD3 := KD.trans k3; obtain ⟨c0', c1', c2'⟩ := HC.out _ KD3))
  have HR4 := toHid hr4
  have HK4 := toHid (HKW.out.trans (KD3.trans k4))
  clear JR2 JR JI KD KD3 k3 k4 hr3 hr4 HC c0 c1 c2 c0' c1' c2' c0'' c1'' c2''
  have hR := kRefuseNo 190 w4
  have hS := kStepN vo n vc w4
  go_wp2_with fail
  refine hR.mono ?_
  rintro e w5 ⟨rfl, rfl⟩
  clear hR
  go_wp2_with fail
  refine hS.mono ?_
  rintro e w6 ⟨rfl, rfl⟩
  clear hS
  go_wp2
  go_ret
  exact ⟨_, _, T, rfl, hT, HR4.out, HK4.out⟩

set_option maxRecDepth 20000 in
set_option maxHeartbeats 4000000 in
/-- inverted, of a number that has none. -/
theorem kInvBad (ao bo : Option Addr) (L n cap dap : Nat) (xs ms : List Nat) (X M : Nat) (hX : X = val 18446744073709551616 xs) (hM : M = val 18446744073709551616 ms) (h2 : 2 ≤ M) (ho : M % 2 = 1) (hn : n = wordsN M) (hn1 : n ≤ 130) (hL : L ≤ 300) (hg : Nat.gcd X M ≠ 1) (w : World) (hu : Row .u64 w (.slice ao L cap) xs) (hv : Row .u64 w (.slice bo n dap) ms) (hdx : Digs 18446744073709551616 xs) (hdm : Digs 18446744073709551616 ms) :
    Calls Tryz.prog 41 #[.slice ao L cap, .slice bo n dap] w fun e w' => e = .panicked [refusal 190] ∧ Kept Nought w w' := by
  obtain ⟨_, _, _, e1, hlm, -, -, -, -⟩ := hv.open
  cases e1
  have hE := mont_good h2 ho (by omega)
  have J1 := mSetup bo n dap ms M 0 hM hE.symm w hv hdm (by omega)
  have JR : Hid (∀ W, Kept Nought w W → Calls Tryz.prog 45 #[.slice ao L cap, .slice bo n dap] W fun e w' => ∃ vo vc, e = .returned (.slice vo n vc) ∧ Row .u64 w' (.slice vo n vc) (digs 18446744073709551616 (X % M) n) ∧ Kept Nought W w') := fun W k => kRest ao bo L n cap dap xs ms X M hX hM (by omega) hL (by omega) W (hu.grew k) (hv.grew k) hdx hdm
  have hgm : Nat.gcd (X % M) M = Nat.gcd X M := by rw [Nat.gcd_comm X M, Nat.gcd_rec M X]
  have hlt : X % M < M := Nat.mod_lt _ (by omega)
  have hfit : X % M < 18446744073709551616 ^ n := Nat.lt_trans hlt ((wordsN_le M n).1 (by omega))
  have JI : Hid (∀ W (sa sb so : Option Addr) (na nb ca cb sc K : Nat), isKf M K → Row .u64 W (.slice sa na ca) (modM M) → Row .u64 W (.slice sb nb cb) (modR M) → Row .u64 W (.slice so n sc) (digs 18446744073709551616 (X % M) n) → Calls Tryz.prog 74 #[.pointer none, .agg #[.slice sa na ca, .int .u64 (K : Nat), .slice sb nb cb], .slice so n sc] W fun e w' => ∃ vo vc T, e = .returned (.tuple #[.slice vo n vc, .int .u64 0, .int .i64 0]) ∧ Hid (True) ∧ Row .u64 w' (.slice vo n vc) (digs 18446744073709551616 T n) ∧ Kept Nought W w') := fun W sa sb so na nb ca cb sc K hK h1 h3 h4 => by
    obtain ⟨ok1, ok2, ok3, ok4, ok5, ok6⟩ := setup_ok hE hK
    obtain ⟨_, _, _, e1, hla, -, -, -, -⟩ := h1.open
    cases e1
    obtain rfl : n = na := by rw [← hla.out, ok2, hn]
    refine (of10 sa sb so n nb K ca cb n sc (modM M) (modR M) (digs 18446744073709551616 (X % M) n) W h1 h3 h4 ok5 ok6 (digs_digs (by omega) _ _) hK.1 (by omega)).mono ?_
    rintro e w' ⟨v', F, E, rfl, T, RL, hr, k, h10⟩
    obtain ⟨c1, c2, c3, c4⟩ := h10.out
    rw [val_digs, Nat.mod_eq_of_lt hfit, ok4] at c1 c2
    rcases c1 with ⟨rfl, _⟩ | ⟨_, hno⟩
    · rw [if_pos rfl] at c4
      subst c4
      obtain ⟨vo, vn, vc, rfl, hlv, -, -, -, -⟩ := hr.open
      obtain rfl : n = vn := by rw [← hlv.out, digs_length]
      have hI := c2 rfl
      obtain ⟨_, rfl⟩ := hI.2 (by rw [hgm]; exact hg)
      exact ⟨_, _, _, rfl, trivial, hr, k⟩
    · exact absurd ⟨⟨by rw [ok4]; exact hE, by rw [ok4], by rw [ok4]; exact hK, by rw [ok4]⟩, rfl, hlt⟩ hno
  clear hu hv hdx hdm hlm hX hM h2 ho hL hg hE hgm hlt hfit hn1 hn
  go_enter Tryz.func41, Tryz.ntmps41
  go_wp2_with fail
  refine J1.mono ?_
  rintro e w1 ⟨va, K, vb, rfl, hra, hrb, hK, k1⟩
  obtain ⟨sa, na, ca, rfl, _, _, _, _, _⟩ := hra.open
  obtain ⟨sb, nb, cb, rfl, _, _, _, _, _⟩ := hrb.open
  have J2 := kStepM sa sb na ca K nb cb w1
  have HA := toHid hra
  have HB := toHid hrb
  have HKF := toHid hK
  have HK1 := toHid k1
  unfold modCells
  clear J1 hra hrb hK k1
  go_wp2_with fail
  refine J2.mono ?_
  rintro e w2 ⟨rfl, k2⟩
  obtain ⟨W, hW⟩ : ∃ W, W = w2.alloc (.cells #[.slice sa na ca, .int .u64 (K : Nat), .slice sb nb cb] 90) := ⟨_, rfl⟩
  have ha1 : W.heap[w2.heap.size]? = some (.cells #[.slice sa na ca, .int .u64 (K : Nat), .slice sb nb cb] 90 (0, 0)) := by rw [hW]; exact heap_alloc_new _ _
  have kW : Kept Nought w2 W := by rw [hW]; exact (Kept.refl Nought w2).alloc _
  have HC : Hid (∀ W', Kept Nought W W' → W'.cell? ⟨w2.heap.size, 0, none⟩ = some (.slice sa na ca) ∧ W'.cell? ⟨w2.heap.size, 1, none⟩ = some (.int .u64 (K : Nat)) ∧ W'.cell? ⟨w2.heap.size, 2, none⟩ = some (.slice sb nb cb)) := fun W' k => cells3 ((k.block _ (lt_of_block ha1) (fun f => f)).trans ha1)
  have HW := toHid hW
  have HKW := toHid ((HK1.out.trans k2).trans kW)
  have HA2 := toHid (HA.out.grew (k2.trans kW))
  have HB2 := toHid (HB.out.grew (k2.trans kW))
  clear J2 k2 kW ha1 hW HA HB HK1
  go_wp2_with (rw [← HW.out])
  have KD : Kept Nought W W.drew := (Kept.refl Nought W).drew
  obtain ⟨c0, c1, c2⟩ := HC.out _ (Kept.refl Nought W)
  have JR2 := JR.out _ (HKW.out.trans KD)
  go_region_held3 (fun w' => w'.cell? ⟨w2.heap.size, 0, none⟩ = some (.slice sa na ca) ∧ w'.cell? ⟨w2.heap.size, 1, none⟩ = some (.int .u64 (K : Nat)) ∧ w'.cell? ⟨w2.heap.size, 2, none⟩ = some (.slice sb nb cb))
    (((try dsimp only); (repeat' apply And.intro) <;> first | (go_keep; done) | assumption))
    (first
    | (go_at_call 74; refine (JI.out _ sa sb so na nb ca cb sc K HKF.out (HA2.out.grew KD3) (HB2.out.grew KD3) hr3).mono ?_; rintro e w4 ⟨vo, vc, T, rfl, hT, hr4, k4⟩; obtain ⟨c0'', c1'', c2''⟩ := HC.out _ (KD3.trans k4))
    | (go_at_call 45; refine JR2.mono ?_; rintro e w3 ⟨so, sc, rfl, hr3, k3⟩; have KD3 := KD.trans k3; obtain ⟨c0', c1', c2'⟩ := HC.out _ KD3))
  have HR4 := toHid hr4
  have HK4 := toHid (HKW.out.trans (KD3.trans k4))
  clear JR2 JR JI KD KD3 k3 k4 hr3 hr4 HC c0 c1 c2 c0' c1' c2' c0'' c1'' c2''
  have hY := kRefuseYes 190 w4
  go_wp2_with fail
  refine hY.mono ?_
  rintro e w5 ⟨rfl, rfl⟩
  exact ⟨rfl, rfl, HK4.out⟩

end Go.Proofs.YtiljkgoafknefaaGreat

