/- Put together of: Kex3. -/
import Derived.Test.YtldbfcifoijliaaGreatDoorPk17
import Derived.Test.YtldbfcifoijliaaGreatDoorPk19

/- Package key: Public; inverted. (written by wip/gen/kex3.py) -/
namespace Go.Proofs.YtldbfcifoijliaaGreatDoor
open Go.RowKit

/-- How an attempt ends: by itself, or refused. -/
def AttE (E : Nat) (e : Ending) : Prop := (E = 0 ∧ e = .returned (.tuple #[])) ∨ (E ≠ 0 ∧ e = .panicked [refusal (E : Nat)])

theorem AttE.ok : AttE 0 (.returned (.tuple #[])) := .inl ⟨rfl, rfl⟩

theorem AttE.no {E : Nat} (h : E ≠ 0) : AttE E (.panicked [refusal (E : Nat)]) := .inr ⟨h, rfl⟩

set_option maxRecDepth 20000 in
set_option maxHeartbeats 2000000 in
/-- What Public attempts: a number of too few or too many bits. -/
theorem kPub1A (bN bE : Nat) (ao : Option Addr) (L cap : Nat) (xs : List Nat) (hL : L ≤ 1000) (hA : blen (val 18446744073709551616 xs) < 32 ∨ 8192 < blen (val 18446744073709551616 xs)) (w : World) (hu : Row .u64 w (.slice ao L cap) xs) (hd : Digs 18446744073709551616 xs) (b0 : w.cell? ⟨bN, 0, none⟩ = some (.slice ao L cap)) :
    Calls Tryz.prog 40 #[.pointer (some ⟨bN, 0, none⟩), .pointer (some ⟨bE, 0, none⟩)] w fun e w' => AttE 190 e ∧ Kept Nought w w' := by
  obtain ⟨_, _, _, e1, hl, -, -, -, -⟩ := hu.open
  cases e1
  have hR := kRefuseNo 190
  have hY := kRefuseYes 190
  have JB := nBits _ xs w hu hd (by rw [hl.out]; omega)
  have hbl : blen (val 18446744073709551616 xs) ≤ 64 * xs.length := (blen_le _ _).2 (by rw [Nat.pow_mul]; exact val_lt (by omega) hd)
  rw [hl.out] at hbl
  have HK0 : Hid (Kept Nought w w) := Kept.refl _ _
  generalize blen (val 18446744073709551616 xs) = b at *
  clear hu hd hl
  by_cases h1 : b < 32
  · have g1 : (b : Int) < 32 := by omega
    have d1 : decide ((b : Int) < 32) = true := decide_eq_true g1
    clear hA h1 hR
    go_enter Tryz.func40, Tryz.ntmps40
    go_wp2_with fail
    refine JB.mono ?_
    rintro e w1 ⟨rfl, rfl⟩
    clear JB
    go_wp2_with fail
    try rw [d1]
    refine (hY _).mono ?_
    rintro e w1 ⟨rfl, rfl⟩
    exact ⟨rfl, .no (by decide), HK0.out⟩
  · have g1 : ¬ (b : Int) < 32 := by omega
    have d1 : decide ((b : Int) < 32) = false := decide_eq_false g1
    have g2 : (b : Int) > 8192 := by omega
    have g2' : (8192 : Int) < (b : Int) := by omega
    have d2 : decide ((8192 : Int) < (b : Int)) = true := decide_eq_true g2'
    clear hA h1 hR
    go_enter Tryz.func40, Tryz.ntmps40
    go_wp2_with fail
    refine JB.mono ?_
    rintro e w1 ⟨rfl, rfl⟩
    clear JB
    go_wp2_with fail
    try rw [d2]
    refine (hY _).mono ?_
    rintro e w1 ⟨rfl, rfl⟩
    exact ⟨rfl, .no (by decide), HK0.out⟩

set_option maxRecDepth 20000 in
set_option maxHeartbeats 2000000 in
/-- What Public attempts: a number with noughts at its top, or none. -/
theorem kPub1B (bN bE : Nat) (ao : Option Addr) (L cap : Nat) (xs : List Nat) (hL : L ≤ 1000) (hA : 32 ≤ blen (val 18446744073709551616 xs) ∧ blen (val 18446744073709551616 xs) ≤ 8192) (hW : L ≠ wordsN (val 18446744073709551616 xs)) (w : World) (hu : Row .u64 w (.slice ao L cap) xs) (hd : Digs 18446744073709551616 xs) (b0 : w.cell? ⟨bN, 0, none⟩ = some (.slice ao L cap)) :
    Calls Tryz.prog 40 #[.pointer (some ⟨bN, 0, none⟩), .pointer (some ⟨bE, 0, none⟩)] w fun e w' => AttE 190 e ∧ Kept Nought w w' := by
  obtain ⟨_, _, _, e1, hl, -, -, -, -⟩ := hu.open
  cases e1
  have hR := kRefuseNo 190
  have hY := kRefuseYes 190
  have JB := nBits _ xs w hu hd (by rw [hl.out]; omega)
  have hbl : blen (val 18446744073709551616 xs) ≤ 64 * xs.length := (blen_le _ _).2 (by rw [Nat.pow_mul]; exact val_lt (by omega) hd)
  rw [hl.out] at hbl
  have HK0 : Hid (Kept Nought w w) := Kept.refl _ _
  generalize val 18446744073709551616 xs = X at *
  obtain ⟨z, hz⟩ : ∃ z, z = (blen X + 64 - 1) / 64 := ⟨_, rfl⟩
  have hzw : z = wordsN X := by rw [hz, words_blen]; rfl
  have JPA := fun W => kParts (blen X) 64 z hz (by omega) (by omega) (by omega) W
  obtain ⟨b, hb⟩ : ∃ b, b = blen X := ⟨_, rfl⟩
  rw [← hb] at JPA JB hA
  have g1 : ¬ (b : Int) < 32 := by omega
  have d1 : decide ((b : Int) < 32) = false := decide_eq_false g1
  have g2 : ¬ (b : Int) > 8192 := by omega
  have g2' : ¬ (8192 : Int) < (b : Int) := by omega
  have d2 : decide ((8192 : Int) < (b : Int)) = false := decide_eq_false g2'
  have hne : ¬ (L : Int) = (z : Int) := by omega
  clear hu hd hl hb hz hzw hW hbl hA
  go_enter Tryz.func40, Tryz.ntmps40
  go_wp2_with fail
  refine JB.mono ?_
  rintro e w1 ⟨rfl, rfl⟩
  clear JB
  go_wp2_with fail
  try rw [d2]
  refine (hR _).mono ?_
  rintro e w1 ⟨rfl, rfl⟩
  clear g1 d1 g2 g2' d2
  go_wp2_with fail
  refine wp_region_held_drew (S := fun w' => w'.cell? ⟨bN, 0, none⟩ = some (.slice ao L cap)) (by kernel_rfl) b0 (fun hS => ?_)
  refine takeH 0 (some 12) (.slice ao L cap) rfl rfl (by kernel_rfl) (by kernel_rfl) (by kernel_rfl) (fun _ _ _ h => h) (.inl ⟨by rfl, fun w h => by simp [execOp, go_sem, h]⟩) hS ?_
  simp only [Act.put, List.setIfInBounds_toArray, List.set_cons_succ, List.set_cons_zero]
  refine takeH 1 (some 13) (.int .i64 (L : Int)) rfl rfl (by kernel_rfl) (by kernel_rfl) (by kernel_rfl) (fun _ _ _ h => h) (.inl ⟨by rfl, fun w h => by simp [execOp, go_sem]⟩) hS ?_
  simp only [Act.put, List.setIfInBounds_toArray, List.set_cons_succ, List.set_cons_zero]
  refine takeH 2 (some 14) (.int .i64 (b : Int)) rfl rfl (by kernel_rfl) (by kernel_rfl) (by kernel_rfl) (fun _ _ _ h => h) (.inl ⟨by rfl, fun w h => by simp [execOp, go_sem]⟩) hS ?_
  simp only [Act.put, List.setIfInBounds_toArray, List.set_cons_succ, List.set_cons_zero]
  refine callG 3 (some 15) (by kernel_rfl) rfl rfl (by rfl) 43 _ _ [.int .i64 (b : Int), .int .i64 64] rfl rfl (fun _ _ => by simp [go_sem]) (JPA _) ?_
  rintro e w4 ⟨rfl, rfl⟩
  refine .inl ⟨_, rfl, hS, ?_⟩
  simp only [Act.put, List.setIfInBounds_toArray, List.set_cons_succ, List.set_cons_zero]
  refine takeH 4 (some 16) (.bool true) rfl rfl (by kernel_rfl) (by kernel_rfl) (by kernel_rfl) (fun _ _ _ h => h) (.inl ⟨by rfl, fun w h => by simp [execOp, go_sem, hne]⟩) hS ?_
  simp only [Act.put, List.setIfInBounds_toArray, List.set_cons_succ, List.set_cons_zero]
  refine takeH 5 (some 17) (.bool true) rfl rfl (by kernel_rfl) (by kernel_rfl) (by kernel_rfl) (fun _ _ _ h => h) (.inl ⟨by rfl, fun w h => by simp [execOp, go_sem]⟩) hS ?_
  simp only [Act.put, List.setIfInBounds_toArray, List.set_cons_succ, List.set_cons_zero]
  refine takeH 6 (some 18) (undef) rfl rfl (by kernel_rfl) (by kernel_rfl) (by kernel_rfl) (fun _ _ _ h => h) (.inr ⟨by rfl, rfl⟩) hS ?_
  simp only [Act.put, List.setIfInBounds_toArray, List.set_cons_succ, List.set_cons_zero]
  refine skipH 7 (some 19) (by kernel_rfl) rfl rfl (by rfl) hS ?_
  simp only [Act.put, List.setIfInBounds_toArray, List.set_cons_succ, List.set_cons_zero]
  refine takeH 8 (some 20) (undef) rfl rfl (by kernel_rfl) (by kernel_rfl) (by kernel_rfl) (fun _ _ _ h => h) (.inr ⟨by rfl, rfl⟩) hS ?_
  simp only [Act.put, List.setIfInBounds_toArray, List.set_cons_succ, List.set_cons_zero]
  refine takeH 9 (some 21) (.bool true) rfl rfl (by kernel_rfl) (by kernel_rfl) (by kernel_rfl) (fun _ _ _ h => h) (.inl ⟨by rfl, fun w h => by simp [execOp, go_sem]⟩) hS ?_
  simp only [Act.put, List.setIfInBounds_toArray, List.set_cons_succ, List.set_cons_zero]
  refine callG 10 (some 22) (by kernel_rfl) rfl rfl (by rfl) 42 _ _ [.bool true, .int .i64 190] rfl rfl (fun _ _ => by simp [go_sem]) (hY _) ?_
  rintro e w6 ⟨rfl, rfl⟩
  exact .inr ⟨_, rfl, rfl, .no (by decide), HK0.out.drew⟩

set_option maxRecDepth 20000 in
set_option maxHeartbeats 2000000 in
/-- What Public attempts: an even number. -/
theorem kPub1C (bN bE : Nat) (ao : Option Addr) (L cap : Nat) (xs : List Nat) (hL : L ≤ 1000) (hA : 32 ≤ blen (val 18446744073709551616 xs) ∧ blen (val 18446744073709551616 xs) ≤ 8192) (hW : L = wordsN (val 18446744073709551616 xs)) (hO : val 18446744073709551616 xs % 2 = 0) (w : World) (hu : Row .u64 w (.slice ao L cap) xs) (hd : Digs 18446744073709551616 xs) (b0 : w.cell? ⟨bN, 0, none⟩ = some (.slice ao L cap)) :
    Calls Tryz.prog 40 #[.pointer (some ⟨bN, 0, none⟩), .pointer (some ⟨bE, 0, none⟩)] w fun e w' => AttE 190 e ∧ Kept Nought w w' := by
  obtain ⟨_, _, _, e1, hl, -, -, -, -⟩ := hu.open
  cases e1
  have hR := kRefuseNo 190
  have hY := kRefuseYes 190
  have JB := nBits _ xs w hu hd (by rw [hl.out]; omega)
  have hbl : blen (val 18446744073709551616 xs) ≤ 64 * xs.length := (blen_le _ _).2 (by rw [Nat.pow_mul]; exact val_lt (by omega) hd)
  rw [hl.out] at hbl
  have HK0 : Hid (Kept Nought w w) := Kept.refl _ _
  have JO : Hid (∀ W, Kept Nought w W → Calls Tryz.prog 44 #[.slice ao L cap] W fun e w' => e = .returned (.bool false) ∧ w' = W) := fun W k => by
    have h := kOdd ao L cap xs W (hu.grew k) hd
    rw [decide_eq_false (by omega)] at h
    exact h
  generalize val 18446744073709551616 xs = X at *
  obtain ⟨z, hz⟩ : ∃ z, z = (blen X + 64 - 1) / 64 := ⟨_, rfl⟩
  have hzw : z = wordsN X := by rw [hz, words_blen]; rfl
  have JPA := fun W => kParts (blen X) 64 z hz (by omega) (by omega) (by omega) W
  obtain ⟨b, hb⟩ : ∃ b, b = blen X := ⟨_, rfl⟩
  rw [← hb] at JPA JB hA
  have g1 : ¬ (b : Int) < 32 := by omega
  have d1 : decide ((b : Int) < 32) = false := decide_eq_false g1
  have g2 : ¬ (b : Int) > 8192 := by omega
  have g2' : ¬ (8192 : Int) < (b : Int) := by omega
  have d2 : decide ((8192 : Int) < (b : Int)) = false := decide_eq_false g2'
  have hne : (L : Int) = (z : Int) := by omega
  clear hu hd hl hb hz hzw hW hbl hA hO
  go_enter Tryz.func40, Tryz.ntmps40
  go_wp2_with fail
  refine JB.mono ?_
  rintro e w1 ⟨rfl, rfl⟩
  clear JB
  go_wp2_with fail
  try rw [d2]
  refine (hR _).mono ?_
  rintro e w1 ⟨rfl, rfl⟩
  clear g1 d1 g2 g2' d2
  go_wp2_with fail
  refine wp_region_held_drew (S := fun w' => w'.cell? ⟨bN, 0, none⟩ = some (.slice ao L cap)) (by kernel_rfl) b0 (fun hS => ?_)
  refine takeH 0 (some 12) (.slice ao L cap) rfl rfl (by kernel_rfl) (by kernel_rfl) (by kernel_rfl) (fun _ _ _ h => h) (.inl ⟨by rfl, fun w h => by simp [execOp, go_sem, h]⟩) hS ?_
  simp only [Act.put, List.setIfInBounds_toArray, List.set_cons_succ, List.set_cons_zero]
  refine takeH 1 (some 13) (.int .i64 (L : Int)) rfl rfl (by kernel_rfl) (by kernel_rfl) (by kernel_rfl) (fun _ _ _ h => h) (.inl ⟨by rfl, fun w h => by simp [execOp, go_sem]⟩) hS ?_
  simp only [Act.put, List.setIfInBounds_toArray, List.set_cons_succ, List.set_cons_zero]
  refine takeH 2 (some 14) (.int .i64 (b : Int)) rfl rfl (by kernel_rfl) (by kernel_rfl) (by kernel_rfl) (fun _ _ _ h => h) (.inl ⟨by rfl, fun w h => by simp [execOp, go_sem]⟩) hS ?_
  simp only [Act.put, List.setIfInBounds_toArray, List.set_cons_succ, List.set_cons_zero]
  refine callG 3 (some 15) (by kernel_rfl) rfl rfl (by rfl) 43 _ _ [.int .i64 (b : Int), .int .i64 64] rfl rfl (fun _ _ => by simp [go_sem]) (JPA _) ?_
  rintro e w4 ⟨rfl, rfl⟩
  refine .inl ⟨_, rfl, hS, ?_⟩
  simp only [Act.put, List.setIfInBounds_toArray, List.set_cons_succ, List.set_cons_zero]
  refine takeH 4 (some 16) (.bool false) rfl rfl (by kernel_rfl) (by kernel_rfl) (by kernel_rfl) (fun _ _ _ h => h) (.inl ⟨by rfl, fun w h => by simp [execOp, go_sem, hne]⟩) hS ?_
  simp only [Act.put, List.setIfInBounds_toArray, List.set_cons_succ, List.set_cons_zero]
  refine takeH 5 (some 17) (.bool false) rfl rfl (by kernel_rfl) (by kernel_rfl) (by kernel_rfl) (fun _ _ _ h => h) (.inl ⟨by rfl, fun w h => by simp [execOp, go_sem]⟩) hS ?_
  simp only [Act.put, List.setIfInBounds_toArray, List.set_cons_succ, List.set_cons_zero]
  refine takeH 6 (some 18) (.slice ao L cap) rfl rfl (by kernel_rfl) (by kernel_rfl) (by kernel_rfl) (fun _ _ _ h => h) (.inl ⟨by rfl, fun w h => by simp [execOp, go_sem, h]⟩) hS ?_
  simp only [Act.put, List.setIfInBounds_toArray, List.set_cons_succ, List.set_cons_zero]
  refine callG 7 (some 19) (by kernel_rfl) rfl rfl (by rfl) 44 _ _ [.slice ao L cap] rfl rfl (fun _ _ => by simp [go_sem]) (JO.out _ HK0.out.drew) ?_
  rintro e w5 ⟨rfl, rfl⟩
  refine .inl ⟨_, rfl, hS, ?_⟩
  simp only [Act.put, List.setIfInBounds_toArray, List.set_cons_succ, List.set_cons_zero]
  refine takeH 8 (some 20) (.bool true) rfl rfl (by kernel_rfl) (by kernel_rfl) (by kernel_rfl) (fun _ _ _ h => h) (.inl ⟨by rfl, fun w h => by simp [execOp, go_sem]⟩) hS ?_
  simp only [Act.put, List.setIfInBounds_toArray, List.set_cons_succ, List.set_cons_zero]
  refine takeH 9 (some 21) (.bool true) rfl rfl (by kernel_rfl) (by kernel_rfl) (by kernel_rfl) (fun _ _ _ h => h) (.inl ⟨by rfl, fun w h => by simp [execOp, go_sem]⟩) hS ?_
  simp only [Act.put, List.setIfInBounds_toArray, List.set_cons_succ, List.set_cons_zero]
  refine callG 10 (some 22) (by kernel_rfl) rfl rfl (by rfl) 42 _ _ [.bool true, .int .i64 190] rfl rfl (fun _ _ => by simp [go_sem]) (hY _) ?_
  rintro e w6 ⟨rfl, rfl⟩
  exact .inr ⟨_, rfl, rfl, .no (by decide), HK0.out.drew⟩

set_option maxRecDepth 20000 in
set_option maxHeartbeats 2000000 in
/-- What Public attempts: an exponent below 3. -/
theorem kPub1D (bN bE : Nat) (ao : Option Addr) (L cap : Nat) (xs : List Nat) (e : Nat) (hL : L ≤ 1000) (hA : 32 ≤ blen (val 18446744073709551616 xs) ∧ blen (val 18446744073709551616 xs) ≤ 8192) (hW : L = wordsN (val 18446744073709551616 xs)) (hO : val 18446744073709551616 xs % 2 = 1) (h3 : e < 3) (w : World) (hu : Row .u64 w (.slice ao L cap) xs) (hd : Digs 18446744073709551616 xs) (b0 : w.cell? ⟨bN, 0, none⟩ = some (.slice ao L cap)) (b1 : w.cell? ⟨bE, 0, none⟩ = some (.int .u64 (e : Int))) :
    Calls Tryz.prog 40 #[.pointer (some ⟨bN, 0, none⟩), .pointer (some ⟨bE, 0, none⟩)] w fun e w' => AttE 190 e ∧ Kept Nought w w' := by
  obtain ⟨_, _, _, e1, hl, -, -, -, -⟩ := hu.open
  cases e1
  have hR := kRefuseNo 190
  have hY := kRefuseYes 190
  have JB := nBits _ xs w hu hd (by rw [hl.out]; omega)
  have hbl : blen (val 18446744073709551616 xs) ≤ 64 * xs.length := (blen_le _ _).2 (by rw [Nat.pow_mul]; exact val_lt (by omega) hd)
  rw [hl.out] at hbl
  have HK0 : Hid (Kept Nought w w) := Kept.refl _ _
  have JO : Hid (∀ W, Kept Nought w W → Calls Tryz.prog 44 #[.slice ao L cap] W fun e w' => e = .returned (.bool true) ∧ w' = W) := fun W k => by
    have h := kOdd ao L cap xs W (hu.grew k) hd
    rw [decide_eq_true (by omega)] at h
    exact h
  generalize val 18446744073709551616 xs = X at *
  obtain ⟨z, hz⟩ : ∃ z, z = (blen X + 64 - 1) / 64 := ⟨_, rfl⟩
  have hzw : z = wordsN X := by rw [hz, words_blen]; rfl
  have JPA := fun W => kParts (blen X) 64 z hz (by omega) (by omega) (by omega) W
  obtain ⟨b, hb⟩ : ∃ b, b = blen X := ⟨_, rfl⟩
  rw [← hb] at JPA JB hA
  have g1 : ¬ (b : Int) < 32 := by omega
  have d1 : decide ((b : Int) < 32) = false := decide_eq_false g1
  have g2 : ¬ (b : Int) > 8192 := by omega
  have g2' : ¬ (8192 : Int) < (b : Int) := by omega
  have d2 : decide ((8192 : Int) < (b : Int)) = false := decide_eq_false g2'
  have hne : (L : Int) = (z : Int) := by omega
  clear hu hd hl hb hz hzw hW hbl hA hO
  go_enter Tryz.func40, Tryz.ntmps40
  go_wp2_with fail
  refine JB.mono ?_
  rintro e w1 ⟨rfl, rfl⟩
  clear JB
  go_wp2_with fail
  try rw [d2]
  refine (hR _).mono ?_
  rintro e w1 ⟨rfl, rfl⟩
  clear g1 d1 g2 g2' d2
  go_wp2_with fail
  refine wp_region_held_drew (S := fun w' => w'.cell? ⟨bN, 0, none⟩ = some (.slice ao L cap)) (by kernel_rfl) b0 (fun hS => ?_)
  refine takeH 0 (some 12) (.slice ao L cap) rfl rfl (by kernel_rfl) (by kernel_rfl) (by kernel_rfl) (fun _ _ _ h => h) (.inl ⟨by rfl, fun w h => by simp [execOp, go_sem, h]⟩) hS ?_
  simp only [Act.put, List.setIfInBounds_toArray, List.set_cons_succ, List.set_cons_zero]
  refine takeH 1 (some 13) (.int .i64 (L : Int)) rfl rfl (by kernel_rfl) (by kernel_rfl) (by kernel_rfl) (fun _ _ _ h => h) (.inl ⟨by rfl, fun w h => by simp [execOp, go_sem]⟩) hS ?_
  simp only [Act.put, List.setIfInBounds_toArray, List.set_cons_succ, List.set_cons_zero]
  refine takeH 2 (some 14) (.int .i64 (b : Int)) rfl rfl (by kernel_rfl) (by kernel_rfl) (by kernel_rfl) (fun _ _ _ h => h) (.inl ⟨by rfl, fun w h => by simp [execOp, go_sem]⟩) hS ?_
  simp only [Act.put, List.setIfInBounds_toArray, List.set_cons_succ, List.set_cons_zero]
  refine callG 3 (some 15) (by kernel_rfl) rfl rfl (by rfl) 43 _ _ [.int .i64 (b : Int), .int .i64 64] rfl rfl (fun _ _ => by simp [go_sem]) (JPA _) ?_
  rintro e w4 ⟨rfl, rfl⟩
  refine .inl ⟨_, rfl, hS, ?_⟩
  simp only [Act.put, List.setIfInBounds_toArray, List.set_cons_succ, List.set_cons_zero]
  refine takeH 4 (some 16) (.bool false) rfl rfl (by kernel_rfl) (by kernel_rfl) (by kernel_rfl) (fun _ _ _ h => h) (.inl ⟨by rfl, fun w h => by simp [execOp, go_sem, hne]⟩) hS ?_
  simp only [Act.put, List.setIfInBounds_toArray, List.set_cons_succ, List.set_cons_zero]
  refine takeH 5 (some 17) (.bool false) rfl rfl (by kernel_rfl) (by kernel_rfl) (by kernel_rfl) (fun _ _ _ h => h) (.inl ⟨by rfl, fun w h => by simp [execOp, go_sem]⟩) hS ?_
  simp only [Act.put, List.setIfInBounds_toArray, List.set_cons_succ, List.set_cons_zero]
  refine takeH 6 (some 18) (.slice ao L cap) rfl rfl (by kernel_rfl) (by kernel_rfl) (by kernel_rfl) (fun _ _ _ h => h) (.inl ⟨by rfl, fun w h => by simp [execOp, go_sem, h]⟩) hS ?_
  simp only [Act.put, List.setIfInBounds_toArray, List.set_cons_succ, List.set_cons_zero]
  refine callG 7 (some 19) (by kernel_rfl) rfl rfl (by rfl) 44 _ _ [.slice ao L cap] rfl rfl (fun _ _ => by simp [go_sem]) (JO.out _ HK0.out.drew) ?_
  rintro e w5 ⟨rfl, rfl⟩
  refine .inl ⟨_, rfl, hS, ?_⟩
  simp only [Act.put, List.setIfInBounds_toArray, List.set_cons_succ, List.set_cons_zero]
  refine takeH 8 (some 20) (.bool false) rfl rfl (by kernel_rfl) (by kernel_rfl) (by kernel_rfl) (fun _ _ _ h => h) (.inl ⟨by rfl, fun w h => by simp [execOp, go_sem]⟩) hS ?_
  simp only [Act.put, List.setIfInBounds_toArray, List.set_cons_succ, List.set_cons_zero]
  refine takeH 9 (some 21) (.bool false) rfl rfl (by kernel_rfl) (by kernel_rfl) (by kernel_rfl) (fun _ _ _ h => h) (.inl ⟨by rfl, fun w h => by simp [execOp, go_sem]⟩) hS ?_
  simp only [Act.put, List.setIfInBounds_toArray, List.set_cons_succ, List.set_cons_zero]
  refine callG 10 (some 22) (by kernel_rfl) rfl rfl (by rfl) 42 _ _ [.bool false, .int .i64 190] rfl rfl (fun _ _ => by simp [go_sem]) (hR _) ?_
  rintro e w6 ⟨rfl, rfl⟩
  refine .inl ⟨_, rfl, hS, ?_⟩
  simp only [Act.put, List.setIfInBounds_toArray, List.set_cons_succ, List.set_cons_zero]
  refine wpAnyH_done (by kernel_rfl) ?_ _
  have HK6 : Hid (Kept Nought w1 w1.drew) := (Kept.refl Nought w1).drew
  have b2 : w1.drew.cell? ⟨bE, 0, none⟩ = some (.int .u64 (e : Int)) := HK6.out.cellN b1
  generalize w1.drew = W6 at *
  clear b0 b1 hne JPA JO hS HK0
  have g3 : (e : Int) < 3 := by omega
  have d3 : decide ((e : Int) < 3) = true := decide_eq_true g3
  clear h3
  go_wp2_with fail
  refine (hY _).mono ?_
  rintro e w7 ⟨rfl, rfl⟩
  exact ⟨rfl, .no (by decide), HK6.out⟩

set_option maxRecDepth 20000 in
set_option maxHeartbeats 2000000 in
/-- What Public attempts: an exponent that is too great. -/
theorem kPub1E (bN bE : Nat) (ao : Option Addr) (L cap : Nat) (xs : List Nat) (e : Nat) (hL : L ≤ 1000) (hA : 32 ≤ blen (val 18446744073709551616 xs) ∧ blen (val 18446744073709551616 xs) ≤ 8192) (hW : L = wordsN (val 18446744073709551616 xs)) (hO : val 18446744073709551616 xs % 2 = 1) (h4 : 4294967296 ≤ e) (w : World) (hu : Row .u64 w (.slice ao L cap) xs) (hd : Digs 18446744073709551616 xs) (b0 : w.cell? ⟨bN, 0, none⟩ = some (.slice ao L cap)) (b1 : w.cell? ⟨bE, 0, none⟩ = some (.int .u64 (e : Int))) :
    Calls Tryz.prog 40 #[.pointer (some ⟨bN, 0, none⟩), .pointer (some ⟨bE, 0, none⟩)] w fun e w' => AttE 190 e ∧ Kept Nought w w' := by
  obtain ⟨_, _, _, e1, hl, -, -, -, -⟩ := hu.open
  cases e1
  have hR := kRefuseNo 190
  have hY := kRefuseYes 190
  have JB := nBits _ xs w hu hd (by rw [hl.out]; omega)
  have hbl : blen (val 18446744073709551616 xs) ≤ 64 * xs.length := (blen_le _ _).2 (by rw [Nat.pow_mul]; exact val_lt (by omega) hd)
  rw [hl.out] at hbl
  have HK0 : Hid (Kept Nought w w) := Kept.refl _ _
  have JO : Hid (∀ W, Kept Nought w W → Calls Tryz.prog 44 #[.slice ao L cap] W fun e w' => e = .returned (.bool true) ∧ w' = W) := fun W k => by
    have h := kOdd ao L cap xs W (hu.grew k) hd
    rw [decide_eq_true (by omega)] at h
    exact h
  generalize val 18446744073709551616 xs = X at *
  obtain ⟨z, hz⟩ : ∃ z, z = (blen X + 64 - 1) / 64 := ⟨_, rfl⟩
  have hzw : z = wordsN X := by rw [hz, words_blen]; rfl
  have JPA := fun W => kParts (blen X) 64 z hz (by omega) (by omega) (by omega) W
  obtain ⟨b, hb⟩ : ∃ b, b = blen X := ⟨_, rfl⟩
  rw [← hb] at JPA JB hA
  have g1 : ¬ (b : Int) < 32 := by omega
  have d1 : decide ((b : Int) < 32) = false := decide_eq_false g1
  have g2 : ¬ (b : Int) > 8192 := by omega
  have g2' : ¬ (8192 : Int) < (b : Int) := by omega
  have d2 : decide ((8192 : Int) < (b : Int)) = false := decide_eq_false g2'
  have hne : (L : Int) = (z : Int) := by omega
  clear hu hd hl hb hz hzw hW hbl hA hO
  go_enter Tryz.func40, Tryz.ntmps40
  go_wp2_with fail
  refine JB.mono ?_
  rintro e w1 ⟨rfl, rfl⟩
  clear JB
  go_wp2_with fail
  try rw [d2]
  refine (hR _).mono ?_
  rintro e w1 ⟨rfl, rfl⟩
  clear g1 d1 g2 g2' d2
  go_wp2_with fail
  refine wp_region_held_drew (S := fun w' => w'.cell? ⟨bN, 0, none⟩ = some (.slice ao L cap)) (by kernel_rfl) b0 (fun hS => ?_)
  refine takeH 0 (some 12) (.slice ao L cap) rfl rfl (by kernel_rfl) (by kernel_rfl) (by kernel_rfl) (fun _ _ _ h => h) (.inl ⟨by rfl, fun w h => by simp [execOp, go_sem, h]⟩) hS ?_
  simp only [Act.put, List.setIfInBounds_toArray, List.set_cons_succ, List.set_cons_zero]
  refine takeH 1 (some 13) (.int .i64 (L : Int)) rfl rfl (by kernel_rfl) (by kernel_rfl) (by kernel_rfl) (fun _ _ _ h => h) (.inl ⟨by rfl, fun w h => by simp [execOp, go_sem]⟩) hS ?_
  simp only [Act.put, List.setIfInBounds_toArray, List.set_cons_succ, List.set_cons_zero]
  refine takeH 2 (some 14) (.int .i64 (b : Int)) rfl rfl (by kernel_rfl) (by kernel_rfl) (by kernel_rfl) (fun _ _ _ h => h) (.inl ⟨by rfl, fun w h => by simp [execOp, go_sem]⟩) hS ?_
  simp only [Act.put, List.setIfInBounds_toArray, List.set_cons_succ, List.set_cons_zero]
  refine callG 3 (some 15) (by kernel_rfl) rfl rfl (by rfl) 43 _ _ [.int .i64 (b : Int), .int .i64 64] rfl rfl (fun _ _ => by simp [go_sem]) (JPA _) ?_
  rintro e w4 ⟨rfl, rfl⟩
  refine .inl ⟨_, rfl, hS, ?_⟩
  simp only [Act.put, List.setIfInBounds_toArray, List.set_cons_succ, List.set_cons_zero]
  refine takeH 4 (some 16) (.bool false) rfl rfl (by kernel_rfl) (by kernel_rfl) (by kernel_rfl) (fun _ _ _ h => h) (.inl ⟨by rfl, fun w h => by simp [execOp, go_sem, hne]⟩) hS ?_
  simp only [Act.put, List.setIfInBounds_toArray, List.set_cons_succ, List.set_cons_zero]
  refine takeH 5 (some 17) (.bool false) rfl rfl (by kernel_rfl) (by kernel_rfl) (by kernel_rfl) (fun _ _ _ h => h) (.inl ⟨by rfl, fun w h => by simp [execOp, go_sem]⟩) hS ?_
  simp only [Act.put, List.setIfInBounds_toArray, List.set_cons_succ, List.set_cons_zero]
  refine takeH 6 (some 18) (.slice ao L cap) rfl rfl (by kernel_rfl) (by kernel_rfl) (by kernel_rfl) (fun _ _ _ h => h) (.inl ⟨by rfl, fun w h => by simp [execOp, go_sem, h]⟩) hS ?_
  simp only [Act.put, List.setIfInBounds_toArray, List.set_cons_succ, List.set_cons_zero]
  refine callG 7 (some 19) (by kernel_rfl) rfl rfl (by rfl) 44 _ _ [.slice ao L cap] rfl rfl (fun _ _ => by simp [go_sem]) (JO.out _ HK0.out.drew) ?_
  rintro e w5 ⟨rfl, rfl⟩
  refine .inl ⟨_, rfl, hS, ?_⟩
  simp only [Act.put, List.setIfInBounds_toArray, List.set_cons_succ, List.set_cons_zero]
  refine takeH 8 (some 20) (.bool false) rfl rfl (by kernel_rfl) (by kernel_rfl) (by kernel_rfl) (fun _ _ _ h => h) (.inl ⟨by rfl, fun w h => by simp [execOp, go_sem]⟩) hS ?_
  simp only [Act.put, List.setIfInBounds_toArray, List.set_cons_succ, List.set_cons_zero]
  refine takeH 9 (some 21) (.bool false) rfl rfl (by kernel_rfl) (by kernel_rfl) (by kernel_rfl) (fun _ _ _ h => h) (.inl ⟨by rfl, fun w h => by simp [execOp, go_sem]⟩) hS ?_
  simp only [Act.put, List.setIfInBounds_toArray, List.set_cons_succ, List.set_cons_zero]
  refine callG 10 (some 22) (by kernel_rfl) rfl rfl (by rfl) 42 _ _ [.bool false, .int .i64 190] rfl rfl (fun _ _ => by simp [go_sem]) (hR _) ?_
  rintro e w6 ⟨rfl, rfl⟩
  refine .inl ⟨_, rfl, hS, ?_⟩
  simp only [Act.put, List.setIfInBounds_toArray, List.set_cons_succ, List.set_cons_zero]
  refine wpAnyH_done (by kernel_rfl) ?_ _
  have HK6 : Hid (Kept Nought w1 w1.drew) := (Kept.refl Nought w1).drew
  have b2 : w1.drew.cell? ⟨bE, 0, none⟩ = some (.int .u64 (e : Int)) := HK6.out.cellN b1
  generalize w1.drew = W6 at *
  clear b0 b1 hne JPA JO hS HK0
  have g3 : ¬ (e : Int) < 3 := by omega
  have d3 : decide ((e : Int) < 3) = false := decide_eq_false g3
  have g4 : (e : Int) ≥ 4294967296 := by omega
  have g4' : (4294967296 : Int) ≤ (e : Int) := by omega
  have d4 : decide ((4294967296 : Int) ≤ (e : Int)) = true := decide_eq_true g4'
  clear h4
  go_wp2_with fail
  refine (hY _).mono ?_
  rintro e w7 ⟨rfl, rfl⟩
  exact ⟨rfl, .no (by decide), HK6.out⟩

set_option maxRecDepth 20000 in
set_option maxHeartbeats 2000000 in
/-- What Public attempts: an even exponent. -/
theorem kPub1F (bN bE : Nat) (ao : Option Addr) (L cap : Nat) (xs : List Nat) (e : Nat) (hL : L ≤ 1000) (hA : 32 ≤ blen (val 18446744073709551616 xs) ∧ blen (val 18446744073709551616 xs) ≤ 8192) (hW : L = wordsN (val 18446744073709551616 xs)) (hO : val 18446744073709551616 xs % 2 = 1) (h3 : 3 ≤ e) (h4 : e < 4294967296) (h5 : e % 2 = 0) (w : World) (hu : Row .u64 w (.slice ao L cap) xs) (hd : Digs 18446744073709551616 xs) (b0 : w.cell? ⟨bN, 0, none⟩ = some (.slice ao L cap)) (b1 : w.cell? ⟨bE, 0, none⟩ = some (.int .u64 (e : Int))) :
    Calls Tryz.prog 40 #[.pointer (some ⟨bN, 0, none⟩), .pointer (some ⟨bE, 0, none⟩)] w fun e w' => AttE 190 e ∧ Kept Nought w w' := by
  obtain ⟨_, _, _, e1, hl, -, -, -, -⟩ := hu.open
  cases e1
  have hR := kRefuseNo 190
  have hY := kRefuseYes 190
  have JB := nBits _ xs w hu hd (by rw [hl.out]; omega)
  have hbl : blen (val 18446744073709551616 xs) ≤ 64 * xs.length := (blen_le _ _).2 (by rw [Nat.pow_mul]; exact val_lt (by omega) hd)
  rw [hl.out] at hbl
  have HK0 : Hid (Kept Nought w w) := Kept.refl _ _
  have JO : Hid (∀ W, Kept Nought w W → Calls Tryz.prog 44 #[.slice ao L cap] W fun e w' => e = .returned (.bool true) ∧ w' = W) := fun W k => by
    have h := kOdd ao L cap xs W (hu.grew k) hd
    rw [decide_eq_true (by omega)] at h
    exact h
  generalize val 18446744073709551616 xs = X at *
  obtain ⟨z, hz⟩ : ∃ z, z = (blen X + 64 - 1) / 64 := ⟨_, rfl⟩
  have hzw : z = wordsN X := by rw [hz, words_blen]; rfl
  have JPA := fun W => kParts (blen X) 64 z hz (by omega) (by omega) (by omega) W
  obtain ⟨b, hb⟩ : ∃ b, b = blen X := ⟨_, rfl⟩
  rw [← hb] at JPA JB hA
  have g1 : ¬ (b : Int) < 32 := by omega
  have d1 : decide ((b : Int) < 32) = false := decide_eq_false g1
  have g2 : ¬ (b : Int) > 8192 := by omega
  have g2' : ¬ (8192 : Int) < (b : Int) := by omega
  have d2 : decide ((8192 : Int) < (b : Int)) = false := decide_eq_false g2'
  have hne : (L : Int) = (z : Int) := by omega
  clear hu hd hl hb hz hzw hW hbl hA hO
  go_enter Tryz.func40, Tryz.ntmps40
  go_wp2_with fail
  refine JB.mono ?_
  rintro e w1 ⟨rfl, rfl⟩
  clear JB
  go_wp2_with fail
  try rw [d2]
  refine (hR _).mono ?_
  rintro e w1 ⟨rfl, rfl⟩
  clear g1 d1 g2 g2' d2
  go_wp2_with fail
  refine wp_region_held_drew (S := fun w' => w'.cell? ⟨bN, 0, none⟩ = some (.slice ao L cap)) (by kernel_rfl) b0 (fun hS => ?_)
  refine takeH 0 (some 12) (.slice ao L cap) rfl rfl (by kernel_rfl) (by kernel_rfl) (by kernel_rfl) (fun _ _ _ h => h) (.inl ⟨by rfl, fun w h => by simp [execOp, go_sem, h]⟩) hS ?_
  simp only [Act.put, List.setIfInBounds_toArray, List.set_cons_succ, List.set_cons_zero]
  refine takeH 1 (some 13) (.int .i64 (L : Int)) rfl rfl (by kernel_rfl) (by kernel_rfl) (by kernel_rfl) (fun _ _ _ h => h) (.inl ⟨by rfl, fun w h => by simp [execOp, go_sem]⟩) hS ?_
  simp only [Act.put, List.setIfInBounds_toArray, List.set_cons_succ, List.set_cons_zero]
  refine takeH 2 (some 14) (.int .i64 (b : Int)) rfl rfl (by kernel_rfl) (by kernel_rfl) (by kernel_rfl) (fun _ _ _ h => h) (.inl ⟨by rfl, fun w h => by simp [execOp, go_sem]⟩) hS ?_
  simp only [Act.put, List.setIfInBounds_toArray, List.set_cons_succ, List.set_cons_zero]
  refine callG 3 (some 15) (by kernel_rfl) rfl rfl (by rfl) 43 _ _ [.int .i64 (b : Int), .int .i64 64] rfl rfl (fun _ _ => by simp [go_sem]) (JPA _) ?_
  rintro e w4 ⟨rfl, rfl⟩
  refine .inl ⟨_, rfl, hS, ?_⟩
  simp only [Act.put, List.setIfInBounds_toArray, List.set_cons_succ, List.set_cons_zero]
  refine takeH 4 (some 16) (.bool false) rfl rfl (by kernel_rfl) (by kernel_rfl) (by kernel_rfl) (fun _ _ _ h => h) (.inl ⟨by rfl, fun w h => by simp [execOp, go_sem, hne]⟩) hS ?_
  simp only [Act.put, List.setIfInBounds_toArray, List.set_cons_succ, List.set_cons_zero]
  refine takeH 5 (some 17) (.bool false) rfl rfl (by kernel_rfl) (by kernel_rfl) (by kernel_rfl) (fun _ _ _ h => h) (.inl ⟨by rfl, fun w h => by simp [execOp, go_sem]⟩) hS ?_
  simp only [Act.put, List.setIfInBounds_toArray, List.set_cons_succ, List.set_cons_zero]
  refine takeH 6 (some 18) (.slice ao L cap) rfl rfl (by kernel_rfl) (by kernel_rfl) (by kernel_rfl) (fun _ _ _ h => h) (.inl ⟨by rfl, fun w h => by simp [execOp, go_sem, h]⟩) hS ?_
  simp only [Act.put, List.setIfInBounds_toArray, List.set_cons_succ, List.set_cons_zero]
  refine callG 7 (some 19) (by kernel_rfl) rfl rfl (by rfl) 44 _ _ [.slice ao L cap] rfl rfl (fun _ _ => by simp [go_sem]) (JO.out _ HK0.out.drew) ?_
  rintro e w5 ⟨rfl, rfl⟩
  refine .inl ⟨_, rfl, hS, ?_⟩
  simp only [Act.put, List.setIfInBounds_toArray, List.set_cons_succ, List.set_cons_zero]
  refine takeH 8 (some 20) (.bool false) rfl rfl (by kernel_rfl) (by kernel_rfl) (by kernel_rfl) (fun _ _ _ h => h) (.inl ⟨by rfl, fun w h => by simp [execOp, go_sem]⟩) hS ?_
  simp only [Act.put, List.setIfInBounds_toArray, List.set_cons_succ, List.set_cons_zero]
  refine takeH 9 (some 21) (.bool false) rfl rfl (by kernel_rfl) (by kernel_rfl) (by kernel_rfl) (fun _ _ _ h => h) (.inl ⟨by rfl, fun w h => by simp [execOp, go_sem]⟩) hS ?_
  simp only [Act.put, List.setIfInBounds_toArray, List.set_cons_succ, List.set_cons_zero]
  refine callG 10 (some 22) (by kernel_rfl) rfl rfl (by rfl) 42 _ _ [.bool false, .int .i64 190] rfl rfl (fun _ _ => by simp [go_sem]) (hR _) ?_
  rintro e w6 ⟨rfl, rfl⟩
  refine .inl ⟨_, rfl, hS, ?_⟩
  simp only [Act.put, List.setIfInBounds_toArray, List.set_cons_succ, List.set_cons_zero]
  refine wpAnyH_done (by kernel_rfl) ?_ _
  have HK6 : Hid (Kept Nought w1 w1.drew) := (Kept.refl Nought w1).drew
  have b2 : w1.drew.cell? ⟨bE, 0, none⟩ = some (.int .u64 (e : Int)) := HK6.out.cellN b1
  generalize w1.drew = W6 at *
  clear b0 b1 hne JPA JO hS HK0
  have g3 : ¬ (e : Int) < 3 := by omega
  have d3 : decide ((e : Int) < 3) = false := decide_eq_false g3
  have g4 : ¬ (e : Int) ≥ 4294967296 := by omega
  have g4' : ¬ (4294967296 : Int) ≤ (e : Int) := by omega
  have d4 : decide ((4294967296 : Int) ≤ (e : Int)) = false := decide_eq_false g4'
  have g5 : (e : Int) % 2 = 0 := by omega
  have g5' : (e : Int).tmod 2 = 0 := by rw [Int.tmod_eq_emod_of_nonneg (by omega)]; omega
  have d5 : ((e : Int) % 2 == 0) = true := by simp; omega
  clear h3 h4 h5
  go_wp2_with fail
  refine (hY _).mono ?_
  rintro e w7 ⟨rfl, rfl⟩
  exact ⟨rfl, .no (by decide), HK6.out⟩

set_option maxRecDepth 20000 in
set_option maxHeartbeats 2000000 in
/-- What Public attempts: a key that may be. -/
theorem kPub1G (bN bE : Nat) (ao : Option Addr) (L cap : Nat) (xs : List Nat) (e : Nat) (hL : L ≤ 1000) (hA : 32 ≤ blen (val 18446744073709551616 xs) ∧ blen (val 18446744073709551616 xs) ≤ 8192) (hW : L = wordsN (val 18446744073709551616 xs)) (hO : val 18446744073709551616 xs % 2 = 1) (h3 : 3 ≤ e) (h4 : e < 4294967296) (h5 : e % 2 = 1) (w : World) (hu : Row .u64 w (.slice ao L cap) xs) (hd : Digs 18446744073709551616 xs) (b0 : w.cell? ⟨bN, 0, none⟩ = some (.slice ao L cap)) (b1 : w.cell? ⟨bE, 0, none⟩ = some (.int .u64 (e : Int))) :
    Calls Tryz.prog 40 #[.pointer (some ⟨bN, 0, none⟩), .pointer (some ⟨bE, 0, none⟩)] w fun e w' => AttE 0 e ∧ Kept Nought w w' := by
  obtain ⟨_, _, _, e1, hl, -, -, -, -⟩ := hu.open
  cases e1
  have hR := kRefuseNo 190
  have hY := kRefuseYes 190
  have JB := nBits _ xs w hu hd (by rw [hl.out]; omega)
  have hbl : blen (val 18446744073709551616 xs) ≤ 64 * xs.length := (blen_le _ _).2 (by rw [Nat.pow_mul]; exact val_lt (by omega) hd)
  rw [hl.out] at hbl
  have HK0 : Hid (Kept Nought w w) := Kept.refl _ _
  have JO : Hid (∀ W, Kept Nought w W → Calls Tryz.prog 44 #[.slice ao L cap] W fun e w' => e = .returned (.bool true) ∧ w' = W) := fun W k => by
    have h := kOdd ao L cap xs W (hu.grew k) hd
    rw [decide_eq_true (by omega)] at h
    exact h
  generalize val 18446744073709551616 xs = X at *
  obtain ⟨z, hz⟩ : ∃ z, z = (blen X + 64 - 1) / 64 := ⟨_, rfl⟩
  have hzw : z = wordsN X := by rw [hz, words_blen]; rfl
  have JPA := fun W => kParts (blen X) 64 z hz (by omega) (by omega) (by omega) W
  obtain ⟨b, hb⟩ : ∃ b, b = blen X := ⟨_, rfl⟩
  rw [← hb] at JPA JB hA
  have g1 : ¬ (b : Int) < 32 := by omega
  have d1 : decide ((b : Int) < 32) = false := decide_eq_false g1
  have g2 : ¬ (b : Int) > 8192 := by omega
  have g2' : ¬ (8192 : Int) < (b : Int) := by omega
  have d2 : decide ((8192 : Int) < (b : Int)) = false := decide_eq_false g2'
  have hne : (L : Int) = (z : Int) := by omega
  clear hu hd hl hb hz hzw hW hbl hA hO
  go_enter Tryz.func40, Tryz.ntmps40
  go_wp2_with fail
  refine JB.mono ?_
  rintro e w1 ⟨rfl, rfl⟩
  clear JB
  go_wp2_with fail
  try rw [d2]
  refine (hR _).mono ?_
  rintro e w1 ⟨rfl, rfl⟩
  clear g1 d1 g2 g2' d2
  go_wp2_with fail
  refine wp_region_held_drew (S := fun w' => w'.cell? ⟨bN, 0, none⟩ = some (.slice ao L cap)) (by kernel_rfl) b0 (fun hS => ?_)
  refine takeH 0 (some 12) (.slice ao L cap) rfl rfl (by kernel_rfl) (by kernel_rfl) (by kernel_rfl) (fun _ _ _ h => h) (.inl ⟨by rfl, fun w h => by simp [execOp, go_sem, h]⟩) hS ?_
  simp only [Act.put, List.setIfInBounds_toArray, List.set_cons_succ, List.set_cons_zero]
  refine takeH 1 (some 13) (.int .i64 (L : Int)) rfl rfl (by kernel_rfl) (by kernel_rfl) (by kernel_rfl) (fun _ _ _ h => h) (.inl ⟨by rfl, fun w h => by simp [execOp, go_sem]⟩) hS ?_
  simp only [Act.put, List.setIfInBounds_toArray, List.set_cons_succ, List.set_cons_zero]
  refine takeH 2 (some 14) (.int .i64 (b : Int)) rfl rfl (by kernel_rfl) (by kernel_rfl) (by kernel_rfl) (fun _ _ _ h => h) (.inl ⟨by rfl, fun w h => by simp [execOp, go_sem]⟩) hS ?_
  simp only [Act.put, List.setIfInBounds_toArray, List.set_cons_succ, List.set_cons_zero]
  refine callG 3 (some 15) (by kernel_rfl) rfl rfl (by rfl) 43 _ _ [.int .i64 (b : Int), .int .i64 64] rfl rfl (fun _ _ => by simp [go_sem]) (JPA _) ?_
  rintro e w4 ⟨rfl, rfl⟩
  refine .inl ⟨_, rfl, hS, ?_⟩
  simp only [Act.put, List.setIfInBounds_toArray, List.set_cons_succ, List.set_cons_zero]
  refine takeH 4 (some 16) (.bool false) rfl rfl (by kernel_rfl) (by kernel_rfl) (by kernel_rfl) (fun _ _ _ h => h) (.inl ⟨by rfl, fun w h => by simp [execOp, go_sem, hne]⟩) hS ?_
  simp only [Act.put, List.setIfInBounds_toArray, List.set_cons_succ, List.set_cons_zero]
  refine takeH 5 (some 17) (.bool false) rfl rfl (by kernel_rfl) (by kernel_rfl) (by kernel_rfl) (fun _ _ _ h => h) (.inl ⟨by rfl, fun w h => by simp [execOp, go_sem]⟩) hS ?_
  simp only [Act.put, List.setIfInBounds_toArray, List.set_cons_succ, List.set_cons_zero]
  refine takeH 6 (some 18) (.slice ao L cap) rfl rfl (by kernel_rfl) (by kernel_rfl) (by kernel_rfl) (fun _ _ _ h => h) (.inl ⟨by rfl, fun w h => by simp [execOp, go_sem, h]⟩) hS ?_
  simp only [Act.put, List.setIfInBounds_toArray, List.set_cons_succ, List.set_cons_zero]
  refine callG 7 (some 19) (by kernel_rfl) rfl rfl (by rfl) 44 _ _ [.slice ao L cap] rfl rfl (fun _ _ => by simp [go_sem]) (JO.out _ HK0.out.drew) ?_
  rintro e w5 ⟨rfl, rfl⟩
  refine .inl ⟨_, rfl, hS, ?_⟩
  simp only [Act.put, List.setIfInBounds_toArray, List.set_cons_succ, List.set_cons_zero]
  refine takeH 8 (some 20) (.bool false) rfl rfl (by kernel_rfl) (by kernel_rfl) (by kernel_rfl) (fun _ _ _ h => h) (.inl ⟨by rfl, fun w h => by simp [execOp, go_sem]⟩) hS ?_
  simp only [Act.put, List.setIfInBounds_toArray, List.set_cons_succ, List.set_cons_zero]
  refine takeH 9 (some 21) (.bool false) rfl rfl (by kernel_rfl) (by kernel_rfl) (by kernel_rfl) (fun _ _ _ h => h) (.inl ⟨by rfl, fun w h => by simp [execOp, go_sem]⟩) hS ?_
  simp only [Act.put, List.setIfInBounds_toArray, List.set_cons_succ, List.set_cons_zero]
  refine callG 10 (some 22) (by kernel_rfl) rfl rfl (by rfl) 42 _ _ [.bool false, .int .i64 190] rfl rfl (fun _ _ => by simp [go_sem]) (hR _) ?_
  rintro e w6 ⟨rfl, rfl⟩
  refine .inl ⟨_, rfl, hS, ?_⟩
  simp only [Act.put, List.setIfInBounds_toArray, List.set_cons_succ, List.set_cons_zero]
  refine wpAnyH_done (by kernel_rfl) ?_ _
  have HK6 : Hid (Kept Nought w1 w1.drew) := (Kept.refl Nought w1).drew
  have b2 : w1.drew.cell? ⟨bE, 0, none⟩ = some (.int .u64 (e : Int)) := HK6.out.cellN b1
  generalize w1.drew = W6 at *
  clear b0 b1 hne JPA JO hS HK0
  have g3 : ¬ (e : Int) < 3 := by omega
  have d3 : decide ((e : Int) < 3) = false := decide_eq_false g3
  have g4 : ¬ (e : Int) ≥ 4294967296 := by omega
  have g4' : ¬ (4294967296 : Int) ≤ (e : Int) := by omega
  have d4 : decide ((4294967296 : Int) ≤ (e : Int)) = false := decide_eq_false g4'
  have g5 : ¬ (e : Int) % 2 = 0 := by omega
  have g5' : ¬ (e : Int).tmod 2 = 0 := by rw [Int.tmod_eq_emod_of_nonneg (by omega)]; omega
  have d5 : ((e : Int) % 2 == 0) = false := by simp; omega
  clear h3 h4 h5
  go_wp2_with fail
  refine (hR _).mono ?_
  rintro e w7 ⟨rfl, rfl⟩
  go_wp2
  go_end0
  exact ⟨.ok, HK6.out⟩

set_option maxRecDepth 20000 in
set_option maxHeartbeats 2000000 in
/-- Public. -/
theorem kPub (ao : Option Addr) (L cap : Nat) (xs : List Nat) (e : Nat) (w : World) (hu : Row .u64 w (.slice ao L cap) xs) (hd : Digs 18446744073709551616 xs) (hL : L ≤ 1000) :
    Calls Tryz.prog 20 #[.slice ao L cap, .int .u64 (e : Nat)] w fun r w' => r = .returned (.int .i64 ((pubE xs e : Nat) : Int)) ∧ Kept Nought w w' := by
  have hmf : ∀ (fn : Fn) (first cap : Array Value) (w : World), (Instr.makeFunc fn first cap).run Tryz.prog w = .ok (.func fn first cap) w := fun _ _ _ _ => rfl
  have hfn : ∀ args w, (callFunc 40 args).run Tryz.prog w = .ok (.enter 40 args) w := fun _ _ => by simp [go_sem]
  obtain ⟨_, _, _, e1, hl, -, -, -, -⟩ := hu.open
  cases e1
  have hxl : xs.length = L := hl.out
  obtain ⟨W, hW⟩ : ∃ W, W = (w.alloc (.cells #[.slice ao L cap] 23)).alloc (.cells #[.int .u64 (e : Nat)] 24) := ⟨_, rfl⟩
  have k0 : Kept Nought w W := by rw [hW]; exact ((Kept.refl Nought w).alloc _).alloc _
  have x0 : W.heap[w.heap.size]? = some (.cells #[.slice ao L cap] 23 (0, 0)) := by rw [hW]; exact heapAt_alloc (heap_alloc_new _ _)
  have x1 : W.heap[w.heap.size + 1]? = some (.cells #[.int .u64 (e : Nat)] 24 (0, 0)) := by
    rw [hW]
    have := heap_alloc_new (w.alloc (.cells #[.slice ao L cap] 23)) (.cells #[.int .u64 (e : Nat)] 24)
    rwa [World.size_alloc] at this
  have kE := (Kept.refl Nought W).alloc (.cells #[.int .i64 0] 28)
  have c0 : (W.alloc (.cells #[.int .i64 0] 28)).cell? ⟨w.heap.size, 0, none⟩ = some (.slice ao L cap) := kE.cellN ((cell_of_row W _ 0 _ _ _ x0).trans rfl)
  have c1 : (W.alloc (.cells #[.int .i64 0] 28)).cell? ⟨w.heap.size + 1, 0, none⟩ = some (.int .u64 (e : Int)) := kE.cellN ((cell_of_row W _ 0 _ _ _ x1).trans rfl)
  have hu1 := hu.grew (k0.trans kE)
  have JA : Calls Tryz.prog 39 #[.func (.func 40) #[] #[.pointer (some ⟨w.heap.size, 0, none⟩), .pointer (some ⟨w.heap.size + 1, 0, none⟩)]] W fun e' w' => e' = .returned (.int .i64 ((pubE xs e : Nat) : Int)) ∧ Kept Nought W w' := by
    refine kAttemptK _ _ W (pubE xs e) hfn ?_
    have hiff := pub_iff hd (by omega) e
    rw [hxl] at hiff
    by_cases hA : 32 ≤ blen (val 18446744073709551616 xs) ∧ blen (val 18446744073709551616 xs) ≤ 8192
    · by_cases hw : L = wordsN (val 18446744073709551616 xs)
      · by_cases ho : val 18446744073709551616 xs % 2 = 1
        · by_cases h3 : 3 ≤ e
          · by_cases h4 : e < 4294967296
            · by_cases h5 : e % 2 = 1
              · rw [hiff.2 ⟨hA, ⟨hw, ho⟩, h3, h4, h5⟩]
                exact kPub1G _ _ ao L cap xs e hL hA hw ho h3 h4 h5 _ hu1 hd c0 c1
              · rw [(pub_two xs e).resolve_left (fun h => by have := hiff.1 h; omega)]
                exact kPub1F _ _ ao L cap xs e hL hA hw ho h3 h4 (by omega) _ hu1 hd c0 c1
            · rw [(pub_two xs e).resolve_left (fun h => by have := hiff.1 h; omega)]
              exact kPub1E _ _ ao L cap xs e hL hA hw ho (by omega) _ hu1 hd c0 c1
          · rw [(pub_two xs e).resolve_left (fun h => by have := hiff.1 h; omega)]
            exact kPub1D _ _ ao L cap xs e hL hA hw ho (by omega) _ hu1 hd c0 c1
        · rw [(pub_two xs e).resolve_left (fun h => by have := hiff.1 h; omega)]
          exact kPub1C _ (w.heap.size + 1) ao L cap xs hL hA hw (by omega) _ hu1 hd c0
      · rw [(pub_two xs e).resolve_left (fun h => by have := hiff.1 h; omega)]
        exact kPub1B _ (w.heap.size + 1) ao L cap xs hL hA hw _ hu1 hd c0
    · rw [(pub_two xs e).resolve_left (fun h => by have := hiff.1 h; omega)]
      exact kPub1A _ (w.heap.size + 1) ao L cap xs hL (by omega) _ hu1 hd c0
  have HW := toHid hW
  have HK0 := toHid k0
  generalize pubE xs e = E at *
  clear hu hd hL hl hxl hW k0 x0 x1 kE c0 c1 hu1 hfn
  go_enter Tryz.func20, Tryz.ntmps20
  go_wp2_with (rw [← HW.out])
  refine JA.mono ?_
  rintro r w1 ⟨rfl, k1⟩
  have HK1 := toHid (HK0.out.trans k1)
  clear JA k1
  go_wp2
  go_ret
  exact ⟨rfl, HK1.out⟩

theorem mont_good {M : Nat} (h2 : 2 ≤ M) (ho : M % 2 = 1) (hn : wordsN M ≤ 130) : montE M = 0 := by
  unfold montE
  rw [if_neg (by omega), if_neg (by omega), if_neg (by omega)]

end Go.Proofs.YtldbfcifoijliaaGreatDoor

