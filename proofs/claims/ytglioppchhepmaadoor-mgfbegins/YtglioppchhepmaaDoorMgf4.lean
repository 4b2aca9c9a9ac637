/- Layer 14 (mgf): Mask of anything, landed and plain; the laws' first test. -/
import Derived.Test.YtglioppchhepmaaDoorMgf3
namespace Go.Proofs.YtglioppchhepmaaDoor
open Go.RowKit

theorem mskN_length {h : Int} (seed : List Nat) (n : Nat) (hz : hszN h ≠ 0) : (mskN h seed n).length = n := by
  unfold mskN
  rw [List.length_take, mskL_length]
  have : n * 1 ≤ n * hszN h := Nat.mul_le_mul_left _ (by omega)
  omega

theorem mskA_digs (h : Int) (seed : List Nat) (n : Int) : Digs 256 (mskA h seed n) := by
  unfold mskA mskN
  split
  · exact (mskL_digs h seed _).take _
  · exact Digs.nil _

theorem mskA_good {h : Int} (seed : List Nat) {n : Nat} (hE : mskE h n = 0) : mskA h seed n = mskN h seed n := by
  unfold mskA
  rw [if_pos hE]
  rfl

theorem mskA_length {h : Int} (seed : List Nat) {n : Nat} (hE : mskE h n = 0) : (mskA h seed n).length = n := by
  rw [mskA_good seed hE]
  exact mskN_length seed n (mskE_zero hE).1

/-- A shorter mask begins a longer one. -/
theorem mskN_begins {h : Int} (seed : List Nat) {n m : Nat} (hz : hszN h ≠ 0) (hnm : n ≤ m) : (mskN h seed m).take n = mskN h seed n := by
  unfold mskN
  rw [List.take_take, Nat.min_eq_left hnm]
  refine mskL_take h seed hnm ?_
  rw [mskL_length]
  have : n * 1 ≤ n * hszN h := Nat.mul_le_mul_left _ (by omega)
  omega

/-- Mask, landed. -/
theorem gMaskAny (h : Int) (v : Value) (seed : List Nat) (n : Int) (w : World) (hT : TabH w) (hr : Row .u8 w v seed) (hd : Digs 256 seed) (hl : seed.length ≤ 900000) :
    Calls Tryd.prog 7 #[.int .i64 h, v, .int .i64 n] w fun e w' => ∃ v', e = .returned (.tuple #[v', .int .i64 (mskE h n : Nat)]) ∧ Row .u8 w' v' (mskA h seed n) ∧ Kept Nought w w' := by
  by_cases hE : mskE h n = 0
  · obtain ⟨m, rfl⟩ : ∃ m : Nat, n = (m : Int) := ⟨n.toNat, by have := (mskE_zero hE).2.1; omega⟩
    rw [mskA_good seed hE, hE]
    refine (gMask h v seed m w hT hr hd hl hE).mono ?_
    rintro e w' ⟨v', rfl, o, k⟩
    exact ⟨v', rfl, o.row, k⟩
  · have e0 : mskA h seed n = [] := by unfold mskA; rw [if_neg hE]
    rw [e0]
    refine (gMaskBad h v n w hE).mono ?_
    rintro e w' ⟨rfl, k⟩
    exact ⟨_, rfl, Row.nil _ _, k⟩

/-- Mask, plain. -/
theorem rMaskAny (h : Int) (v : Value) (seed : List Nat) (n : Int) (w : World) (hr : Row .u8 w v seed) (hd : Digs 256 seed) (hl : seed.length ≤ 900000) :
    Calls Tryd.prog 8 #[.int .i64 h, v, .int .i64 n] w fun e w' => ∃ v', e = .returned (.tuple #[v', .int .i64 (mskE h n : Nat)]) ∧ Row .u8 w' v' (mskA h seed n) ∧ Kept Nought w w' := by
  by_cases hE : mskE h n = 0
  · obtain ⟨m, rfl⟩ : ∃ m : Nat, n = (m : Int) := ⟨n.toNat, by have := (mskE_zero hE).2.1; omega⟩
    rw [mskA_good seed hE, hE]
    refine (r13Mask h v seed m w hr hd hl hE).mono ?_
    rintro e w' ⟨v', rfl, o, k⟩
    exact ⟨v', rfl, o.row, k⟩
  · have e0 : mskA h seed n = [] := by unfold mskA; rw [if_neg hE]
    rw [e0]
    refine (r13MaskBad h v n w hE).mono ?_
    rintro e w' ⟨rfl, k⟩
    exact ⟨_, rfl, Row.nil _ _, k⟩

theorem mask_head : (mskN 1 [] 4).length = 4 ∧ (mskN 1 [] 4).getD 0 0 = 223 ∧ (mskN 1 [] 4).getD 1 0 = 63 := by
  have e : mskN 1 [] 4 = (mskL 1 [] 1).take 4 := by
    unfold mskN
    refine mskL_take 1 [] (by omega) ?_
    rw [mskL_length]
    decide
  rw [e]
  decide +kernel

set_option maxRecDepth 20000 in
set_option maxHeartbeats 1000000 in
/-- awake. -/
theorem awake14 (w : World) (hT : TabH w) :
    Calls Tryd.prog 6 #[] w fun e w' => e = .returned (.bool true) ∧ Kept Nought w w' := by
  have J1 : Hid (Calls Tryd.prog 7 #[.int .i64 1, .slice none 0 0, .int .i64 4] w fun e w' => ∃ (b off cap : Nat), e = .returned (.tuple #[.slice (some ⟨b, off, none⟩) 4 cap, .int .i64 0]) ∧ (w'.cell? ⟨b, off, none⟩ = some (.int .u8 223) ∧ w'.cell? ⟨b, off + 1, none⟩ = some (.int .u8 63)) ∧ Kept Nought w w') := by
    have h := gMask 1 (.slice none 0 0) [] 4 w hT (Row.nil _ _) (Digs.nil _) (by simp) (by decide)
    obtain ⟨hl0, hl1, hl2⟩ := mask_head
    generalize mskN 1 [] 4 = zs at *
    refine h.mono ?_
    rintro e w' ⟨v', rfl, o, k2⟩
    obtain ⟨ao, n, cap, rfl, hL, _, _, _, hn⟩ := o.row.open
    obtain rfl : n = 4 := hL.out.symm.trans hl0
    obtain ⟨b, off, e1, c1⟩ := hn 0 (by omega)
    cases e1
    obtain ⟨_, _, e1, c2⟩ := hn 1 (by omega)
    cases e1
    rw [hl1] at c1
    rw [hl2] at c2
    exact ⟨b, off, cap, rfl, ⟨c1, c2⟩, k2⟩
  clear hT
  go_enter Tryd.func6, Tryd.ntmps6
  go_wp2_with fail
  refine J1.out.mono ?_
  rintro e w1 ⟨b1, o1, c1, rfl, ⟨p0, p1⟩, k1⟩
  have HK := toHid k1
  clear J1 k1
  go_wp2_with fail
  go_ret
  exact ⟨rfl, HK.out⟩

end Go.Proofs.YtglioppchhepmaaDoor
