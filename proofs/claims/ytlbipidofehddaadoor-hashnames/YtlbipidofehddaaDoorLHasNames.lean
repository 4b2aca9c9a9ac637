/- The law HashNames, walked. -/
import Derived.Test.YtlbipidofehddaaDoorHas1
namespace Go.Proofs.YtlbipidofehddaaDoor
open Go.RowKit

/-- The law's own number of a name, while it is looked for. -/
def wantN (s : ByteArray) : Nat → Nat
  | 0 => 0
  | k + 1 => if nmB (k + 1) s = true then k + 1 else wantN s k

theorem wantN_three (s : ByteArray) : wantN s 3 = ofN s := by
  unfold ofN
  show (if nmB 3 s = true then 3 else if nmB 2 s = true then 2 else if nmB 1 s = true then 1 else 0) = _
  by_cases h3 : nmB 3 s = true
  · rw [if_pos h3]
    by_cases h1 : nmB 1 s = true
    · have := nmB_uniq (by omega) (by omega) h1 h3
      omega
    · by_cases h2 : nmB 2 s = true
      · have := nmB_uniq (by omega) (by omega) h2 h3
        omega
      · rw [if_neg h1, if_neg h2, if_pos h3]
  · rw [if_neg h3]
    by_cases h2 : nmB 2 s = true
    · rw [if_pos h2]
      by_cases h1 : nmB 1 s = true
      · have := nmB_uniq (by omega) (by omega) h1 h2
        omega
      · rw [if_neg h1, if_pos h2]
    · rw [if_neg h2]
      by_cases h1 : nmB 1 s = true
      · rw [if_pos h1, if_pos h1]
      · rw [if_neg h1, if_neg h1, if_neg h2, if_neg h3]

theorem wantN_le (s : ByteArray) : ∀ k, wantN s k ≤ k
  | 0 => Nat.le_refl _
  | k + 1 => by
    unfold wantN
    split
    · exact Nat.le_refl _
    · exact Nat.le_succ_of_le (wantN_le s k)

set_option maxRecDepth 20000 in
set_option maxHeartbeats 2000000 in
theorem walkHashNames (h : Int) (s : ByteArray) (w : World) (_hs : s.size ≤ maxLen) (hT : Tab13 w) :
    Calls Tryd.prog 4 #[.int .i64 h, .string s] w fun e w' => e = .returned (.bool true) ∧ Below w.heap.size w w' := by
  have hA := awake13 w hT
  by_cases h5 : s.size ≤ 100
  · have h5' : ¬ (s.size : Int) > 100 := by omega
    have h5'' : ¬ (100 : Int) < (s.size : Int) := by omega
    have J1 : Hid (∀ W, Kept Nought w W → Calls Tryd.prog 12 #[.int .i64 h] W fun e w' => e = .returned (.string (hnmN h)) ∧ Kept Nought W w') := fun W k => z13Name h W (hT.grew k)
    have J2 : Hid (∀ W, Calls Tryd.prog 13 #[.int .i64 h] W fun e w' => e = .returned (.string (hnmN h)) ∧ Kept Nought W w') := fun W => r13Name h W
    have J4 : Hid (∀ W, Kept Nought w W → Calls Tryd.prog 14 #[.string s] W fun e w' => e = .returned (.int .i64 (wantN s 3 : Nat)) ∧ Kept Nought W w') := fun W k => by
      rw [wantN_three]
      exact z13Of s W (hT.grew k)
    have J3 : Hid (∀ (k : Nat) W, Calls Tryd.prog 13 #[.int .i64 (k : Int)] W fun e w' => e = .returned (.string (hnmN (k : Int))) ∧ Kept Nought W w') := fun k W => r13Name (k : Int) W
    generalize hnmN h = S at J1 J2
    clear hT
    go_enter Tryd.func4, Tryd.ntmps4
    go_wp2_with fail
    refine hA.mono ?_
    rintro e w1 ⟨rfl, k1⟩
    clear hA
    go_wp2_with fail
    refine (J1.out _ k1).mono ?_
    rintro e w2 ⟨rfl, k2⟩
    go_wp2_with fail
    refine (J2.out _).mono ?_
    rintro e w3 ⟨rfl, k3⟩
    have HK := toHid (k1.trans (k2.trans k3))
    clear J1 J2 k1 k2 k3
    go_wp2_with fail
    go_loopw [5, 6] (fun wv iv wr => ∃ k : Nat, k ≤ 3 ∧ iv = .int .i64 ((k + 1 : Nat) : Int) ∧ wv = .int .i64 (wantN s k : Nat) ∧ Hid (Kept Nought w wr)) (fun _ iv _ => 4 - (intOf iv).toNat)
    case atStart => exact ⟨0, by omega, rfl, rfl, HK.out⟩
    case round =>
      clear HK
      obtain ⟨k, hk, rfl, rfl, HK⟩ := hrel
      by_cases hk3 : k < 3
      · have g1 : ((k + 1 : Nat) : Int) ≤ 3 := by omega
        have J := toHid (fun W => J3.out (k + 1) W)
        have HN : Hid (wantN s (k + 1) = if nmB (k + 1) s = true then k + 1 else wantN s k) := rfl
        have hnb : ((hnmN ((k + 1 : Nat) : Int)).toList == s.toList) = nmB (k + 1) s := rfl
        generalize hnmN ((k + 1 : Nat) : Int) = S1 at J hnb
        generalize wantN s k = W0 at *
        generalize nmB (k + 1) s = b at *
        obtain ⟨m, hm⟩ : ∃ m, m = k + 1 := ⟨_, rfl⟩
        rw [← hm] at g1 J HN ⊢
        have HM := toHid hm
        have hmb : m ≤ 3 := by omega
        clear hm J3
        cases b with
        | true =>
          go_wp2_with fail
          refine (J.out _).mono ?_
          rintro e w4 ⟨rfl, k4⟩
          have HK4 := toHid (HK.out.trans k4)
          clear k4 J
          go_wp2_with fail
          go_roundw
          case rel => exact ⟨m, by omega, by go_num, by rw [HN.out]; simp, HK4.out⟩
          case measure => simp [intOf]; omega
        | false =>
          go_wp2_with fail
          refine (J.out _).mono ?_
          rintro e w4 ⟨rfl, k4⟩
          have HK4 := toHid (HK.out.trans k4)
          clear k4 J
          go_wp2_with fail
          go_roundw
          case rel => exact ⟨m, by omega, by go_num, by rw [HN.out]; simp, HK4.out⟩
          case measure => simp [intOf]; omega
      · obtain rfl : k = 3 := by omega
        have g1 : ¬ ((3 + 1 : Nat) : Int) ≤ 3 := by omega
        generalize wantN s 3 = W0 at *
        clear J3
        go_wp2_with fail
        refine (J4.out _ HK.out).mono ?_
        rintro e w4 ⟨rfl, k4⟩
        have HK4 := toHid (HK.out.trans k4)
        clear k4 J4
        go_wp2_with fail
        go_ret
        exact ⟨rfl, below_kept HK4.out (Nat.le_refl _)⟩
  · have h5' : (s.size : Int) > 100 := by omega
    have h5'' : (100 : Int) < (s.size : Int) := by omega
    clear hT h5
    go_enter Tryd.func4, Tryd.ntmps4
    go_wp2_with fail
    refine hA.mono ?_
    rintro e w1 ⟨rfl, k1⟩
    have HK := toHid k1
    clear hA k1
    go_wp2_with fail
    go_ret
    exact ⟨rfl, below_kept HK.out (Nat.le_refl _)⟩

end Go.Proofs.YtlbipidofehddaaDoor
