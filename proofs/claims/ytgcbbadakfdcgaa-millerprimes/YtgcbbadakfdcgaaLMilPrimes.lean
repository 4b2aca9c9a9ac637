/- The walk of the statement on primes: it returns true for every number. -/
import Derived.Test.YtgcbbadakfdcgaaLaw17
import Derived.Test.YtgcbbadakfdcgaaMil2
import Derived.Test.YtgcbbadakfdcgaaOpenRow
namespace Go.Proofs.Ytgcbbadakfdcgaa
open Go.RowKit

theorem last_prime {n : Nat} (h : 2 ≤ n) : 0 < (primesTo n).length ∧ ((primesTo n).getD ((primesTo n).length - 1) 0 = n ↔ PrimeN n) := by
  have hp : 0 < (primesTo n).length := List.length_pos_of_mem (primesTo_mem.2 ⟨by decide, h⟩)
  refine ⟨hp, fun e => ?_, fun hP => ?_⟩
  · have hm : (primesTo n).getD ((primesTo n).length - 1) 0 ∈ primesTo n := by
      rw [List.getD_eq_getElem?_getD, List.getElem?_eq_getElem (by omega), Option.getD_some]
      exact List.getElem_mem _
    rw [e] at hm
    exact (primesTo_mem.1 hm).1
  · obtain ⟨m, rfl⟩ : ∃ m, n = m + 1 := ⟨n - 1, by omega⟩
    rw [primesTo_succ, if_pos hP, List.length_append, List.length_singleton, Nat.add_sub_cancel, List.getD_eq_getElem?_getD, List.getElem?_append_right (Nat.le_refl _), Nat.sub_self]
    rfl

theorem strE_small {n b : Nat} (h5 : 5 ≤ n) (h6 : n ≤ 600) (ho : n % 2 = 1) (hb : 2 ≤ b) (hb2 : b < n - 1) : strE n b = 0 := by
  have hw : wordsN n ≤ 1 := (wordsN_le n 1).2 (by rw [Nat.pow_one]; omega)
  have h0 : oddE n = 0 := by
    unfold oddE
    rw [if_neg (by omega), if_neg (by omega)]
  unfold strE
  rw [h0, if_neg (by omega), if_neg (by omega)]

theorem yesN_le (n : Nat) : ∀ m, yesN n m ≤ m
  | 0 => Nat.le_refl _
  | m + 1 => by
    have := yesN_le n m
    unfold yesN
    split <;> omega

theorem yes_step {n b : Nat} (hb : 2 ≤ b) : yesN n (b + 1 - 2) = yesN n (b - 2) + (if strongB n b then 1 else 0) := by
  obtain ⟨m, rfl⟩ : ∃ m, b = m + 2 := ⟨b - 2, by omega⟩
  rw [show m + 2 + 1 - 2 = m + 1 by omega, show m + 2 - 2 = m by omega]
  rfl

theorem upTo_small {n : Nat} (h : n ≤ 600) : upTo (n : Int) = n := by
  unfold upTo
  rw [if_pos (by omega), Int.toNat_natCast]

set_option maxRecDepth 40000 in
set_option maxHeartbeats 2000000 in
theorem walkMillerPrimes (z : Int) (w : World) (hb : (Lit.int .i64 z).wf = true) :
    Calls Try.prog 3 #[.int .i64 z] w fun e w' => e = .returned (.bool true) ∧ Below w.heap.size w w' := by
  obtain ⟨h0, h1⟩ := bounds_i64 hb
  have hA := f17Awake w
  clear hb
  by_cases g1 : z < 5
  · clear h0 h1
    go_enter Try.func3, Try.ntmps3
    go_wp2_with fail
    refine hA.mono ?_
    rintro e w1 ⟨rfl, k1⟩
    clear hA
    go_wp2_with fail
    go_ret
    exact ⟨rfl, below_kept k1 (Nat.le_refl _)⟩
  by_cases g2 : z > 600
  · clear h0 h1
    have q1 : decide (z < 5) = false := decide_eq_false g1
    have g2' : 600 < z := g2
    go_enter Try.func3, Try.ntmps3
    go_wp2_with fail
    refine hA.mono ?_
    rintro e w1 ⟨rfl, k1⟩
    clear hA
    go_wp2_with fail
    go_ret
    exact ⟨rfl, below_kept k1 (Nat.le_refl _)⟩
  obtain ⟨n, rfl⟩ : ∃ n : Nat, z = (n : Int) := ⟨z.toNat, by omega⟩
  have h5 : 5 ≤ n := by omega
  have h6 : n ≤ 600 := by omega
  have q1 : decide ((n : Int) < 5) = false := decide_eq_false g1
  have q2 : decide ((n : Int) > 600) = false := decide_eq_false g2
  have q2' : decide ((600 : Int) < (n : Int)) = false := decide_eq_false g2
  have g2' : ¬ (600 : Int) < (n : Int) := g2
  by_cases g3 : n % 2 = 0
  · have t3 : Int.tmod (n : Int) 2 = 0 := by rw [Int.tmod_eq_emod_of_nonneg (by omega)]; omega
    clear h0 h1
    go_enter Try.func3, Try.ntmps3
    go_wp2_with fail
    refine hA.mono ?_
    rintro e w1 ⟨rfl, k1⟩
    clear hA
    go_wp2_with fail
    go_ret
    exact ⟨rfl, below_kept k1 (Nat.le_refl _)⟩
  have t3 : Int.tmod (n : Int) 2 = 1 := by rw [Int.tmod_eq_emod_of_nonneg (by omega)]; omega
  have hodd : n % 2 = 1 := by omega
  have HM := toHid (mil_all h5 h6 hodd)
  have HO := toHid hodd
  have JS : Hid (∀ W b, 2 ≤ b → b < n - 1 → Calls Try.prog 5 #[.slice (some ⟨W.heap.size, 0, none⟩) 1 1, .slice (some ⟨W.heap.size + 1, 0, none⟩) 1 1] ((W.alloc (.cells #[.int .u64 (n : Nat)] 26)).alloc (.cells #[.int .u64 (b : Nat)] 26)) fun e w' => e = .returned (.tuple #[.bool (strongB n b), .int .i64 0]) ∧ Kept Nought W w') := fun W b hb2 hbn => one17 n b (by omega) (by omega) 0 _ (strE_small h5 h6 hodd hb2 hbn) rfl rfl W
  have JP : Hid (∀ W, Calls Try.prog 6 #[.int .i64 (n : Int)] W fun e w' => ∃ v', e = .returned v' ∧ Row .i64 w' v' (primesTo n) ∧ Kept Nought W w') := fun W => by
    have := r16Primes (n : Int) h0 h1 W
    rw [upTo_small h6] at this
    refine this.mono ?_
    rintro e w' ⟨v', rfl, h2, _, h3⟩
    exact ⟨v', rfl, h2, h3⟩
  clear h0 h1 hodd g3
  go_enter Try.func3, Try.ntmps3
  go_wp2_with fail
  refine hA.mono ?_
  rintro e w1 ⟨rfl, k1⟩
  have HK1 := toHid k1
  clear hA k1
  go_wp2_with fail
  clear t3 q1 q2 q2' g1 g2 g2'
  go_loopw [3, 4] (fun yv bv wr => ∃ (y b : Nat), 2 ≤ b ∧ b ≤ n - 1 ∧ y ≤ b ∧ yv = .int .i64 (y : Int) ∧ bv = .int .i64 (b : Int) ∧ Hid (y = yesN n (b - 2)) ∧ Hid (Kept Nought w wr)) (fun _ bv _ => n - (intOf bv).toNat)
  case atStart => exact ⟨0, 2, by omega, by omega, by omega, rfl, rfl, rfl, HK1.out⟩
  case round =>
    obtain ⟨y, b, hb2, hbn, hyb, rfl, rfl, HY, HK⟩ := hrel
    by_cases hin : b < n - 1
    · have g4 : (b : Int) < (n : Int) - 1 := by omega
      have hS := JS.out wr b hb2 hin
      cases hR : strongB n b with
      | true =>
        rw [hR] at hS
        have HY2 : Hid (y + 1 = yesN n (b + 1 - 2)) := by unfold Hid; rw [yes_step hb2, hR, ← HY.out]; rfl
        clear hR
        go_wp2_with fail
        refine hS.mono ?_
        rintro e w2 ⟨rfl, k2⟩
        have HK2 := toHid (HK.out.trans k2)
        clear hS k2
        go_wp2_with fail
        go_roundw
        case rel => exact ⟨y + 1, b + 1, by omega, by omega, by omega, by go_num, by go_num, HY2, HK2⟩
        case measure => simp [intOf]; omega
      | false =>
        rw [hR] at hS
        have HY2 : Hid (y = yesN n (b + 1 - 2)) := by unfold Hid; rw [yes_step hb2, hR, ← HY.out]; rfl
        clear hR
        go_wp2_with fail
        refine hS.mono ?_
        rintro e w2 ⟨rfl, k2⟩
        have HK2 := toHid (HK.out.trans k2)
        clear hS k2
        go_wp2_with fail
        go_roundw
        case rel => exact ⟨y, b + 1, by omega, by omega, by omega, rfl, by go_num, HY2, HK2⟩
        case measure => simp [intOf]; omega
    · have g4 : ¬ (b : Int) < (n : Int) - 1 := by omega
      obtain rfl : b = n - 1 := by omega
      have hP := JP.out wr
      have hy : Hid (y = yesN n (n - 3)) := by unfold Hid; rw [HY.out]; rfl
      have hyn : y ≤ n := by omega
      go_wp2_with fail
      refine hP.mono ?_
      rintro e w2 ⟨v2, rfl, hr2, k2⟩
      obtain ⟨hl0, hlp⟩ := last_prime (show 2 ≤ n by omega)
      have hll := primesTo_len n
      obtain ⟨vo, vn, vc, rfl, hvl, hvc, hvm, _, hve⟩ := hr2.open
      rw [hvl.out] at hl0 hlp hll
      obtain ⟨b3, o3, rfl, c3⟩ := hve (vn - 1) (by omega)
      have HK3 := toHid (HK.out.trans k2)
      obtain ⟨q, hq⟩ : ∃ q, q = (primesTo n).getD (vn - 1) 0 := ⟨_, rfl⟩
      rw [← hq] at hlp c3
      have HMM := HM.out
      unfold milOk at HMM
      rw [← hy.out] at HMM
      obtain ⟨j, rfl⟩ : ∃ j, vn = j + 1 := ⟨vn - 1, by omega⟩
      rw [Nat.add_sub_cancel] at c3
      have gj : ((j + 1 : Nat) : Int) - 1 = (j : Int) := by omega
      clear hP k2 hr2 hve hq HK hvl
      by_cases hpr : PrimeN n
      · have hqn := hlp.2 hpr
        subst hqn
        rw [if_pos hpr] at HMM
        have hyy := of_decide_eq_true HMM
        have g6 : (y : Int) = (q : Int) - 3 := by omega
        clear HMM hlp hpr
        go_wp2_with fail
        go_ret
        exact ⟨by simp; omega, below_kept HK3.out (Nat.le_refl _)⟩
      · rw [if_neg hpr] at HMM
        have hyy := of_decide_eq_true HMM
        have g5 : ¬ (q : Int) = (n : Int) := fun e => hpr (hlp.1 (by omega))
        have g6 : 4 * (y : Int) ≤ (n : Int) - 1 := by omega
        clear HMM hlp hpr
        go_wp2_with fail
        go_ret
        exact ⟨by simp, below_kept HK3.out (Nat.le_refl _)⟩

end Go.Proofs.Ytgcbbadakfdcgaa
