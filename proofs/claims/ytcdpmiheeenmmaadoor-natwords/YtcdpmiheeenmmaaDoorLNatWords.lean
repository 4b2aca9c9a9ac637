/- The law NatWords, walked: whatever the word, the number, the length. -/
import Derived.Test.YtcdpmiheeenmmaaDoorNatP
namespace Go.Proofs.YtcdpmiheeenmmaaDoor
open Go.RowKit Go.Shelf

set_option maxRecDepth 20000 in
set_option maxHeartbeats 1000000 in
theorem walkNatWords (x : Int) (v : Value) (xs : List Nat) (n : Int) (w : World) (h : Row .u64 w v xs) (hd : Digs 18446744073709551616 xs) (hx : (Lit.int .u64 x).wf = true) (hT : Tab w) :
    Calls Tryd.prog 5 #[.int .u64 x, v, .int .i64 n] w fun e w' => e = .returned (.bool true) ∧ Below w.heap.size w w' := by
  have hA := nAwake w hT
  have hx' : 0 ≤ x ∧ x < 18446744073709551616 := by
    have : 0 ≤ x ∧ x ≤ 18446744073709551615 := by simpa [Lit.wf, IntKind.min, IntKind.max, IntKind.signed, IntKind.bits] using hx
    omega
  obtain ⟨y, rfl⟩ := Int.eq_ofNat_of_zero_le hx'.1
  have hy : y < 18446744073709551616 := by omega
  clear hx hx'
  obtain ⟨ao, L, cap, rfl, hL, _, _, _, _⟩ := h.open
  have hF := fun (W : World) (R : Bool) (hR : R = decide (L ≤ 400)) => nFew W.heap.size 1 (fun _ => ao) (fun _ => L) (fun _ => cap) (W.alloc (.cells #[.slice ao L cap] 25)) (by omega) R (by rw [hR]; exact decide_eq_decide.2 ⟨fun h _ _ => h, fun h => h 0 (by omega)⟩) (fun i hi => by
    obtain rfl : i = 0 := by omega
    exact (Boxed.new W 25 (.slice ao L cap)).cell)
  by_cases h4 : L ≤ 400
  · have hF := fun W => hF W true (decide_eq_true h4).symm
    have hO := fun W (k : Kept Nought w W) => nResize _ xs n W (h.grew k) hd
    have hP := fun W (k : Kept Nought w W) => rResize _ xs n W (h.grew k) hd (by have := hL.out; omega)
    have hW := fun W => nWord y hy n W
    have hV := fun W => rWord y hy n W
    clear h
    generalize resCode (val 18446744073709551616 xs) n = RC at *
    generalize resList (val 18446744073709551616 xs) n = RL at *
    generalize digs 18446744073709551616 y (clampN n) = RW at *
    go_enter Tryd.func5, Tryd.ntmps5
    go_wp2_with fail
    refine hA.mono ?_
    rintro e w1 ⟨rfl, k1⟩
    go_wp2_with fail
    refine (hF w1).mono ?_
    rintro e w1' ⟨rfl, rfl⟩
    have k1' := k1.alloc (.cells #[.slice ao L cap] 25)
    generalize w1.alloc (.cells #[.slice ao L cap] 25) = w2 at *
    clear hA hF k1
    go_wp2_with fail
    refine (hO w2 k1').mono ?_
    rintro e w3 ⟨v3, rfl, hr3, k3⟩
    go_wp2_with fail
    refine (hP w3 (k1'.trans k3)).mono ?_
    rintro e w4 ⟨v4, rfl, hr4, k4⟩
    have hS := rSame v3 v4 RL RL w4 (hr3.grew k4) hr4
    rw [decide_eq_true rfl] at hS
    have kk := (k1'.trans k3).trans k4
    clear hO hP k1' k3 k4 hr3 hr4
    go_wp2_with fail
    refine hS.mono ?_
    rintro e w5 ⟨rfl, m, rfl⟩
    have k5 := kk.drewN m
    clear hS kk
    go_wp2_with fail
    refine (hW _).mono ?_
    rintro e w6 ⟨v6, rfl, hr6, k6⟩
    have k6' := k5.trans k6
    clear k5 k6
    go_wp2_with fail
    refine (hV _).mono ?_
    rintro e w7 ⟨v7, rfl, hr7, k7⟩
    have k7' := k6'.trans k7
    have hS2 := rSame v6 v7 RW RW w7 (hr6.grew k7) hr7
    rw [decide_eq_true rfl] at hS2
    clear hW hV k6' k7 hr6 hr7
    go_wp2_with fail
    refine hS2.mono ?_
    rintro e w8 ⟨rfl, m2, rfl⟩
    go_wp2_with fail
    go_ret
    exact ⟨rfl, below_kept (k7'.drewN m2) (Nat.le_refl _)⟩
  · have hF := fun W => hF W false (decide_eq_false h4).symm
    clear h
    go_enter Tryd.func5, Tryd.ntmps5
    go_wp2_with fail
    refine hA.mono ?_
    rintro e w1 ⟨rfl, k1⟩
    go_wp2_with fail
    refine (hF w1).mono ?_
    rintro e w1' ⟨rfl, rfl⟩
    go_wp2_with fail
    go_ret
    exact ⟨rfl, below_kept (k1.alloc _) (Nat.le_refl _)⟩

end Go.Proofs.YtcdpmiheeenmmaaDoor
