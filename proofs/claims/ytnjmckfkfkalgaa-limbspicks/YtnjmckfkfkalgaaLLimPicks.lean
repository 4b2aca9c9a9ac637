/- The law LimbsPicks, walked: whatever the numbers and the place. -/
import Derived.Test.YtnjmckfkfkalgaaLimO
import Derived.Test.YtnjmckfkfkalgaaLimU
import Derived.Test.YtnjmckfkfkalgaaRef4P
import Derived.Test.YtnjmckfkfkalgaaOpenNats
namespace Go.Proofs.Ytnjmckfkfkalgaa
open Go.RowKit

set_option maxRecDepth 20000 in
set_option maxHeartbeats 2000000 in
theorem walkLimbsPicks (v : Value) (m : Nat) (A : Nat → Option Addr) (L C : Nat → Nat) (xss : Nat → List Nat) (place : Int) (w : World) (hv : NatsIn w v m A L C xss) (hb : (Lit.int .u64 place).wf = true) :
    Calls Try.prog 6 #[v, .int .u64 place] w fun e w' => e = .returned (.bool true) ∧ Below w.heap.size w w' := by
  obtain ⟨i, rfl, hi⟩ : ∃ i : Nat, place = (i : Int) ∧ i < 18446744073709551616 := by
    have := wf_u64 place hb
    exact ⟨place.toNat, by omega, by omega⟩
  clear hb
  have hA := lAwake w
  obtain ⟨ao, cap, rfl, _, _, hs, hr⟩ := hv
  by_cases hm : m ≤ 40
  · have hm' : ¬ (m : Int) > 40 := by omega
    by_cases h4 : ∀ p, p < m → L p ≤ 200
    · have hF := fun W (k : Kept Nought w W) => lFew ao m cap A L C W (by omega) true (decide_eq_true h4).symm (hs.grew k)
      have h1 := fun W (k : Kept Nought w W) => lPick0 ao m cap A L C xss i hi W (hs.grew k) (fun p hp => (hr p hp).1.grew k) (fun p hp => (hr p hp).2) (fun p hp => by have := h4 p hp; omega) (by omega)
      have h2 := fun W (k : Kept Nought w W) => q4Pick ao m cap A L C xss i W (hs.grew k) (fun p hp => (hr p hp).1.grew k) (fun p hp => (hr p hp).2) (fun p hp => by have := h4 p hp; omega) (by omega)
      clear hs hr h4
      generalize digs 18446744073709551616 (pickN (fun p => val 18446744073709551616 (xss p)) i m) (maxOf L m) = r1 at *
      go_enter Try.func6, Try.ntmps6
      go_wp2_with fail
      refine hA.mono ?_
      rintro e w1 ⟨rfl, k1⟩
      go_wp2_with fail
      refine (hF w1 k1).mono ?_
      rintro e w1' ⟨rfl, rfl⟩
      clear hA hF
      go_wp2_with fail
      refine (h1 _ k1).mono ?_
      rintro e w3 ⟨v3, rfl, hr3, k3⟩
      have k3' := k1.trans k3
      go_wp2_with fail
      refine (h2 w3 k3').mono ?_
      rintro e w4 ⟨v4, rfl, hr4, k4⟩
      have k4' := k3'.trans k4
      have hS := rSame v3 v4 r1 r1 w4 (hr3.grew k4) hr4
      rw [decide_eq_true (rfl : r1 = r1)] at hS
      clear h1 h2 hr3 k1 k3 k3' k4
      go_wp2_with fail
      refine hS.mono ?_
      rintro e w7 ⟨rfl, n, rfl⟩
      go_wp2_with fail
      go_ret
      exact ⟨rfl, below_kept (k4'.drewN n) (Nat.le_refl _)⟩
    · have hF := fun W (k : Kept Nought w W) => lFew ao m cap A L C W (by omega) false (decide_eq_false h4).symm (hs.grew k)
      clear hs hr h4
      go_enter Try.func6, Try.ntmps6
      go_wp2_with fail
      refine hA.mono ?_
      rintro e w1 ⟨rfl, k1⟩
      go_wp2_with fail
      refine (hF w1 k1).mono ?_
      rintro e w1' ⟨rfl, rfl⟩
      go_wp2_with fail
      go_ret
      exact ⟨rfl, below_kept k1 (Nat.le_refl _)⟩
  · have hm' : (m : Int) > 40 := by omega
    clear hs hr
    go_enter Try.func6, Try.ntmps6
    go_wp2_with fail
    refine hA.mono ?_
    rintro e w1 ⟨rfl, k1⟩
    go_wp2_with fail
    go_ret
    exact ⟨rfl, below_kept k1 (Nat.le_refl _)⟩

end Go.Proofs.Ytnjmckfkfkalgaa
