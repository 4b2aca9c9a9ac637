/- The plain side of layer 10 (package sconceref10): how many steps; greatest divisors. -/
import Derived.Test.YtamkkmifbajdfaaRef5A
import Derived.Test.YtamkkmifbajdfaaBigM
namespace Go.Proofs.Ytamkkmifbajdfaa
open Go.RowKit

/-- So many bits, within the bound. -/
def stepBits (b : Int) : Int := min (max b 1) 8320

def stepsN (b : Int) : Int := if stepBits b < 46 then (49 * stepBits b + 80) / 17 else (49 * stepBits b + 57) / 17

set_option maxHeartbeats 400000 in
theorem q10Steps (b : Int) (w : World) : Calls Try.prog 9 #[.int .i64 b] w fun e w' => e = .returned (.int .i64 (stepsN b)) ∧ w' = w := by
  have h0 : 1 ≤ stepBits b := by unfold stepBits; omega
  have h1 : stepBits b ≤ 8320 := by unfold stepBits; omega
  have hb : min (max b 1) 8320 = stepBits b := rfl
  unfold stepsN
  generalize stepBits b = c at *
  by_cases h : c < 46
  · rw [if_pos h]
    go_enter Try.func9, Try.ntmps9
    go_wp2
    go_ret
    exact ⟨rfl, rfl⟩
  · rw [if_neg h]
    go_enter Try.func9, Try.ntmps9
    go_wp2
    go_ret
    exact ⟨rfl, rfl⟩

end Go.Proofs.Ytamkkmifbajdfaa
