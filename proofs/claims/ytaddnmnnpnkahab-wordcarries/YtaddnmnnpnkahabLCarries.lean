/- The walk of the statement on carries: it returns true for any words. -/
import Derived.Test.YtaddnmnnpnkahabAwake
import Derived.RowKit3
import Derived.OpenShut
namespace Go.Proofs.Ytaddnmnnpnkahab
open Go.RowKit

set_option maxHeartbeats 400000 in
theorem walkWordCarries (a0 : Int) (a1 : Int) (a2 : Int) (w0 : (Lit.int .u64 a0).wf = true) (w1 : (Lit.int .u64 a1).wf = true) (w2 : (Lit.int .u64 a2).wf = true) (w : World) :
    Calls Try.prog 4 #[.int .u64 a0, .int .u64 a1, .int .u64 a2] w fun e w' => e = .returned (.bool true) ∧ Grown w w' := by
  obtain ⟨x0, y0⟩ := bounds_u64 w0
  obtain ⟨x1, y1⟩ := bounds_u64 w1
  obtain ⟨x2, y2⟩ := bounds_u64 w2
  have z0 : a0 < 18446744073709551616 := by omega
  have z1 : a1 < 18446744073709551616 := by omega
  have z2 : a2 < 18446744073709551616 := by omega
  clear w0 w1 w2 y0 y1 y2
  obtain ⟨s, c, hs, hc, s0, s1, hd, hb⟩ : ∃ s c : Int, (a0 + a1 + a2 % 2) % 18446744073709551616 = s ∧ (a0 + a1 + a2 % 2) / 18446744073709551616 = c ∧ 0 ≤ s ∧ s < 18446744073709551616 ∧ (s - a1 - a2 % 2) % 18446744073709551616 = a0 ∧ bor s (a1 + a2 % 2) = c := by
    refine ⟨_, _, rfl, rfl, by omega, by omega, by omega, ?_⟩
    unfold bor; split <;> omega
  have HS : Hid ((a0 + a1 + a2 % 2) % 18446744073709551616 = s ∧ (a0 + a1 + a2 % 2) / 18446744073709551616 = c ∧ (s - a1 - a2 % 2) % 18446744073709551616 = a0 ∧ bor s (a1 + a2 % 2) = c) := ⟨hs, hc, hd, hb⟩
  clear hs hc hd hb
  go_enter Try.func4, Try.ntmps4
  go_wp2_with fail
  refine (awake _).mono ?_
  rintro e w' ⟨rfl, rfl⟩
  go_wp2_with fail
  refine (wAdd a0 a1 a2 x0 x1 x2 z2 _).mono ?_
  rintro e w' ⟨rfl, rfl⟩
  rw [HS.out.1, HS.out.2.1]
  go_wp2_with fail
  refine (wSub s a1 a2 s0 x1 z1 x2 z2 _).mono ?_
  rintro e w' ⟨rfl, rfl⟩
  rw [HS.out.2.2.1, HS.out.2.2.2]
  go_wp2
  go_ret
  exact ⟨rfl, Grown.refl _⟩
end Go.Proofs.Ytaddnmnnpnkahab
