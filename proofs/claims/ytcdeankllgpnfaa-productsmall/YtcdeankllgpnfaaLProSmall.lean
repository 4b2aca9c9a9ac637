/- The law ProductSmall, walked: whatever the number and the word. -/
import Derived.Test.YtcdeankllgpnfaaL5B
import Derived.Test.YtcdeankllgpnfaaPrG
import Derived.Test.YtcdeankllgpnfaaRef5C
import Derived.Test.YtcdeankllgpnfaaOpenRow
namespace Go.Proofs.Ytcdeankllgpnfaa
open Go.RowKit

set_option maxRecDepth 20000 in
set_option maxHeartbeats 2000000 in
theorem walkProductSmall (u : Value) (xs : List Nat) (d : Int) (w : World) (hu : Row .u64 w u xs) (hdx : Digs 18446744073709551616 xs) (hb : (Lit.int .u64 d).wf = true) :
    Calls Try.prog 5 #[u, .int .u64 d] w fun e w' => e = .returned (.bool true) ∧ Below w.heap.size w w' := by
  obtain ⟨D, rfl, hD⟩ : ∃ D : Nat, d = (D : Int) ∧ D < 18446744073709551616 := by
    have := wf_u64 d hb
    exact ⟨d.toNat, by omega, by omega⟩
  have hA := f5Awake w
  obtain ⟨ao, L, cap, rfl, hL, _, _, _, _⟩ := hu.open
  by_cases h4 : L ≤ 40
  · have hF := fun W => few1 ao L cap W true (decide_eq_true h4).symm
    obtain ⟨R, hR⟩ : ∃ R, R = if D = 0 then 0 else val 18446744073709551616 xs % D := ⟨_, rfl⟩
    obtain ⟨E, hE⟩ : ∃ E, E = if D = 0 then 1 else 0 := ⟨_, rfl⟩
    have h1 := fun W (k : Kept Nought w W) => pSmall ao L cap xs D R E hD hR hE W (hu.grew k) hdx (by omega)
    have h2 : ∀ W (k : Kept Nought w W), Calls Try.prog 18 #[.slice ao L cap, .int .u64 (D : Nat)] W fun e w' => e = .returned (.tuple #[.int .u64 (R : Nat), .int .i64 (E : Nat)]) ∧ w' = W := fun W k => by
      by_cases h0 : D = 0
      · subst h0
        rw [hR, hE, if_pos rfl, if_pos rfl]
        exact q5Small0 ao L cap W
      · rw [hE, if_neg h0]
        exact q5Small ao L cap xs D R hD (by omega) (by rw [hR, if_neg h0]) W (hu.grew k) hdx (by omega)
    clear hu hdx hL hR hE hb
    go_enter Try.func5, Try.ntmps5
    go_wp2_with fail
    refine hA.mono ?_
    rintro e w1 ⟨rfl, k1⟩
    go_wp2_with fail
    refine (hF w1).mono ?_
    rintro e w1' ⟨rfl, rfl⟩
    have k2 := k1.alloc (.cells #[.slice ao L cap] 23)
    generalize w1.alloc (.cells #[.slice ao L cap] 23) = w2 at *
    clear hA hF k1
    go_wp2_with fail
    refine (h1 w2 k2).mono ?_
    rintro e w3 ⟨rfl, k3⟩
    have k3' := k2.trans k3
    go_wp2_with fail
    refine (h2 w3 k3').mono ?_
    rintro e w4 ⟨rfl, rfl⟩
    clear h1 h2
    go_wp2_with fail
    go_ret
    exact ⟨rfl, below_kept k3' (Nat.le_refl _)⟩
  · have hF := fun W => few1 ao L cap W false (decide_eq_false h4).symm
    clear hu h4
    go_enter Try.func5, Try.ntmps5
    go_wp2_with fail
    refine hA.mono ?_
    rintro e w1 ⟨rfl, k1⟩
    go_wp2_with fail
    refine (hF w1).mono ?_
    rintro e w1' ⟨rfl, rfl⟩
    go_wp2_with fail
    go_ret
    exact ⟨rfl, below_kept (k1.alloc _) (Nat.le_refl _)⟩

end Go.Proofs.Ytcdeankllgpnfaa
