/- The law InverseDivisors, walked. -/
import Derived.Test.YtamkkmifbajdfaaGreatLaw10
import Derived.Test.YtamkkmifbajdfaaGreatIvn9
import Derived.Test.YtamkkmifbajdfaaGreatL5A
import Derived.Test.YtamkkmifbajdfaaGreatOpenRow
namespace Go.Proofs.YtamkkmifbajdfaaGreat
open Go.RowKit

set_option maxRecDepth 20000 in
set_option maxHeartbeats 4000000 in
theorem walkInverseDivisors (u : Value) (xs : List Nat) (v : Value) (ys : List Nat) (w : World) (hu : Row .u64 w u xs) (hv : Row .u64 w v ys) (hdx : Digs 18446744073709551616 xs) (hdy : Digs 18446744073709551616 ys) :
    Calls Tryz.prog 3 #[u, v] w fun e w' => e = .returned (.bool true) ∧ Below w.heap.size w w' := by
  obtain ⟨ao, L, cap, rfl, -, -, -, -, -⟩ := hu.open
  obtain ⟨bo, M, dap, rfl, -, -, -, -, -⟩ := hv.open
  have hA := f10Awake w
  have JF1 := fun W (R : Bool) (hR : R = decide (L ≤ 40)) => few1 ao L cap W R hR
  have JF2 := fun W (R : Bool) (hR : R = decide (M ≤ 40)) => few1 bo M dap W R hR
  obtain ⟨E, hE⟩ : ∃ E : Nat, E = if okLen L M = true then 0 else 2 := ⟨_, rfl⟩
  obtain ⟨RL, hRL⟩ : ∃ RL, RL = if E = 0 then digs 18446744073709551616 (Nat.gcd (val 18446744073709551616 xs) (val 18446744073709551616 ys)) (max L M) else [] := ⟨_, rfl⟩
  obtain ⟨C, hC⟩ : ∃ C : Bool, C = decide (okLen L M = true ∧ Nat.gcd (val 18446744073709551616 xs) (val 18446744073709551616 ys) = 1) := ⟨_, rfl⟩
  have J1 : Hid (∀ W', Kept Nought w W' → Calls Tryz.prog 7 #[.slice ao L cap, .slice bo M dap] W' fun e w' => ∃ v', e = .returned (.tuple #[v', .int .i64 (E : Nat)]) ∧ Row .u64 w' v' RL ∧ Kept Nought W' w') := fun W' k => iDivisor ao bo L M cap dap xs ys E hE RL hRL W' (hu.grew k) (hv.grew k) hdx hdy
  have J2 : Hid (∀ W', Kept Nought w W' → Calls Tryz.prog 8 #[.slice ao L cap, .slice bo M dap] W' fun e w' => ∃ v', e = .returned (.tuple #[v', .int .i64 (E : Nat)]) ∧ Row .u64 w' v' RL ∧ Kept Nought W' w') := fun W' k => q10Divisor ao bo L M cap dap xs ys E hE RL hRL W' (hu.grew k) (hv.grew k) hdx hdy
  have J3 : Hid (∀ W', Kept Nought w W' → Calls Tryz.prog 10 #[.slice ao L cap, .slice bo M dap] W' fun e w' => e = .returned (.bool C) ∧ Kept Nought W' w') := fun W' k => iCoprime ao bo L M cap dap xs ys C hC W' (hu.grew k) (hv.grew k) hdx hdy
  have J4 : Hid (∀ W', Kept Nought w W' → Calls Tryz.prog 11 #[.slice ao L cap, .slice bo M dap] W' fun e w' => e = .returned (.bool C) ∧ Kept Nought W' w') := fun W' k => q10Coprime ao bo L M cap dap xs ys C hC W' (hu.grew k) (hv.grew k) hdx hdy
  have JS : Hid (∀ W' (u v : Value) (l : List Nat), Row .u64 W' u l → Row .u64 W' v l → Calls Tryz.prog 9 #[u, v] W' fun r w' => r = .returned (.bool true) ∧ Kept Nought W' w') := fun W' u v l h1 h2 => by
    refine (rSame u v l l W' h1 h2).mono ?_
    rintro e w' ⟨rfl, n, rfl⟩
    exact ⟨by rw [decide_eq_true rfl], (Kept.refl Nought W').drewN n⟩
  have HF1 := toHid JF1
  have HF2 := toHid JF2
  clear hu hv hdx hdy hE hRL hC JF1 JF2
  by_cases hL : L ≤ 40
  · have hR : true = decide (L ≤ 40) := (decide_eq_true hL).symm
    by_cases hM : M ≤ 40
    · have hS : true = decide (M ≤ 40) := (decide_eq_true hM).symm
      have HR := toHid hR
      have HS := toHid hS
      clear hR hS hL hM
      go_enter Tryz.func3, Tryz.ntmps3
      go_wp2_with fail
      refine hA.mono ?_
      rintro e w1 ⟨rfl, k1⟩
      clear hA
      go_wp2_with fail
      refine (HF1.out w1 true HR.out).mono ?_
      rintro e w2 ⟨rfl, rfl⟩
      have k2 := k1.alloc (.cells #[.slice ao L cap] 23)
      have hF2 := HF2.out (w1.alloc (.cells #[.slice ao L cap] 23)) true HS.out
      rw [show (w1.alloc (.cells #[.slice ao L cap] 23)).heap.size = w1.heap.size + 1 by simp] at hF2
      go_wp2_with fail
      refine hF2.mono ?_
      rintro e w3 ⟨rfl, rfl⟩
      have k3 := k2.alloc (.cells #[.slice bo M dap] 23)
      clear hF2
      generalize ((w1.alloc (.cells #[.slice ao L cap] 23)).alloc (.cells #[.slice bo M dap] 23)) = w3 at *
      have h1 := J1.out _ k3
      go_wp2_with fail
      refine h1.mono ?_
      rintro e w4 ⟨v4, rfl, hr4, kk⟩
      have k4 := k3.trans kk
      have HR4 := toHid hr4
      have h2 := J2.out _ k4
      clear h1 hr4 kk
      go_wp2_with fail
      refine h2.mono ?_
      rintro e w5 ⟨v5, rfl, hr5, kk⟩
      have k5 := k4.trans kk
      have h3 := JS.out w5 v4 v5 RL (HR4.out.grew kk) hr5
      clear h2 hr5 kk
      go_wp2_with fail
      refine h3.mono ?_
      rintro e w6 ⟨rfl, kk⟩
      have k6 := k5.trans kk
      have h4 := J3.out _ k6
      clear h3 kk
      go_wp2_with fail
      refine h4.mono ?_
      rintro e w7 ⟨rfl, kk⟩
      have k7 := k6.trans kk
      have h5 := J4.out _ k7
      clear h4 kk
      go_wp2_with fail
      refine h5.mono ?_
      rintro e w8 ⟨rfl, kk⟩
      go_wp2_with fail
      go_ret
      exact ⟨by first | rfl | simp, below_kept (k7.trans kk) (Nat.le_refl _)⟩
    · have hS : false = decide (M ≤ 40) := (decide_eq_false hM).symm
      have HR := toHid hR
      have HS := toHid hS
      clear hR hS hL hM
      go_enter Tryz.func3, Tryz.ntmps3
      go_wp2_with fail
      refine hA.mono ?_
      rintro e w1 ⟨rfl, k1⟩
      clear hA
      go_wp2_with fail
      refine (HF1.out w1 true HR.out).mono ?_
      rintro e w2 ⟨rfl, rfl⟩
      have k2 := k1.alloc (.cells #[.slice ao L cap] 23)
      have hF2 := HF2.out (w1.alloc (.cells #[.slice ao L cap] 23)) false HS.out
      rw [show (w1.alloc (.cells #[.slice ao L cap] 23)).heap.size = w1.heap.size + 1 by simp] at hF2
      go_wp2_with fail
      refine hF2.mono ?_
      rintro e w3 ⟨rfl, rfl⟩
      have k3 := k2.alloc (.cells #[.slice bo M dap] 23)
      clear hF2
      go_wp2_with fail
      go_ret
      exact ⟨by first | rfl | simp, below_kept k3 (Nat.le_refl _)⟩
  · have hR : false = decide (L ≤ 40) := (decide_eq_false hL).symm
    by_cases h3 : L = 301
    · have g3 : (L : Int) = 301 := by omega
      by_cases hM : M ≤ 40
      · have hS : true = decide (M ≤ 40) := (decide_eq_true hM).symm
        have HR := toHid hR
        have HS := toHid hS
        clear hR hS hL hM h3
        go_enter Tryz.func3, Tryz.ntmps3
        go_wp2_with fail
        refine hA.mono ?_
        rintro e w1 ⟨rfl, k1⟩
        clear hA
        go_wp2_with fail
        refine (HF1.out w1 false HR.out).mono ?_
        rintro e w2 ⟨rfl, rfl⟩
        have k2 := k1.alloc (.cells #[.slice ao L cap] 23)
        have hF2 := HF2.out (w1.alloc (.cells #[.slice ao L cap] 23)) true HS.out
        rw [show (w1.alloc (.cells #[.slice ao L cap] 23)).heap.size = w1.heap.size + 1 by simp] at hF2
        go_wp2_with fail
        refine hF2.mono ?_
        rintro e w3 ⟨rfl, rfl⟩
        have k3 := k2.alloc (.cells #[.slice bo M dap] 23)
        clear hF2
        generalize ((w1.alloc (.cells #[.slice ao L cap] 23)).alloc (.cells #[.slice bo M dap] 23)) = w3 at *
        have h1 := J1.out _ k3
        go_wp2_with fail
        refine h1.mono ?_
        rintro e w4 ⟨v4, rfl, hr4, kk⟩
        have k4 := k3.trans kk
        have HR4 := toHid hr4
        have h2 := J2.out _ k4
        clear h1 hr4 kk
        go_wp2_with fail
        refine h2.mono ?_
        rintro e w5 ⟨v5, rfl, hr5, kk⟩
        have k5 := k4.trans kk
        have h3 := JS.out w5 v4 v5 RL (HR4.out.grew kk) hr5
        clear h2 hr5 kk
        go_wp2_with fail
        refine h3.mono ?_
        rintro e w6 ⟨rfl, kk⟩
        have k6 := k5.trans kk
        have h4 := J3.out _ k6
        clear h3 kk
        go_wp2_with fail
        refine h4.mono ?_
        rintro e w7 ⟨rfl, kk⟩
        have k7 := k6.trans kk
        have h5 := J4.out _ k7
        clear h4 kk
        go_wp2_with fail
        refine h5.mono ?_
        rintro e w8 ⟨rfl, kk⟩
        go_wp2_with fail
        go_ret
        exact ⟨by first | rfl | simp, below_kept (k7.trans kk) (Nat.le_refl _)⟩
      · have hS : false = decide (M ≤ 40) := (decide_eq_false hM).symm
        have HR := toHid hR
        have HS := toHid hS
        clear hR hS hL hM h3
        go_enter Tryz.func3, Tryz.ntmps3
        go_wp2_with fail
        refine hA.mono ?_
        rintro e w1 ⟨rfl, k1⟩
        clear hA
        go_wp2_with fail
        refine (HF1.out w1 false HR.out).mono ?_
        rintro e w2 ⟨rfl, rfl⟩
        have k2 := k1.alloc (.cells #[.slice ao L cap] 23)
        have hF2 := HF2.out (w1.alloc (.cells #[.slice ao L cap] 23)) false HS.out
        rw [show (w1.alloc (.cells #[.slice ao L cap] 23)).heap.size = w1.heap.size + 1 by simp] at hF2
        go_wp2_with fail
        refine hF2.mono ?_
        rintro e w3 ⟨rfl, rfl⟩
        have k3 := k2.alloc (.cells #[.slice bo M dap] 23)
        clear hF2
        go_wp2_with fail
        go_ret
        exact ⟨by first | rfl | simp, below_kept k3 (Nat.le_refl _)⟩
    · have g3 : ¬ (L : Int) = 301 := by omega
      have HR := toHid hR
      clear hR hL h3
      go_enter Tryz.func3, Tryz.ntmps3
      go_wp2_with fail
      refine hA.mono ?_
      rintro e w1 ⟨rfl, k1⟩
      clear hA
      go_wp2_with fail
      refine (HF1.out w1 false HR.out).mono ?_
      rintro e w2 ⟨rfl, rfl⟩
      have k2 := k1.alloc (.cells #[.slice ao L cap] 23)
      go_wp2_with fail
      go_ret
      exact ⟨by first | rfl | simp, below_kept k2 (Nat.le_refl _)⟩

end Go.Proofs.YtamkkmifbajdfaaGreat
