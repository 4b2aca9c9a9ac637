/- The law SieveFactors, walked. -/
import Derived.Test.YtboogjaiigihdaaLaw16
import Derived.Test.YtboogjaiigihdaaOpenRow
namespace Go.Proofs.Ytboogjaiigihdaa
open Go.RowKit

set_option maxRecDepth 20000 in
set_option maxHeartbeats 1000000 in
theorem walkSieveFactors (u : Value) (xs : List Nat) (n : Int) (w : World) (hu : Row .u64 w u xs) (hdx : Digs 18446744073709551616 xs) (hb : (Lit.int .i64 n).wf = true) :
    Calls Try.prog 4 #[u, .int .i64 n] w fun e w' => e = .returned (.bool true) ∧ Below w.heap.size w w' := by
  obtain ⟨h0, h1⟩ := bounds_i64 hb
  obtain ⟨ao, L, cap, rfl, hL, _, _, _, _⟩ := hu.open
  obtain ⟨R, hR⟩ : ∃ R : Bool, R = decide (L ≤ 6) := ⟨_, rfl⟩
  have hA := f16Awake w
  have JW := toHid fun W => f16Few ao L cap W R hR
  have JF := toHid fun W (k : Kept Nought w W) (hl : L ≤ 6) => sFactor ao L cap xs n W (hu.grew k) hdx (by omega)
  have JR := toHid fun W (k : Kept Nought w W) (hl : L ≤ 6) => r16Factor ao L cap xs n h0 h1 W (hu.grew k) hdx (by omega)
  clear hu hdx hb hL h0 h1
  generalize val 18446744073709551616 xs = X at *
  go_enter Try.func4, Try.ntmps4
  go_wp2_with fail
  refine hA.mono ?_
  rintro e w1 ⟨rfl, k1⟩
  have HK1 := toHid k1
  have hW := JW.out w1
  clear hA k1 JW
  by_cases hl : L ≤ 6
  · obtain rfl : R = true := by rw [hR, decide_eq_true hl]
    clear hR
    go_wp2_with fail
    refine hW.mono ?_
    rintro e w2 ⟨rfl, rfl⟩
    clear hW
    by_cases hn : n > 1500 ∧ n ≤ 9990
    · obtain ⟨g1, g2⟩ := hn
      go_wp2_with fail
      go_ret
      exact ⟨rfl, below_kept HK1.out (Nat.le_refl _)⟩
    · have hF := JF.out w2 HK1.out hl
      clear JF
      have step : ∀ w3, Kept Nought w w3 → Calls Try.prog 12 #[.slice ao L cap, .int .i64 n] w3 fun e w' => ∃ R : Nat, e = .returned (.int .i64 (R : Int)) ∧ IsFac X (upTo n) R ∧ w' = w3 := fun w3 k3 => JR.out w3 k3 hl
      have HST := toHid step
      clear step JR
      by_cases g1 : n > 1500
      · have g2 : ¬ n ≤ 9990 := fun h => hn ⟨g1, h⟩
        clear hn
        go_wp2_with fail
        refine hF.mono ?_
        rintro e w3 ⟨F, rfl, hf, k3⟩
        have hG := HST.out w3 (HK1.out.trans k3)
        have HK3 := toHid (HK1.out.trans k3)
        clear hF k3
        go_wp2_with fail
        refine hG.mono ?_
        rintro e w4 ⟨G, rfl, hg, rfl⟩
        obtain rfl := hf.uniq hg
        clear hG hf hg
        go_wp2_with fail
        go_ret
        exact ⟨by simp, below_kept HK3.out (Nat.le_refl _)⟩
      · clear hn
        go_wp2_with fail
        refine hF.mono ?_
        rintro e w3 ⟨F, rfl, hf, k3⟩
        have hG := HST.out w3 (HK1.out.trans k3)
        have HK3 := toHid (HK1.out.trans k3)
        clear hF k3
        go_wp2_with fail
        refine hG.mono ?_
        rintro e w4 ⟨G, rfl, hg, rfl⟩
        obtain rfl := hf.uniq hg
        clear hG hf hg
        go_wp2_with fail
        go_ret
        exact ⟨by simp, below_kept HK3.out (Nat.le_refl _)⟩
  · obtain rfl : R = false := by rw [hR, decide_eq_false hl]
    clear hR hl JF JR
    go_wp2_with fail
    refine hW.mono ?_
    rintro e w2 ⟨rfl, rfl⟩
    go_wp2_with fail
    go_ret
    exact ⟨rfl, below_kept HK1.out (Nat.le_refl _)⟩

end Go.Proofs.Ytboogjaiigihdaa
