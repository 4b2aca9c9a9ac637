/- The law SievePrimes, walked. -/
import Derived.Test.YtboogjaiigihdaaLaw16
import Derived.Test.YtboogjaiigihdaaOpenRow
namespace Go.Proofs.Ytboogjaiigihdaa
open Go.RowKit

set_option maxRecDepth 20000 in
set_option maxHeartbeats 1000000 in
/-- The law's own part, of lists that are alike. -/
theorem walkSievePrimes (n : Int) (w : World) (hb : (Lit.int .i64 n).wf = true) :
    Calls Try.prog 3 #[.int .i64 n] w fun e w' => e = .returned (.bool true) ∧ Below w.heap.size w w' := by
  obtain ⟨h0, h1⟩ := bounds_i64 hb
  have hA := f16Awake w
  have JF := toHid fun W => sPrimesAll n W
  have JR := toHid fun W => r16Primes n h0 h1 W
  have hlen : (primesTo (upTo n)).length ≤ 10001 := by
    have := primesTo_len (upTo n)
    have := upTo_le n
    omega
  clear hb h0 h1
  generalize primesTo (upTo n) = ps at *
  by_cases hn : n > 2000 ∧ n ≤ 9990
  · obtain ⟨g1, g2⟩ := hn
    clear JF JR
    go_enter Try.func3, Try.ntmps3
    go_wp2_with fail
    refine hA.mono ?_
    rintro e w1 ⟨rfl, k1⟩
    clear hA
    go_wp2_with fail
    go_ret
    exact ⟨rfl, below_kept k1 (Nat.le_refl _)⟩
  · have key : n > 2000 ∧ ¬ n ≤ 9990 ∨ ¬ n > 2000 := by
      by_cases g1 : n > 2000
      · exact .inl ⟨g1, fun h => hn ⟨g1, h⟩⟩
      · exact .inr g1
    clear hn
    rcases key with ⟨g1, g2⟩ | g1
    all_goals
      go_enter Try.func3, Try.ntmps3
      go_wp2_with fail
      refine hA.mono ?_
      rintro e w1 ⟨rfl, k1⟩
      have HK1 := toHid k1
      have hF := JF.out w1
      clear hA k1
      go_wp2_with fail
      refine hF.mono ?_
      rintro e w2 ⟨v2, rfl, r2, k2⟩
      have HK2 := toHid (HK1.out.trans k2)
      have hG := JR.out w2
      obtain ⟨xo, xn, xc, rfl, hxl, hxc, hxm, _, hxe⟩ := r2.open
      clear hF k2 hxe
      go_wp2_with fail
      refine hG.mono ?_
      rintro e w3 ⟨v3, rfl, r3, _, k3⟩
      have HK3 := toHid (HK2.out.trans k3)
      have R2 := toHid (r2.grew k3)
      obtain ⟨yo, yn, yc, rfl, hyl, hyc, hym, _, hye⟩ := r3.open
      have R3 := toHid r3
      obtain rfl : xn = yn := by have := hxl.out; have := hyl.out; omega
      have hxb : xn ≤ 10001 := by have := hxl.out; omega
      clear hG k3 r2 r3 hye hyl HK2 HK1
      go_wp2_with fail
      go_loopw [25] (fun iv wr => Hid (Kept Nought w3 wr) ∧ ∃ k : Nat, k ≤ xn ∧ iv = .int .i64 (k : Int)) (fun iv _ => xn - (intOf iv).toNat)
      case atStart => exact ⟨Kept.refl _ _, 0, Nat.zero_le _, rfl⟩
      case round =>
        obtain ⟨hk3, k, hk, rfl⟩ := hrel
        by_cases hkn : k < xn
        · have g3 : (k : Int) < (xn : Int) := by omega
          have g0 : (0 : Int) ≤ (k : Int) := by omega
          obtain ⟨_, _, _, e1, _, _, _, _, hxe⟩ := (R2.out.grew hk3.out).open
          cases e1
          obtain ⟨_, _, _, e1, _, _, _, _, hye⟩ := (R3.out.grew hk3.out).open
          cases e1
          obtain ⟨b1, o1, rfl, c1⟩ := hxe k hkn
          obtain ⟨b2, o2, rfl, c2⟩ := hye k hkn
          have HK5 := toHid (hk3.out.drew)
          clear hxe hye
          generalize ps.getD k 0 = z at *
          go_wp2_with fail
          go_region
          go_wp2_with fail
          go_roundw
          case rel => exact ⟨by first | exact HK5 | exact hk3 | exact hk3.out.drewN _, k + 1, by omega, by go_num⟩
          case measure => simp [intOf]; omega
        · have g3 : ¬ (k : Int) < (xn : Int) := by omega
          go_wp2_with fail
          go_ret
          exact ⟨rfl, below_kept (HK3.out.trans hk3.out) (Nat.le_refl _)⟩

end Go.Proofs.Ytboogjaiigihdaa
