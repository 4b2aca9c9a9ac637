/- The law SieveLeast, walked. -/
import Derived.Test.YtboogjaiigihdaaLaw16
import Derived.Test.YtboogjaiigihdaaNum1
import Derived.Test.YtboogjaiigihdaaOpenRow
namespace Go.Proofs.Ytboogjaiigihdaa
open Go.RowKit

/-- No smaller number above 1 divides. -/
theorem fac_below {X b R d : Nat} (h : IsFac X b R) (hd : 2 ≤ d) (hb : d ≤ b) (hr : R = 0 ∨ d < R) : X % d ≠ 0 := by
  intro e
  obtain ⟨q, h1, h2, h3, h4⟩ := least_div hd
  have hq := least_prime h1 h3 h4
  have hX : X % q = 0 := Nat.mod_eq_zero_of_dvd (Nat.dvd_trans (Nat.dvd_of_mod_eq_zero h3) (Nat.dvd_of_mod_eq_zero e))
  rcases h with ⟨_, h⟩ | ⟨g1, _, _, g4⟩
  · exact h q hq (by omega) hX
  · have := g1.1
    exact g4 q hq (by omega) hX

/-- The number times its factor has the same. -/
theorem fac_times {X b R : Nat} (h : IsFac X b R) (h0 : R ≠ 0) : IsFac (X * R) b R := by
  rcases h with ⟨h, _⟩ | ⟨g1, g2, g3, g4⟩
  · exact absurd h h0
  · refine .inr ⟨g1, g2, Nat.mul_mod_left X R, fun q hq hlt e => ?_⟩
    have hc := hq.coprime (g4 q hq hlt)
    have hd : q ∣ R := hc.dvd_of_dvd_mul_left (Nat.dvd_of_mod_eq_zero e)
    have h2 := hq.1
    rcases g1.dvd hd with h1 | h1 <;> omega

theorem fac_up {n : Int} {d : Nat} (hn : (d : Int) ≤ n) (hb : n ≤ 1500) : d ≤ upTo n := by
  unfold upTo
  rw [if_pos (by omega)]
  omega

theorem up_le {n : Int} {d : Nat} (hd : 2 ≤ d) (h : d ≤ upTo n) : (d : Int) ≤ n := by
  unfold upTo at h
  split at h <;> omega

set_option maxRecDepth 20000 in
set_option maxHeartbeats 2000000 in
theorem walkSieveLeast (u : Value) (xs : List Nat) (n : Int) (w : World) (hu : Row .u64 w u xs) (hdx : Digs 18446744073709551616 xs) (hb : (Lit.int .i64 n).wf = true) :
    Calls Try.prog 6 #[u, .int .i64 n] w fun e w' => e = .returned (.bool true) ∧ Below w.heap.size w w' := by
  obtain ⟨h0, h1⟩ := bounds_i64 hb
  obtain ⟨ao, L, cap, rfl, hL, _, _, _, _⟩ := hu.open
  obtain ⟨R, hR⟩ : ∃ R : Bool, R = decide (L ≤ 6) := ⟨_, rfl⟩
  obtain ⟨X, hX⟩ : ∃ X, X = val 18446744073709551616 xs := ⟨_, rfl⟩
  have hA := f16Awake w
  have JW := toHid fun W => f16Few ao L cap W R hR
  have JF := toHid fun W (k : Kept Nought w W) (hl : L ≤ 6) => sFactor ao L cap xs n W (hu.grew k) hdx (by omega)
  have JS : Hid (∀ (D Q : Nat) W, L ≤ 6 → Kept Nought w W → D < 18446744073709551616 → 0 < D → Q = X % D → Calls Try.prog 15 #[.slice ao L cap, .int .u64 (D : Nat)] W fun e w' => e = .returned (.tuple #[.int .u64 (Q : Nat), .int .i64 0]) ∧ w' = W) := fun D Q W hl k h1 h2 h3 => q5Small ao L cap xs D Q h1 h2 (by rw [← hX]; exact h3) W (hu.grew k) hdx (by omega)
  have JO := toHid fun W (k : Kept Nought w W) (hl : L ≤ 6) => rOf (.slice ao L cap) xs W (hu.grew k) hdx (by have := hL.out; omega)
  have HXB : Hid (L ≤ 6 → X < 18446744073709551616 ^ 6) := fun hl => by
    rw [hX]
    refine Nat.lt_of_lt_of_le (val_lt (by omega) hdx) (Nat.pow_le_pow_right (by omega) ?_)
    have := hL.out
    omega
  rw [← hX] at JF JO
  clear hu hdx hb hL hX
  go_enter Try.func6, Try.ntmps6
  go_wp2_with fail
  refine hA.mono ?_
  rintro e w1 ⟨rfl, k1⟩
  have HK1 := toHid k1
  have hW := JW.out w1
  clear hA k1 JW
  by_cases hl : L ≤ 6
  · obtain rfl : R = true := by rw [hR, decide_eq_true hl]
    have HL := toHid hl
    clear hR hl
    go_wp2_with fail
    refine hW.mono ?_
    rintro e w2 ⟨rfl, rfl⟩
    clear hW
    by_cases hn : n > 1500
    · go_wp2_with fail
      go_ret
      exact ⟨rfl, below_kept HK1.out (Nat.le_refl _)⟩
    · have hF := JF.out w2 HK1.out HL.out
      go_wp2_with fail
      refine hF.mono ?_
      rintro e w3 ⟨F, rfl, hf, k3⟩
      have HK3 := toHid (HK1.out.trans k3)
      have HF := toHid hf
      have hF4 : F ≤ 10000 := Nat.le_trans hf.le (upTo_le n)
      clear hF hf k3
      by_cases gF : F = 0
      · subst gF
        clear JO hF4
        go_wp2_with fail
        go_loopw [6] (fun dv wr => wr = w3 ∧ ∃ d : Nat, 2 ≤ d ∧ d ≤ 1501 ∧ dv = .int .i64 (d : Int)) (fun dv _ => 1502 - (intOf dv).toNat)
        case atStart => exact ⟨rfl, 2, by omega, by omega, rfl⟩
        case round =>
          obtain ⟨rfl, d, hd2, hd9, rfl⟩ := hrel
          by_cases g1 : (d : Int) ≤ n
          · have hne : X % d ≠ 0 := fac_below HF.out hd2 (fac_up g1 (by omega)) (.inl rfl)
            obtain ⟨r, hr⟩ : ∃ r, r = X % d := ⟨_, rfl⟩
            have hS := JS.out d r wr HL.out HK3.out (by omega) (by omega) hr
            rw [← hr] at hne
            have gr : ¬ (r : Int) = 0 := by omega
            have gc : IntKind.u64.wrap (d : Int) = (d : Int) := by rw [IntKind.wrap_u64]; omega
            clear hr
            go_wp2_with fail
            refine hS.mono ?_
            rintro e w5 ⟨rfl, rfl⟩
            clear hS
            go_wp2_with fail
            go_roundw
            case rel => exact ⟨trivial, d + 1, by omega, by omega, by go_num⟩
            case measure => simp [intOf]; omega
          · go_wp2_with fail
            go_ret
            exact ⟨rfl, below_kept HK3.out (Nat.le_refl _)⟩
      · have gF' : ¬ (F : Int) = 0 := by omega
        go_wp2_with fail
        go_loopw [6] (fun dv wr => wr = w3 ∧ ∃ d : Nat, 2 ≤ d ∧ d ≤ 1501 ∧ dv = .int .i64 (d : Int)) (fun dv _ => 1502 - (intOf dv).toNat)
        case atStart => exact ⟨rfl, 2, by omega, by omega, rfl⟩
        case round =>
          obtain ⟨rfl, d, hd2, hd9, rfl⟩ := hrel
          by_cases hin : (d : Int) ≤ n ∧ (d : Int) < (F : Int)
          · obtain ⟨g1, g3⟩ := hin
            have hne : X % d ≠ 0 := fac_below HF.out hd2 (fac_up g1 (by omega)) (.inr (by omega))
            obtain ⟨r, hr⟩ : ∃ r, r = X % d := ⟨_, rfl⟩
            have hS := JS.out d r wr HL.out HK3.out (by omega) (by omega) hr
            rw [← hr] at hne
            have gr : ¬ (r : Int) = 0 := by omega
            have gc : IntKind.u64.wrap (d : Int) = (d : Int) := by rw [IntKind.wrap_u64]; omega
            clear hr
            go_wp2_with fail
            refine hS.mono ?_
            rintro e w5 ⟨rfl, rfl⟩
            clear hS
            go_wp2_with fail
            go_roundw
            case rel => exact ⟨trivial, d + 1, by omega, by omega, by go_num⟩
            case measure => simp [intOf]; omega
          · have HF2 := toHid (fac_times HF.out gF)
            have hP : 2 ≤ F ∧ F ≤ upTo n ∧ X % F = 0 := by
              rcases HF.out with ⟨h, _⟩ | ⟨q1, q2, q3, _⟩
              · exact absurd h gF
              · exact ⟨q1.1, q2, q3⟩
            have q1 : (F : Int) ≥ 2 := by omega
            have q1' : (2 : Int) ≤ (F : Int) := by omega
            have q2 : (F : Int) ≤ n := up_le hP.1 hP.2.1
            have hS := JS.out F 0 wr HL.out HK3.out (by omega) (by omega) hP.2.2.symm
            have hO := JO.out wr HK3.out HL.out
            have gc : IntKind.u64.wrap (F : Int) = (F : Int) := by rw [IntKind.wrap_u64]; omega
            have key : ¬ (d : Int) ≤ n ∨ ((d : Int) ≤ n ∧ ¬ (d : Int) < (F : Int)) := by
              by_cases g1 : (d : Int) ≤ n
              · exact .inr ⟨g1, fun h => hin ⟨g1, h⟩⟩
              · exact .inl g1
            clear hin hP JS JO JF
            rcases key with g1 | ⟨g1, g3⟩
            all_goals
              go_wp2_with fail
              refine hS.mono ?_
              rintro e w5 ⟨rfl, rfl⟩
              clear hS
              go_wp2_with fail
              refine hO.mono ?_
              rintro e w6 ⟨v6, rfl, b6, _, k6⟩
              have HK6 := toHid (HK3.out.trans k6)
              have hSm := rSmall F (by omega) w6
              clear hO k6
              go_wp2_with fail
              refine hSm.mono ?_
              rintro e w7 ⟨v7, rfl, b7, _, k7⟩
              have HK7 := toHid (HK6.out.trans k7)
              have hM := rMul v6 v7 X F w7 (b6.grew k7) b7 (by have := HXB.out HL.out; have := (dlen_le X 12).2 (by rw [show (4294967296 : Nat) ^ 12 = 18446744073709551616 ^ 6 by decide]; assumption); omega) (by have := (dlen_le F 1).2 (by omega); omega)
              clear hSm b6 b7 k7
              go_wp2_with fail
              refine hM.mono ?_
              rintro e w8 ⟨v8, rfl, b8, _, k8⟩
              have HK8 := toHid (HK7.out.trans k8)
              have hLe := rLeast v8 (X * F) w8 b8
              clear hM b8 k8
              go_wp2_with fail
              refine hLe.mono ?_
              rintro e w9 ⟨v9, rfl, r9, _, k9⟩
              have HK9 := toHid (HK8.out.trans k9)
              have hw9 : wordsN (X * F) ≤ 7 := by
                rw [wordsN_le]
                have h3 := Nat.mul_lt_mul_of_lt_of_le (HXB.out HL.out) (show F ≤ 18446744073709551616 by omega) (by omega)
                rw [← Nat.pow_succ] at h3
                exact h3
              obtain ⟨yo, yn, yc, rfl, hyl, _⟩ := r9.open
              have hyn : yn ≤ 1000000 := by have h4 := hyl.out; rw [digs_length] at h4; omega
              have hF9 := sFactor yo yn yc _ n w9 r9 (digs_digs (by omega) _ _) hyn
              rw [val_digs, Nat.mod_eq_of_lt (show X * F < 18446744073709551616 ^ max (wordsN (X * F)) 1 from Nat.lt_of_lt_of_le ((wordsN_le _ _).1 (Nat.le_refl _)) (Nat.pow_le_pow_right (by omega) (Nat.le_max_left _ _)))] at hF9
              clear hLe r9 k9 hw9 hyl hyn
              go_wp2_with fail
              refine hF9.mono ?_
              rintro e w10 ⟨G, rfl, hg, k10⟩
              have HK10 := toHid (HK9.out.trans k10)
              obtain rfl := hg.uniq HF2.out
              clear hF9 hg k10
              go_wp2_with fail
              go_ret
              exact ⟨by simp, below_kept HK10.out (Nat.le_refl _)⟩
  · obtain rfl : R = false := by rw [hR, decide_eq_false hl]
    clear hR hl JF JS JO
    go_wp2_with fail
    refine hW.mono ?_
    rintro e w2 ⟨rfl, rfl⟩
    go_wp2_with fail
    go_ret
    exact ⟨rfl, below_kept HK1.out (Nat.le_refl _)⟩

end Go.Proofs.Ytboogjaiigihdaa
