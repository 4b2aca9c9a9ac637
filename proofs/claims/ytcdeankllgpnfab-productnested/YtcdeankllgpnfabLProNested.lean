/- The law ProductNested, walked: whatever the three numbers. -/
import Derived.Test.YtcdeankllgpnfabL5B
import Derived.Test.YtcdeankllgpnfabQuH
import Derived.Test.YtcdeankllgpnfabOpenRow
namespace Go.Proofs.Ytcdeankllgpnfab
open Go.RowKit

theorem mulAnsN_ok {X Y L M : Nat} (hl : L ≤ 300 ∧ M ≤ 300) (hX : X < 18446744073709551616 ^ L) (hY : Y < 18446744073709551616 ^ M) : val 18446744073709551616 (mulAns X Y L M) = X * Y ∧ Digs 18446744073709551616 (mulAns X Y L M) ∧ (mulAns X Y L M).length = L + M := by
  unfold mulAns
  rw [if_pos hl]
  refine ⟨?_, digs_digs (by omega) _ _, digs_length _ _ _⟩
  rw [val_digs, Nat.mod_eq_of_lt]
  rw [Nat.pow_add]
  exact Nat.mul_lt_mul_of_lt_of_le hX (Nat.le_of_lt hY) (Nat.pow_pos (by omega))

set_option maxRecDepth 20000 in
set_option maxHeartbeats 4000000 in
theorem walkProductNested (u : Value) (xs : List Nat) (v : Value) (ys : List Nat) (t : Value) (zs : List Nat) (w : World) (hu : Row .u64 w u xs) (hv : Row .u64 w v ys) (ht : Row .u64 w t zs) (hdx : Digs 18446744073709551616 xs) (hdy : Digs 18446744073709551616 ys) (hdz : Digs 18446744073709551616 zs) :
    Calls Try.prog 4 #[u, v, t] w fun e w' => e = .returned (.bool true) ∧ Below w.heap.size w w' := by
  have hA := f5Awake w
  obtain ⟨ao, L, cap, rfl, hL, _, _, _, _⟩ := hu.open
  obtain ⟨bo, M, dap, rfl, hM, _, _, _, _⟩ := hv.open
  obtain ⟨co, P, eap, rfl, hP, _, _, _, _⟩ := ht.open
  by_cases h4 : L ≤ 40 ∧ M ≤ 40 ∧ P ≤ 40
  · have hF := fun W => few3 ao bo co L M P cap dap eap W true (decide_eq_true h4).symm
    obtain ⟨X, hX⟩ : ∃ X, X = val 18446744073709551616 xs := ⟨_, rfl⟩
    obtain ⟨Y, hY⟩ : ∃ Y, Y = val 18446744073709551616 ys := ⟨_, rfl⟩
    obtain ⟨Z, hZ⟩ : ∃ Z, Z = val 18446744073709551616 zs := ⟨_, rfl⟩
    have hXb : X < 18446744073709551616 ^ L := by rw [hX, ← hL.out]; exact val_lt (by omega) hdx
    have hYb : Y < 18446744073709551616 ^ M := by rw [hY, ← hM.out]; exact val_lt (by omega) hdy
    have hZb : Z < 18446744073709551616 ^ P := by rw [hZ, ← hP.out]; exact val_lt (by omega) hdz
    have hlm : L ≤ 300 ∧ M ≤ 300 := by omega
    have hlp : L ≤ 300 ∧ P ≤ 300 := by omega
    have hmp : M ≤ 300 ∧ P ≤ 300 := by omega
    have hls : L ≤ 300 ∧ M + P ≤ 300 := by omega
    obtain ⟨m1, m2, m3⟩ := mulAnsN_ok hmp hYb hZb
    obtain ⟨E, hE⟩ : ∃ E, E = divE Y L M := ⟨_, rfl⟩
    have h1 := fun W (k : Kept Nought w W) => pQuick ao bo L M cap dap xs ys E (by rw [← hY]; exact hE) W (hu.grew k) (hv.grew k) hdx hdy
    rw [← hX, ← hY] at h1
    have h3 := fun W (k : Kept Nought w W) => mul0 bo co M P dap eap ys zs W (hv.grew k) (ht.grew k) hdy hdz
    rw [← hY, ← hZ] at h3
    obtain ⟨G, hG⟩ : ∃ G, G = divE (Y * Z) L (M + P) := ⟨_, rfl⟩
    have h5 := fun W po pc (k : Kept Nought w W) (hp : Row .u64 W (.slice po (M + P) pc) (mulAns Y Z M P)) => pQuick ao po L (M + P) cap pc xs _ G (by rw [m1]; exact hG) W (hu.grew k) hp hdx m2
    rw [m1, ← hX] at h5
    have hOc := fun W (k : Kept Nought w W) => rOf _ zs W (ht.grew k) hdz (by rw [hP.out]; omega)
    rw [← hZ] at hOc
    obtain ⟨ql, hql⟩ : ∃ ql, ql = divQ X Y L M := ⟨_, rfl⟩
    have hqd : Digs 18446744073709551616 ql ∧ ql.length ≤ 300 := by
      rw [hql]
      by_cases hY0 : Y = 0
      · rw [(div_zero hlm hY0).2.1]
        exact ⟨Digs.nil _, by simp⟩
      · rw [(div_good hlm hY0).2.1]
        exact ⟨digs_digs (by omega) _ _, by rw [digs_length]; omega⟩
    obtain ⟨F, hFF⟩ : ∃ F, F = divE Z ql.length P := ⟨_, rfl⟩
    have h2 := fun W qo qn qc (hn : qn = ql.length) (k : Kept Nought w W) (hq : Row .u64 W (.slice qo qn qc) ql) => pQuick qo co qn P qc eap ql zs F (by rw [← hZ, hn]; exact hFF) W hq (ht.grew k) hqd.1 hdz
    rw [← hZ] at h2
    rw [← hql] at h1
    obtain ⟨ul, hul⟩ : ∃ ul, ul = divQ X (Y * Z) L (M + P) := ⟨_, rfl⟩
    rw [← hul] at h5
    have HY : Hid (Y = 0 → E = 1 ∧ G = 1) := fun h0 => by
      have h00 : Y * Z = 0 := by rw [h0, Nat.zero_mul]
      exact ⟨by rw [hE, (div_zero (X := X) hlm h0).1], by rw [hG, (div_zero (X := X) hls h00).1]⟩
    have HYZ : Hid (Y ≠ 0 → Z = 0 → E = 0 ∧ G = 1) := fun h1 h0 => by
      have h00 : Y * Z = 0 := by rw [h0, Nat.mul_zero]
      exact ⟨by rw [hE, (div_good (X := X) hlm h1).1], by rw [hG, (div_zero (X := X) hls h00).1]⟩
    have HNN : Hid (Y ≠ 0 → Z ≠ 0 → E = 0 ∧ F = 0 ∧ G = 0 ∧ divQ (val 18446744073709551616 ql) Z ql.length P = ul) := fun h1 h2 => by
      have hYZ : Y * Z ≠ 0 := fun h => by rcases Nat.mul_eq_zero.1 h with h | h; exact h1 h; exact h2 h
      have hqb : X / Y < 18446744073709551616 ^ L := Nat.lt_of_le_of_lt (Nat.div_le_self _ _) hXb
      have e1 : ql = digs 18446744073709551616 (X / Y) L := by rw [hql, (div_good hlm h1).2.1]
      have e2 : ql.length = L := by rw [e1, digs_length]
      have e3 : val 18446744073709551616 ql = X / Y := by rw [e1, val_digs, Nat.mod_eq_of_lt hqb]
      refine ⟨by rw [hE, (div_good (X := X) hlm h1).1], by rw [hFF, e2, (div_good (X := X) hlp h2).1], by rw [hG, (div_good (X := X) hls hYZ).1], ?_⟩
      rw [e3, e2, hul, (div_good hlp h2).2.1, (div_good hls hYZ).2.1, Nat.div_div_eq_div_mul]
    clear hu hv ht hdx hdy hdz hL hM hP hX hY hZ hXb hYb hZb hE hFF hG hql hul m1 m2 hqd
    generalize mulAns Y Z M P = ml at *
    go_enter Try.func4, Try.ntmps4
    go_wp2_with fail
    refine hA.mono ?_
    rintro e w1 ⟨rfl, k1⟩
    go_wp2_with fail
    refine (hF w1).mono ?_
    rintro e w1' ⟨rfl, rfl⟩
    have k2 := k1.alloc (.cells #[.slice ao L cap, .slice bo M dap, .slice co P eap] 23)
    generalize w1.alloc (.cells #[.slice ao L cap, .slice bo M dap, .slice co P eap] 23) = w2 at *
    clear hA hF k1
    go_wp2_with fail
    refine (h1 w2 k2).mono ?_
    rintro e w3 ⟨v3, v3', rfl, hq3, _, k3⟩
    have k3' := k2.trans k3
    obtain ⟨qo, qn, qc, rfl, hqn, _, _, _, _⟩ := hq3.open
    have h2' := h2 w3 qo qn qc hqn.out.symm k3' hq3
    clear h1 h2
    go_wp2_with fail
    refine h2'.mono ?_
    rintro e w4 ⟨v4, v4', rfl, hs4, _, k4⟩
    have k4' := k3'.trans k4
    rw [← hqn.out] at hs4
    clear h2' hq3 hqn
    go_wp2_with fail
    refine (h3 w4 k4').mono ?_
    rintro e w5 ⟨v5, rfl, hm5, k5⟩
    have k5' := k4'.trans k5
    obtain ⟨po, pn, pc, rfl, hpn, _, _, _, _⟩ := hm5.open
    obtain rfl : pn = M + P := hpn.out.symm.trans m3
    have h5' := h5 w5 po pc k5' hm5
    have hs5 := hs4.grew k5
    clear h3 h5 hs4
    go_wp2_with fail
    refine h5'.mono ?_
    rintro e w6 ⟨v6, v6', rfl, hu6, _, k6⟩
    have k6' := k5'.trans k6
    have hs6 := hs5.grew k6
    clear h5' hs5
    by_cases hY0 : Y = 0
    · obtain ⟨rfl, rfl⟩ := HY.out hY0
      clear HY HYZ HNN hs6 hu6 hOc
      go_wp2_with fail
      go_ret
      exact ⟨rfl, below_kept k6' (Nat.le_refl _)⟩
    · by_cases hZ0 : Z = 0
      · obtain ⟨rfl, rfl⟩ := HYZ.out hY0 hZ0
        clear HY HYZ HNN hs6 hu6
        go_wp2_with fail
        refine (hOc w6 k6').mono ?_
        rintro e w7 ⟨v7, rfl, hb7, _, k7⟩
        obtain ⟨ao7, n7, cap7, rfl, hn7⟩ := big_len5 hb7
        have e7 : n7 = 0 := hn7.2 hZ0
        subst e7
        clear hn7 hb7 hOc
        go_wp2_with fail
        go_ret
        exact ⟨rfl, below_kept (k6'.trans k7) (Nat.le_refl _)⟩
      · obtain ⟨rfl, rfl, rfl, hsl⟩ := HNN.out hY0 hZ0
        clear HY HYZ HNN
        go_wp2_with fail
        refine (hOc w6 k6').mono ?_
        rintro e w7 ⟨v7, rfl, hb7, _, k7⟩
        obtain ⟨ao7, n7, cap7, rfl, hn7⟩ := big_len5 hb7
        have e7 : ¬ n7 = 0 := fun h => hZ0 (hn7.1 h)
        have e8 : ((n7 : Int) == 0) = false := by simp; omega
        have e9 : ¬ (n7 : Int) = 0 := by omega
        have hS := same5 v4 v6 ul w7 (by rw [← hsl]; exact hs6.grew k7) (hu6.grew k7)
        have k7' := toHid (k6'.trans k7)
        clear hn7 hb7 hOc hs6 hu6 hsl e7
        go_wp2_with fail
        refine hS.mono ?_
        rintro e w8 ⟨rfl, m8, rfl⟩
        go_wp2_with fail
        go_ret
        exact ⟨rfl, below_kept (k7'.out.drewN _) (Nat.le_refl _)⟩
  · have hF := fun W => few3 ao bo co L M P cap dap eap W false (decide_eq_false h4).symm
    clear hu hv ht h4
    go_enter Try.func4, Try.ntmps4
    go_wp2_with fail
    refine hA.mono ?_
    rintro e w1 ⟨rfl, k1⟩
    go_wp2_with fail
    refine (hF w1).mono ?_
    rintro e w1' ⟨rfl, rfl⟩
    go_wp2_with fail
    go_ret
    exact ⟨rfl, below_kept (k1.alloc _) (Nat.le_refl _)⟩

end Go.Proofs.Ytcdeankllgpnfab
