/- The law ProductLaws, walked: whatever the three numbers. -/
import Derived.Test.YtcdeankllgpnfaaL5B
import Derived.Test.YtcdeankllgpnfaaOpenRow
namespace Go.Proofs.Ytcdeankllgpnfaa
open Go.RowKit

theorem mulAnsL_ok {X Y L M : Nat} (hl : L ≤ 300 ∧ M ≤ 300) (hX : X < 18446744073709551616 ^ L) (hY : Y < 18446744073709551616 ^ M) : val 18446744073709551616 (mulAns X Y L M) = X * Y ∧ Digs 18446744073709551616 (mulAns X Y L M) ∧ (mulAns X Y L M).length = L + M ∧ dlen (X * Y) ≤ 2 * (L + M) := by
  have hp : X * Y < 18446744073709551616 ^ (L + M) := by
    rw [Nat.pow_add]
    exact Nat.mul_lt_mul_of_lt_of_le hX (Nat.le_of_lt hY) (Nat.pow_pos (by omega))
  unfold mulAns
  rw [if_pos hl]
  refine ⟨by rw [val_digs, Nat.mod_eq_of_lt hp], digs_digs (by omega) _ _, digs_length _ _ _, (dlen_le _ _).2 ?_⟩
  rw [show (4294967296 : Nat) ^ (2 * (L + M)) = 18446744073709551616 ^ (L + M) by rw [Nat.pow_mul]]
  exact hp

/-- A product, and then as a plain number. -/
theorem mulOf (ao bo : Option Addr) (L M cap dap : Nat) (xs ys : List Nat) (X Y : Nat) (hX : X = val 18446744073709551616 xs) (hY : Y = val 18446744073709551616 ys) (hl : L ≤ 300 ∧ M ≤ 300) (w : World) (hu : Row .u64 w (.slice ao L cap) xs) (hv : Row .u64 w (.slice bo M dap) ys) (hdx : Digs 18446744073709551616 xs) (hdy : Digs 18446744073709551616 ys) :
    Calls Try.prog 21 #[.pointer none, .slice ao L cap, .slice bo M dap] w fun e w' => ∃ v', e = .returned v' ∧ Kept Nought w w' ∧ ∀ W, Kept Nought w' W → Calls Try.prog 19 #[v'] W fun e W' => ∃ u', e = .returned u' ∧ IsBig W' u' (X * Y) ∧ Kept Nought W W' := by
  have lx : xs.length = L := by obtain ⟨_, _, _, e, h, _⟩ := hu.open; cases e; exact h.out
  have ly : ys.length = M := by obtain ⟨_, _, _, e, h, _⟩ := hv.open; cases e; exact h.out
  have hXb : X < 18446744073709551616 ^ L := by rw [hX, ← lx]; exact val_lt (by omega) hdx
  have hYb : Y < 18446744073709551616 ^ M := by rw [hY, ← ly]; exact val_lt (by omega) hdy
  obtain ⟨m1, m2, m3, _⟩ := mulAnsL_ok hl hXb hYb
  refine (mul0 ao bo L M cap dap xs ys w hu hv hdx hdy).mono ?_
  rintro e w' ⟨v', rfl, hr, k⟩
  rw [← hX, ← hY] at hr
  refine ⟨v', rfl, k, fun W kk => ?_⟩
  refine (rOf v' _ W (hr.grew kk) m2 (by rw [m3]; omega)).mono ?_
  rintro e W' ⟨u', rfl, hb, _, kw⟩
  rw [m1] at hb
  exact ⟨u', rfl, hb, kw⟩

set_option maxRecDepth 20000 in
set_option maxHeartbeats 4000000 in
theorem walkProductLaws (u : Value) (xs : List Nat) (v : Value) (ys : List Nat) (t : Value) (zs : List Nat) (w : World) (hu : Row .u64 w u xs) (hv : Row .u64 w v ys) (ht : Row .u64 w t zs) (hdx : Digs 18446744073709551616 xs) (hdy : Digs 18446744073709551616 ys) (hdz : Digs 18446744073709551616 zs) :
    Calls Try.prog 7 #[u, v, t] w fun e w' => e = .returned (.bool true) ∧ Below w.heap.size w w' := by
  have hA := f5Awake w
  obtain ⟨ao, L, cap, rfl, hL, _, _, _, _⟩ := hu.open
  obtain ⟨bo, M, dap, rfl, hM, _, _, _, _⟩ := hv.open
  obtain ⟨co, P, eap, rfl, hP, _, _, _, _⟩ := ht.open
  by_cases h4 : L ≤ 40 ∧ M ≤ 40 ∧ P ≤ 40
  · have hF := fun W => few3 ao bo co L M P cap dap eap W true (decide_eq_true h4).symm
    obtain ⟨X, hX⟩ : ∃ X, X = val 18446744073709551616 xs := ⟨_, rfl⟩
    obtain ⟨Y, hY⟩ : ∃ Y, Y = val 18446744073709551616 ys := ⟨_, rfl⟩
    obtain ⟨Z, hZ⟩ : ∃ Z, Z = val 18446744073709551616 zs := ⟨_, rfl⟩
    have hXb : X < 18446744073709551616 ^ 40 := by rw [hX]; exact val_lt_le hdx (by rw [hL.out]; omega)
    have hYb : Y < 18446744073709551616 ^ 40 := by rw [hY]; exact val_lt_le hdy (by rw [hM.out]; omega)
    have hZb : Z < 18446744073709551616 ^ 40 := by rw [hZ]; exact val_lt_le hdz (by rw [hP.out]; omega)
    have hM1 := fun W (k : Kept Nought w W) => mulOf ao bo L M cap dap xs ys X Y hX hY (by omega) W (hu.grew k) (hv.grew k) hdx hdy
    have hM2 := fun W (k : Kept Nought w W) => mulOf bo ao M L dap cap ys xs Y X hY hX (by omega) W (hv.grew k) (hu.grew k) hdy hdx
    have hM4 := fun W (k : Kept Nought w W) => mulOf ao co L P cap eap xs zs X Z hX hZ (by omega) W (hu.grew k) (ht.grew k) hdx hdz
    have hOb := fun W (k : Kept Nought w W) => rOf _ ys W (hv.grew k) hdy (by rw [hM.out]; omega)
    have hOc := fun W (k : Kept Nought w W) => rOf _ zs W (ht.grew k) hdz (by rw [hP.out]; omega)
    rw [← hY] at hOb
    rw [← hZ] at hOc
    obtain ⟨n, hn⟩ : ∃ n, n = max (wordsN (Y + Z)) 1 := ⟨_, rfl⟩
    have hS41 : Y + Z < 18446744073709551616 ^ 41 := by
      have : (18446744073709551616 : Nat) ^ 41 = 18446744073709551616 ^ 40 * 18446744073709551616 := Nat.pow_succ ..
      rw [this]
      have hp : 0 < 18446744073709551616 ^ 40 := Nat.pow_pos (by omega)
      generalize 18446744073709551616 ^ 40 = Q at *
      omega
    have hnb : n ≤ 41 := by
      have := (wordsN_le (Y + Z) 41).2 hS41
      omega
    have hSn : Y + Z < 18446744073709551616 ^ n := Nat.lt_of_lt_of_le ((wordsN_le (Y + Z) (wordsN (Y + Z))).1 (Nat.le_refl _)) (Nat.pow_le_pow_right (by omega) (by omega))
    have hM3 := fun W so sc (hs : Row .u64 W (.slice so n sc) (digs 18446744073709551616 (Y + Z) n)) (k : Kept Nought w W) => mulOf ao so L n cap sc xs _ X (Y + Z) hX (by rw [val_digs, Nat.mod_eq_of_lt hSn]) (by omega) W (hu.grew k) hs hdx (digs_digs (by omega) _ _)
    have dY : dlen Y ≤ 100000000 := Nat.le_trans ((dlen_le Y 80).2 (by rw [show (4294967296 : Nat) ^ 80 = 18446744073709551616 ^ 40 by decide +kernel]; exact hYb)) (by omega)
    have dZ : dlen Z ≤ 100000000 := Nat.le_trans ((dlen_le Z 80).2 (by rw [show (4294967296 : Nat) ^ 80 = 18446744073709551616 ^ 40 by decide +kernel]; exact hZb)) (by omega)
    have dXY : dlen (X * Y) ≤ 100000000 := Nat.le_trans (mulAnsL_ok (L := 40) (M := 40) (by omega) hXb hYb).2.2.2 (by omega)
    have dXZ : dlen (X * Z) ≤ 100000000 := Nat.le_trans (mulAnsL_ok (L := 40) (M := 40) (by omega) hXb hZb).2.2.2 (by omega)
    have HNN := toHid hn
    clear hu hv ht hdx hdy hdz hL hM hP hX hY hZ hXb hYb hZb hS41 hSn hn
    go_enter Try.func7, Try.ntmps7
    go_wp2_with fail
    refine hA.mono ?_
    rintro e w1 ⟨rfl, k1⟩
    go_wp2_with fail
    refine (hF w1).mono ?_
    rintro e w1' ⟨rfl, rfl⟩
    have k2 := k1.alloc (.cells #[.slice ao L cap, .slice bo M dap, .slice co P eap] 23)
    generalize w1.alloc (.cells #[.slice ao L cap, .slice bo M dap, .slice co P eap] 23) = w2 at *
    clear hA hF k1
    go_wp2_with fail
    refine (hM1 w2 k2).mono ?_
    rintro e w3 ⟨v3, rfl, k3, hO3⟩
    have k3' := k2.trans k3
    clear hM1
    go_wp2_with fail
    refine (hO3 _ (Kept.refl _ _)).mono ?_
    rintro e w4 ⟨v4, rfl, hb4, k4⟩
    have k4' := k3'.trans k4
    clear hO3 k3 k4 k2
    go_wp2_with fail
    refine (hM2 w4 k4').mono ?_
    rintro e w5 ⟨v5, rfl, k5, hO5⟩
    have k5' := k4'.trans k5
    have hb5 := hb4.grew k5
    clear hM2 hb4
    go_wp2_with fail
    refine (hO5 _ (Kept.refl _ _)).mono ?_
    rintro e w6 ⟨v6, rfl, hy6, k6⟩
    have k6' := k5'.trans k6
    have hx6 := hb5.grew k6
    clear hO5 hb5 k5 k6
    go_wp2_with fail
    refine (hOb w6 k6').mono ?_
    rintro e w7 ⟨v7, rfl, hb7, _, k7⟩
    have k7' := k6'.trans k7
    have hx7 := hx6.grew k7
    have hy7 := hy6.grew k7
    clear hOb hx6 hy6
    go_wp2_with fail
    refine (hOc w7 k7').mono ?_
    rintro e w8 ⟨v8, rfl, hb8, _, k8⟩
    have k8' := k7'.trans k8
    have hx8 := hx7.grew k8
    have hy8 := hy7.grew k8
    have hAd := rAdd v7 v8 Y Z w8 (hb7.grew k8) hb8 dY dZ
    clear hOc hx7 hy7 hb7 hb8 k7 k8
    go_wp2_with fail
    refine hAd.mono ?_
    rintro e w9 ⟨v9, rfl, hb9, _, k9⟩
    have k9' := k8'.trans k9
    have hx9 := hx8.grew k9
    have hy9 := hy8.grew k9
    have hLe := rLeast v9 (Y + Z) w9 hb9
    rw [← HNN.out] at hLe
    clear hAd hx8 hy8 hb9 k9
    go_wp2_with fail
    refine hLe.mono ?_
    rintro e w10 ⟨v10, rfl, hr10, _, k10⟩
    have k10' := k9'.trans k10
    have hx10 := hx9.grew k10
    have hy10 := hy9.grew k10
    obtain ⟨so, sn, sc, rfl, hsn, _, _, _, _⟩ := hr10.open
    have hsn' : sn = n := by have := hsn.out; rw [digs_length] at this; exact this.symm
    subst hsn'
    have hM3' := hM3 w10 so sc hr10 k10'
    clear hLe hx9 hy9 hM3 hr10 hsn k10
    go_wp2_with fail
    refine hM3'.mono ?_
    rintro e w11 ⟨v11, rfl, k11, hO11⟩
    have k11' := k10'.trans k11
    have hx11 := hx10.grew k11
    have hy11 := hy10.grew k11
    clear hM3' hx10 hy10 k11
    go_wp2_with fail
    refine (hO11 _ (Kept.refl _ _)).mono ?_
    rintro e w12 ⟨v12, rfl, hz12, k12⟩
    have k12' := k11'.trans k12
    have hx12 := hx11.grew k12
    have hy12 := hy11.grew k12
    clear hO11 hx11 hy11 k12
    go_wp2_with fail
    refine (hM4 w12 k12').mono ?_
    rintro e w13 ⟨v13, rfl, k13, hO13⟩
    have k13' := k12'.trans k13
    have hx13 := hx12.grew k13
    have hy13 := hy12.grew k13
    have hz13 := hz12.grew k13
    clear hM4 hx12 hy12 hz12 k13
    go_wp2_with fail
    refine (hO13 _ (Kept.refl _ _)).mono ?_
    rintro e w14 ⟨v14, rfl, hb14, k14⟩
    have k14' := k13'.trans k14
    have hx14 := hx13.grew k14
    have hy14 := hy13.grew k14
    have hz14 := hz13.grew k14
    have hAd := rAdd v4 v14 (X * Y) (X * Z) w14 hx14 hb14 dXY dXZ
    clear hO13 hx13 hy13 hz13 k14
    go_wp2_with fail
    refine hAd.mono ?_
    rintro e w15 ⟨v15, rfl, hw15, _, k15⟩
    have k15' := toHid (k14'.trans k15)
    have hC1 := rCmp v4 v6 _ _ w15 (hx14.grew k15) (hy14.grew k15)
    rw [cmpN_eq (Nat.mul_comm X Y)] at hC1
    have hz15 := hz14.grew k15
    clear hAd hx14 hy14 hz14 k15 k14' k13' k12' k11' k10' k9' k8' k7' k6' k5' k4' k3' hb14
    go_wp2_with fail
    refine hC1.mono ?_
    rintro e w16 ⟨rfl, m16, rfl⟩
    have kd := (Kept.refl Nought w15).drewN m16
    have hC2 := rCmp v12 v15 _ _ _ (hz15.grew kd) (hw15.grew kd)
    rw [cmpN_eq (Nat.mul_add X Y Z)] at hC2
    clear hC1 hz15 hw15 kd
    go_wp2_with fail
    refine hC2.mono ?_
    rintro e w17 ⟨rfl, m17, rfl⟩
    go_wp2_with fail
    go_ret
    exact ⟨rfl, below_kept (k15'.out.drewN _) (Nat.le_refl _)⟩
  · have hF := fun W => few3 ao bo co L M P cap dap eap W false (decide_eq_false h4).symm
    clear hu hv ht h4
    go_enter Try.func7, Try.ntmps7
    go_wp2_with fail
    refine hA.mono ?_
    rintro e w1 ⟨rfl, k1⟩
    go_wp2_with fail
    refine (hF w1).mono ?_
    rintro e w1' ⟨rfl, rfl⟩
    go_wp2_with fail
    go_ret
    exact ⟨rfl, below_kept (k1.alloc _) (Nat.le_refl _)⟩

end Go.Proofs.Ytcdeankllgpnfaa
