/- The law MontRing, walked: whatever the three numbers. -/
import Derived.Test.YtpgccioblgcjaaaL6C
import Derived.Test.YtpgccioblgcjaaaOpenRow
namespace Go.Proofs.Ytpgccioblgcjaaa
open Go.RowKit

/-- What Setup answers is a modulus. -/
theorem setup_ok {V K : Nat} (h : montE V = 0) (hK : isKf V K) : okMod (modM V) K (modR V) ∧ (modM V).length = wordsN V ∧ (modR V).length = wordsN V ∧ val 18446744073709551616 (modM V) = V ∧ Digs 18446744073709551616 (modM V) ∧ Digs 18446744073709551616 (modR V) := by
  have hM : modM V = digs 18446744073709551616 V (wordsN V) := by unfold modM; rw [if_pos h]
  have hR : modR V = digs 18446744073709551616 (2 ^ (128 * wordsN V) % V) (wordsN V) := by unfold modR; rw [if_pos h]
  have hv : val 18446744073709551616 (modM V) = V := by rw [hM, val_digs, Nat.mod_eq_of_lt ((wordsN_le V _).1 (Nat.le_refl _))]
  refine ⟨?_, by rw [hM, digs_length], by rw [hR, digs_length], hv, by rw [hM]; exact digs_digs (by omega) _ _, by rw [hR]; exact digs_digs (by omega) _ _⟩
  unfold okMod
  rw [hv]
  exact ⟨h, rfl, hK, rfl⟩

theorem back_num {P V X Y : Nat} (hc : Nat.Coprime P V) (hX : X < V) (hY : Y < V) (h : P * Y % V = (P * X % V) % V) : Y = X := by
  rw [Nat.mod_mod] at h
  have := cancel_mod hc h
  rwa [Nat.mod_eq_of_lt hX, Nat.mod_eq_of_lt hY] at this

theorem ring_num {P V X Z Y2 Y3 : Nat} (hc : Nat.Coprime P V) (h3 : Y3 < V) (h : P * Y3 % V = Y2 % V) (h2 : P * Y2 % V = ((P * X % V) * (P * Z % V)) % V) : Y3 = X * Z % V := by
  rw [← Nat.mod_eq_of_lt h3]
  apply cancel_mod hc
  apply cancel_mod hc
  have e1 : P * (P * Y3) % V = P * Y2 % V := by rw [Nat.mul_mod, h, ← Nat.mul_mod]
  rw [e1, h2, ← Nat.mul_mod]
  congr 1
  grind

theorem dlen_small {V n : Nat} (h : V < 18446744073709551616 ^ n) : dlen V ≤ 2 * n := (dlen_le V (2 * n)).2 (by
  rw [show (4294967296 : Nat) ^ (2 * n) = 18446744073709551616 ^ n by rw [Nat.pow_mul]]
  exact h)

set_option maxRecDepth 20000 in
set_option maxHeartbeats 4000000 in
theorem walkMontRing (u : Value) (ms : List Nat) (x : Value) (xs : List Nat) (y : Value) (ys : List Nat) (w : World) (hu : Row .u64 w u ms) (hx : Row .u64 w x xs) (hy : Row .u64 w y ys) (hdm : Digs 18446744073709551616 ms) (hdx : Digs 18446744073709551616 xs) (hdy : Digs 18446744073709551616 ys) :
    Calls Try.prog 7 #[u, x, y] w fun e w' => e = .returned (.bool true) ∧ Below w.heap.size w w' := by
  have hA := f6Awake w
  obtain ⟨ao, L, cap, rfl, hL, _, _, _, _⟩ := hu.open
  obtain ⟨xo, N1, xc, rfl, hLx, _, _, _, _⟩ := hx.open
  obtain ⟨yo, N2, yc, rfl, hLy, _, _, _, _⟩ := hy.open
  by_cases h4 : L ≤ 40 ∧ N1 ≤ 40 ∧ N2 ≤ 40
  · have hF := fun W => few3 ao xo yo L N1 N2 cap xc yc W true (decide_eq_true h4).symm
    obtain ⟨V, hV⟩ : ∃ V, V = val 18446744073709551616 ms := ⟨_, rfl⟩
    obtain ⟨X, hX⟩ : ∃ X, X = val 18446744073709551616 xs := ⟨_, rfl⟩
    obtain ⟨Z, hZ⟩ : ∃ Z, Z = val 18446744073709551616 ys := ⟨_, rfl⟩
    obtain ⟨E, hE⟩ : ∃ E, E = montE V := ⟨_, rfl⟩
    have JS : Hid (∀ W, Kept Nought w W → Calls Try.prog 11 #[.slice ao L cap] W fun e w' => ∃ a K b, e = .returned (.tuple #[.agg (modCells a K b), .int .i64 (E : Nat)]) ∧ Row .u64 w' a (modM V) ∧ Row .u64 w' b (modR V) ∧ isKf V K ∧ Kept Nought W w') := fun W k => mSetup ao L cap ms V E hV hE W (hu.grew k) hdm (by omega)
    unfold modCells at JS
    have hVL : V < 18446744073709551616 ^ L := by rw [hV, ← hL.out]; exact val_lt (by omega) hdm
    have hXL : X < 18446744073709551616 ^ N1 := by rw [hX, ← hLx.out]; exact val_lt (by omega) hdx
    have hZL : Z < 18446744073709551616 ^ N2 := by rw [hZ, ← hLy.out]; exact val_lt (by omega) hdy
    have JOx : Hid (∀ W, Kept Nought w W → Calls Try.prog 27 #[.slice xo N1 xc] W fun r w' => ∃ v', r = .returned v' ∧ IsBig w' v' X ∧ (∀ b, v'.ownBlock = some b → W.heap.size ≤ b) ∧ Kept Nought W w') := fun W k => by
      rw [hX]; exact rOf _ xs W (hx.grew k) hdx (by rw [hLx.out]; omega)
    have JOy : Hid (∀ W, Kept Nought w W → Calls Try.prog 27 #[.slice yo N2 yc] W fun r w' => ∃ v', r = .returned v' ∧ IsBig w' v' Z ∧ (∀ b, v'.ownBlock = some b → W.heap.size ≤ b) ∧ Kept Nought W w') := fun W k => by
      rw [hZ]; exact rOf _ ys W (hy.grew k) hdy (by rw [hLy.out]; omega)
    have JOm : Hid (∀ W, Kept Nought w W → Calls Try.prog 27 #[.slice ao L cap] W fun r w' => ∃ v', r = .returned v' ∧ IsBig w' v' V ∧ (∀ b, v'.ownBlock = some b → W.heap.size ≤ b) ∧ Kept Nought W w') := fun W k => by
      rw [hV]; exact rOf _ ms W (hu.grew k) hdm (by rw [hL.out]; omega)
    have dX := dlen_small hXL
    have dZ := dlen_small hZL
    have dXZ := dlen_mul X Z
    have HX := toHid hx
    have HY := toHid hy
    have HDX := toHid hdx
    have HDY := toHid hdy
    have HXX := toHid hX
    have HZZ := toHid hZ
    have HE := toHid hE
    have HVL := toHid hVL
    clear hu hx hy hdm hdx hdy hV hX hZ hE hVL hXL hZL hL
    go_enter Try.func7, Try.ntmps7
    go_wp2_with fail
    refine hA.mono ?_
    rintro e w1 ⟨rfl, k1⟩
    go_wp2_with fail
    refine (hF w1).mono ?_
    rintro e w1' ⟨rfl, rfl⟩
    have k2 := k1.alloc (.cells #[.slice ao L cap, .slice xo N1 xc, .slice yo N2 yc] 23)
    generalize w1.alloc (.cells #[.slice ao L cap, .slice xo N1 xc, .slice yo N2 yc] 23) = w2 at *
    have hS := JS.out w2 k2
    clear hA hF k1
    go_wp2_with fail
    refine hS.mono ?_
    rintro e w3 ⟨a, K, b, rfl, ha, hb, hK, k3⟩
    obtain ⟨a1, n1, c1, rfl, hLa, _, _, _, _⟩ := ha.open
    obtain ⟨b1, m1, d1, rfl, hLb, _, _, _, _⟩ := hb.open
    have kb := (Kept.refl Nought w3).alloc (.cells #[.slice a1 n1 c1, .int .u64 (K : Nat), .slice b1 m1 d1] 28)
    have hx4 : (w3.alloc (.cells #[.slice a1 n1 c1, .int .u64 (K : Nat), .slice b1 m1 d1] 28)).heap[w3.heap.size]? = some (.cells #[.slice a1 n1 c1, .int .u64 (K : Nat), .slice b1 m1 d1] 28 (0, 0)) := heap_alloc_new _ _
    have K4 := (k2.trans k3).trans kb
    have hA4 := ha.grew kb
    have hB4 := hb.grew kb
    clear hS JS ha hb k2 k3 kb
    by_cases hE0 : E = 0
    · subst hE0
      obtain ⟨hok, l1, l2, hval, hd1, hd2⟩ := setup_ok HE.out.symm hK
      obtain rfl : n1 = wordsN V := hLa.out.symm.trans l1
      obtain rfl : m1 = wordsN V := hLb.out.symm.trans l2
      have hmo := montE_ok HE.out.symm
      have hco : Nat.Coprime (2 ^ (64 * wordsN V)) V := (odd_coprime hmo.2.2).symm
      have hVn : V < 18446744073709551616 ^ wordsN V := (wordsN_le V _).1 (Nat.le_refl _)
      have hn4 : wordsN V ≤ 40 := Nat.le_trans ((wordsN_le V L).2 HVL.out) h4.1
      generalize wordsN V = n at *
      obtain ⟨W, hW⟩ : ∃ W, W = w3.alloc (.cells #[.slice a1 n c1, .int .u64 (K : Nat), .slice b1 n d1] 28) := ⟨_, rfl⟩
      rw [← hW] at hA4 hB4 hx4 K4
      have JC : Hid (∀ W', Kept Nought W W' → W'.cell? ⟨w3.heap.size, 0, none⟩ = some (.slice a1 n c1) ∧ W'.cell? ⟨w3.heap.size, 1, none⟩ = some (.int .u64 (K : Nat)) ∧ W'.cell? ⟨w3.heap.size, 2, none⟩ = some (.slice b1 n d1)) := fun W' k => cells3 ((k.block _ (lt_of_block hx4) (fun f => f)).trans hx4)
      obtain ⟨E1, hE1, hE1'⟩ := err_of (okMod (modM V) K (modR V) ∧ (N1 = n ∧ val 18446744073709551616 xs < val 18446744073709551616 (modM V)))
      obtain ⟨E2, hE2, hE2'⟩ := err_of (okMod (modM V) K (modR V) ∧ (N2 = n ∧ val 18446744073709551616 ys < val 18446744073709551616 (modM V)))
      have J1 : Hid (∀ W', Kept Nought W W' → Calls Try.prog 20 #[.pointer none, .agg #[.slice a1 n c1, .int .u64 (K : Nat), .slice b1 n d1], .slice xo N1 xc] W' fun e w' => ∃ v', e = .returned (.tuple #[v', .int .i64 (E1 : Int)]) ∧ Kept Nought W' w' ∧ Row .u64 w' v' (if E1 = 0 then digs 18446744073709551616 (2 ^ (64 * n) * X % V) n else [])) := fun W' k => by
        have := enter6 a1 b1 xo n n K c1 d1 N1 xc E1 _ _ xs W' (hA4.grew k) (hB4.grew k) (HX.out.grew (K4.trans k)) hd1 hd2 HDX.out hK.1 (by omega) hE1 hE1'
        rw [hval, ← HXX.out] at this
        exact this
      have J2 : Hid (∀ W', Kept Nought W W' → Calls Try.prog 20 #[.pointer none, .agg #[.slice a1 n c1, .int .u64 (K : Nat), .slice b1 n d1], .slice yo N2 yc] W' fun e w' => ∃ v', e = .returned (.tuple #[v', .int .i64 (E2 : Int)]) ∧ Kept Nought W' w' ∧ Row .u64 w' v' (if E2 = 0 then digs 18446744073709551616 (2 ^ (64 * n) * Z % V) n else [])) := fun W' k => by
        have := enter6 a1 b1 yo n n K c1 d1 N2 yc E2 _ _ ys W' (hA4.grew k) (hB4.grew k) (HY.out.grew (K4.trans k)) hd1 hd2 HDY.out hK.1 (by omega) hE2 hE2'
        rw [hval, ← HZZ.out] at this
        exact this
      have J3 : Hid (∀ W' zo zc T, Kept Nought W W' → T < V → Row .u64 W' (.slice zo n zc) (digs 18446744073709551616 T n) → Calls Try.prog 22 #[.pointer none, .agg #[.slice a1 n c1, .int .u64 (K : Nat), .slice b1 n d1], .slice zo n zc] W' fun e w' => ∃ v', e = .returned (.tuple #[v', .int .i64 0]) ∧ Kept Nought W' w' ∧ ∃ Y, Row .u64 w' v' (digs 18446744073709551616 Y n) ∧ LeaG n V T Y) := fun W' zo zc T k hT hr => by
        have hvT : val 18446744073709551616 (digs 18446744073709551616 T n) = T := by rw [val_digs, Nat.mod_eq_of_lt (Nat.lt_trans hT hVn)]
        refine (leave6 a1 b1 zo n n K c1 d1 n zc 0 _ _ _ W' (hA4.grew k) (hB4.grew k) hr hd1 hd2 (digs_digs (by omega) _ _) hK.1 (by omega) ⟨fun _ => ⟨hok, rfl, by rw [hval, hvT]; exact hT⟩, fun _ => rfl⟩ (by omega)).mono ?_
        rintro e w' ⟨v', rfl, k', Y, h1, h2⟩
        rw [hval, hvT] at h2
        exact ⟨v', rfl, k', Y, h1, h2 rfl⟩
      have J4 : Hid (∀ W' zo zc yo yc T S, Kept Nought W W' → T < V → S < V → Row .u64 W' (.slice zo n zc) (digs 18446744073709551616 T n) → Row .u64 W' (.slice yo n yc) (digs 18446744073709551616 S n) → Calls Try.prog 17 #[.pointer none, .agg #[.slice a1 n c1, .int .u64 (K : Nat), .slice b1 n d1], .slice zo n zc, .slice yo n yc] W' fun e w' => ∃ v', e = .returned (.tuple #[v', .int .i64 0]) ∧ Kept Nought W' w' ∧ ∃ Y, Row .u64 w' v' (digs 18446744073709551616 Y n) ∧ MulG n V T S Y) := fun W' zo zc yo yc T S k hT hS hr hr' => by
        have hvT : val 18446744073709551616 (digs 18446744073709551616 T n) = T := by rw [val_digs, Nat.mod_eq_of_lt (Nat.lt_trans hT hVn)]
        have hvS : val 18446744073709551616 (digs 18446744073709551616 S n) = S := by rw [val_digs, Nat.mod_eq_of_lt (Nat.lt_trans hS hVn)]
        refine (mul6 a1 b1 zo yo n n K c1 d1 n n zc yc 0 _ _ _ _ W' (hA4.grew k) (hB4.grew k) hr hr' hd1 hd2 (digs_digs (by omega) _ _) (digs_digs (by omega) _ _) hK.1 (by omega) ⟨fun _ => ⟨hok, ⟨rfl, by rw [hval, hvT]; exact hT⟩, rfl, by rw [hval, hvS]; exact hS⟩, fun _ => rfl⟩ (by omega)).mono ?_
        rintro e w' ⟨v', rfl, k', Y, h1, h2⟩
        rw [hval, hvT, hvS] at h2
        exact ⟨v', rfl, k', Y, h1, h2 rfl⟩
      have HX1 : Hid (E1 = 0 → X < V ∧ digs 18446744073709551616 X n = xs) := fun h => by
        have := (hE1.1 h).2
        rw [hval, ← HXX.out] at this
        refine ⟨this.2, (digs_val (by omega) HDX.out (hLx.out.trans this.1) ?_).symm⟩
        rw [← HXX.out, Nat.mod_eq_of_lt (Nat.lt_trans this.2 hVn)]
      have HZ1 : Hid (E2 = 0 → Z < V) := fun h => by
        have := (hE2.1 h).2
        rw [hval, ← HZZ.out] at this
        exact this.2
      have hV0 : 0 < V := by omega
      have HCO := toHid hco
      have HW := toHid hW
      have HK4 := toHid K4
      have HVN := toHid hVn
      obtain ⟨p0, p1, p2⟩ := JC.out _ (Kept.refl _ _)
      have hEn := J1.out _ (Kept.refl _ _)
      clear hok l1 l2 hval hd1 hd2 hmo hA4 hB4 hx4 hE1 hE2 hco hVn hK hW K4 hLa hLb hLx hLy HE
      go_wp2_with (rw [← HW.out])
      refine hEn.mono ?_
      rintro e w5 ⟨v5, rfl, k5, hr5⟩
      obtain ⟨q0, q1, q2⟩ := JC.out _ k5
      have hEn2 := J2.out _ k5
      have HR5 := toHid hr5
      clear hEn hr5 p0 p1 p2
      go_wp2_with fail
      refine hEn2.mono ?_
      rintro e w6 ⟨v6, rfl, k6, hr6⟩
      have K6 := k5.trans k6
      have HR5' := toHid (HR5.out.grew k6)
      have HR6 := toHid hr6
      clear hEn2 hr6 q0 q1 q2 k5 k6 HR5
      by_cases e1 : E1 = 0
      · subst e1
        obtain ⟨hXV, hXe⟩ := HX1.out rfl
        by_cases e2 : E2 = 0
        · subst e2
          have hZV := HZ1.out rfl
          have hr5 := HR5'.out
          have hr6 := HR6.out
          rw [if_pos rfl] at hr5 hr6
          obtain ⟨o5, n5, c5, rfl, hL5, _, _, _, _⟩ := hr5.open
          obtain rfl : n5 = n := by rw [← hL5.out, digs_length]
          obtain ⟨o6, n6, c6, rfl, hL6, _, _, _, _⟩ := hr6.open
          obtain rfl : n6 = n5 := by rw [← hL6.out, digs_length]
          obtain ⟨r0, r1, r2⟩ := JC.out _ K6
          have h7 := J3.out _ _ _ _ K6 (Nat.mod_lt _ hV0) hr5
          have H5 := toHid hr5
          have H6 := toHid hr6
          clear HR5' HR6 hr5 hr6 hL5 hL6 J1 J2 HX1 HZ1
          go_wp2_with fail
          refine h7.mono ?_
          rintro e w7 ⟨v7, rfl, k7, Y1, hr7, hY1⟩
          have hback := back_num HCO.out hXV hY1.1 hY1.2
          subst hback
          rw [hXe] at hr7
          have K7 := K6.trans k7
          obtain ⟨s0, s1, s2⟩ := JC.out _ K7
          have h8 := J4.out _ _ _ _ _ _ _ K7 (Nat.mod_lt _ hV0) (Nat.mod_lt _ hV0) (H5.out.grew k7) (H6.out.grew k7)
          have H7 := toHid hr7
          clear h7 r0 r1 r2 k7 hr7 hY1 H5 H6
          go_wp2_with fail
          refine h8.mono ?_
          rintro e w8 ⟨v8, rfl, k8, Y2, hr8, hY2⟩
          obtain ⟨o8, n8, c8, rfl, hL8, _, _, _, _⟩ := hr8.open
          obtain rfl : n8 = n6 := by rw [← hL8.out, digs_length]
          have K8 := K7.trans k8
          obtain ⟨t0, t1, t2⟩ := JC.out _ K8
          have h9 := J3.out _ _ _ _ K8 hY2.1 hr8
          have H7' := toHid (H7.out.grew k8)
          clear h8 s0 s1 s2 k8 hr8 hL8 H7
          go_wp2_with fail
          refine h9.mono ?_
          rintro e w9 ⟨v9, rfl, k9, Y3, hr9, hY3⟩
          have hring := ring_num HCO.out hY3.1 hY3.2 hY2.2
          subst hring
          have K9 := HK4.out.trans (K8.trans k9)
          have H7 := toHid (H7'.out.grew k9)
          have H9 := toHid hr9
          have hO1 := JOx.out _ K9
          clear h9 t0 t1 t2 k9 hr9 hY2 hY3 H7' J3 J4 JC
          go_wp2_with fail
          refine hO1.mono ?_
          rintro e w10 ⟨v10, rfl, hb10, _, k10⟩
          have K10 := K9.trans k10
          have hO2 := JOy.out _ K10
          clear hO1
          go_wp2_with fail
          refine hO2.mono ?_
          rintro e w11 ⟨v11, rfl, hb11, _, k11⟩
          have K11 := K10.trans k11
          have hO3 := JOm.out _ K11
          clear hO2
          go_wp2_with fail
          refine hO3.mono ?_
          rintro e w12 ⟨v12, rfl, hb12, _, k12⟩
          have K12 := K11.trans k12
          have hMM := rMulMod v10 v11 v12 _ _ _ w12 ((hb10.grew k11).grew k12) (hb11.grew k12) hb12 hV0 (by omega) (by omega) (by omega)
          clear hO3 hb10 hb11 hb12
          go_wp2_with fail
          refine hMM.mono ?_
          rintro e w13 ⟨v13, rfl, hb13, _, k13⟩
          have KK := ((k10.trans k11).trans k12).trans k13
          have K13 := K12.trans k13
          have hSm := rSame v7 (.slice xo N1 xc) _ _ w13 (H7.out.grew KK) (HX.out.grew K13)
          rw [decide_eq_true rfl] at hSm
          have JZ : Hid (∀ W', Kept Nought w13 W' → Calls Try.prog 27 #[v9] W' fun r w' => ∃ v', r = .returned v' ∧ IsBig w' v' (Y1 * Z % V) ∧ Kept Nought w13 w') := fun W' k => by
            have := rOf v9 _ W' ((H9.out.grew KK).grew k) (digs_digs (by omega) _ _) (by rw [digs_length]; omega)
            rw [val_digs, Nat.mod_eq_of_lt (Nat.lt_trans (Nat.mod_lt _ hV0) HVN.out)] at this
            refine this.mono ?_
            rintro e w' ⟨v', rfl, h1, _, h2⟩
            exact ⟨v', rfl, h1, k.trans h2⟩
          have HB13 := toHid hb13
          have HK13 := toHid K13
          clear hMM hb13 k10 k11 k12 k13 K9 K10 K11 K12 K13 KK JOx JOy JOm
          go_wp2_with fail
          refine hSm.mono ?_
          rintro e w14 ⟨rfl, m14, rfl⟩
          have k14 : Kept Nought w13 (w13.drewN m14) := (Kept.refl _ _).drewN m14
          have hZ := JZ.out _ k14
          clear hSm
          go_wp2_with fail
          refine hZ.mono ?_
          rintro e w15 ⟨v15, rfl, hb15, k15⟩
          have hCm := rCmp v15 v13 _ _ w15 hb15 (HB13.out.grew k15)
          rw [cmpN_eq rfl] at hCm
          clear hZ hb15
          go_wp2_with fail
          refine hCm.mono ?_
          rintro e w16 ⟨rfl, m16, rfl⟩
          go_wp2_with fail
          go_ret
          exact ⟨rfl, below_kept ((HK13.out.trans k15).drewN m16) (Nat.le_refl _)⟩
        · obtain rfl : E2 = 1 := by omega
          clear HR5' HR6 J1 J2 J3 J4 JC JOx JOy JOm HX1 HZ1
          go_wp2_with fail
          go_ret
          exact ⟨rfl, below_kept (HK4.out.trans K6) (Nat.le_refl _)⟩
      · obtain rfl : E1 = 1 := by omega
        clear HR5' HR6 J1 J2 J3 J4 JC JOx JOy JOm HX1 HZ1
        go_wp2_with fail
        go_ret
        exact ⟨rfl, below_kept (HK4.out.trans K6) (Nat.le_refl _)⟩
    · have g0 : ¬ (E : Int) = 0 := by omega
      clear JOx JOy JOm hx4 hA4 hB4
      go_wp2_with fail
      go_ret
      exact ⟨rfl, below_kept K4 (Nat.le_refl _)⟩
  · have hF := fun W => few3 ao xo yo L N1 N2 cap xc yc W false (decide_eq_false h4).symm
    clear hu hx hy h4
    go_enter Try.func7, Try.ntmps7
    go_wp2_with fail
    refine hA.mono ?_
    rintro e w1 ⟨rfl, k1⟩
    go_wp2_with fail
    refine (hF w1).mono ?_
    rintro e w1' ⟨rfl, rfl⟩
    go_wp2_with fail
    go_ret
    exact ⟨rfl, below_kept (k1.alloc _) (Nat.le_refl _)⟩

end Go.Proofs.Ytpgccioblgcjaaa
