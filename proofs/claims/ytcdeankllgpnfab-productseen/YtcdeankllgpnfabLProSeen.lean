/- The law ProductSeen, walked: whatever the four numbers and the two words. -/
import Derived.Test.YtcdeankllgpnfabTrio
import Derived.Test.YtcdeankllgpnfabOpenRow
namespace Go.Proofs.Ytcdeankllgpnfab
open Go.RowKit

theorem rep_step (a b : List Ev) (k : Nat) (x : Ev) : ∀ j, j < 3 → (if j = 2 then ev3 a b (List.replicate k x) 2 ++ [x] else ev3 a b (List.replicate k x) j) = ev3 a b (List.replicate (k + 1) x) j := by
  intro j hj
  rw [ev3_2 a b _ _ j hj, ← List.replicate_succ']

set_option maxRecDepth 20000 in
set_option maxHeartbeats 8000000 in
theorem walkProductSeen (u : Value) (xs : List Nat) (v : Value) (ys : List Nat) (t : Value) (zs : List Nat) (s : Value) (us : List Nat) (x y : Int) (w : World) (hu : Row .u64 w u xs) (hv : Row .u64 w v ys) (ht : Row .u64 w t zs) (hs : Row .u64 w s us) (hdx : Digs 18446744073709551616 xs) (hdy : Digs 18446744073709551616 ys) (hdz : Digs 18446744073709551616 zs) (hdu : Digs 18446744073709551616 us) (hx : (Lit.int .u64 x).wf = true) (hy : (Lit.int .u64 y).wf = true) :
    Calls Try.prog 3 #[u, v, t, s, .int .u64 x, .int .u64 y] w fun e w' => e = .returned (.bool true) ∧ Below w.heap.size w w' := by
  obtain ⟨xw, rfl, hxw⟩ : ∃ bt : Nat, x = (bt : Int) ∧ bt < 18446744073709551616 := by
    have := wf_u64 x hx
    exact ⟨x.toNat, by omega, by omega⟩
  obtain ⟨yw, rfl, hyw⟩ : ∃ bt : Nat, y = (bt : Int) ∧ bt < 18446744073709551616 := by
    have := wf_u64 y hy
    exact ⟨y.toNat, by omega, by omega⟩
  clear hx hy
  have hA := f5Awake w
  obtain ⟨ao, L, cap, rfl, hL, _, _, _, _⟩ := hu.open
  obtain ⟨bo, M, dap, rfl, hM, _, _, _, _⟩ := hv.open
  obtain ⟨co, P, eap, rfl, hP, _, _, _, _⟩ := ht.open
  obtain ⟨go, Q, fap, rfl, hQ, _, _, _, _⟩ := hs.open
  by_cases h4 : L ≤ 40 ∧ M ≤ 40 ∧ P ≤ 40 ∧ Q ≤ 40
  · have hF := fun W => few4 ao bo co go L M P Q cap dap eap fap W true (decide_eq_true h4).symm
    by_cases hLP : L = P
    · subst hLP
      by_cases hMQ : M = Q
      · subst hMQ
        have hOb := fun W (k : Kept Nought w W) => rOf _ ys W (hv.grew k) hdy (by rw [hM.out]; omega)
        have hOd := fun W (k : Kept Nought w W) => rOf _ us W (hs.grew k) hdu (by rw [hQ.out]; omega)
        have h41 := h4.1
        have h42 := h4.2.1
        have cM0 := fun W p ev (h : Trio w p ev W) i (hi : i < 3) (hl : (ev i).length ≤ 100000000) => trioMul h i hi hl ao bo L M cap dap xs ys hu hv hdx hdy
        have cM1 := fun W p ev (h : Trio w p ev W) i (hi : i < 3) (hl : (ev i).length ≤ 100000000) => trioMul h i hi hl co go L M eap fap zs us ht hs hdz hdu
        have cW0 := fun W p ev (h : Trio w p ev W) i (hi : i < 3) (hl : (ev i).length ≤ 100000000) => trioMulWord h i hi hl ao bo L M cap dap xs ys xw hxw hu hv hdx hdy
        have cW1 := fun W p ev (h : Trio w p ev W) i (hi : i < 3) (hl : (ev i).length ≤ 100000000) => trioMulWord h i hi hl co go L M eap fap zs us yw hyw ht hs hdz hdu
        have cD0 := fun W p ev (h : Trio w p ev W) i (hi : i < 3) (hl : (ev i).length ≤ 100000000) => trioDivide h i hi hl ao bo L M cap dap xs ys hu hv hdx hdy
        have cD1 := fun W p ev (h : Trio w p ev W) i (hi : i < 3) (hl : (ev i).length ≤ 100000000) => trioDivide h i hi hl co go L M eap fap zs us ht hs hdz hdu
        have HM := toHid cM0
        have HM1 := toHid cM1
        have HW := toHid cW0
        have HW1 := toHid cW1
        have HD := toHid cD0
        have HD1 := toHid cD1
        clear hu hv ht hs hdx hdy hdz hdu hL hM hP hQ h4 hxw hyw cM0 cM1 cW0 cW1 cD0 cD1
        go_enter Try.func3, Try.ntmps3
        go_wp2_with fail
        refine hA.mono ?_
        rintro e w1 ⟨rfl, k1⟩
        go_wp2_with fail
        refine (hF w1).mono ?_
        rintro e w1' ⟨rfl, rfl⟩
        have k2 := k1.alloc (.cells #[.slice ao L cap, .slice bo M dap, .slice co L eap, .slice go M fap] 23)
        generalize w1.alloc (.cells #[.slice ao L cap, .slice bo M dap, .slice co L eap, .slice go M fap] 23) = w2 at *
        clear hA hF k1
        go_wp2_with fail
        refine (hOb w2 k2).mono ?_
        rintro e w3 ⟨v3, rfl, hb3, _, k3⟩
        have k3' := k2.trans k3
        obtain ⟨ao3, n3', cap3, rfl, hn3⟩ := big_len5 hb3
        by_cases e3 : n3' = 0
        · subst e3
          clear hb3 hn3 hOb hOd HM HM1 HW HW1 HD HD1
          go_wp2_with fail
          go_ret
          exact ⟨rfl, below_kept k3' (Nat.le_refl _)⟩
        · have e3a : ((n3' : Int) == 0) = false := by simp; omega
          have e3b : ¬ (n3' : Int) = 0 := by omega
          clear hb3 hn3 hOb e3
          go_wp2_with fail
          refine (hOd w3 k3').mono ?_
          rintro e w4 ⟨v4, rfl, hb4, _, k4⟩
          have k4' := k3'.trans k4
          obtain ⟨ao4, n4, cap4, rfl, hn4⟩ := big_len5 hb4
          by_cases e4 : n4 = 0
          · subst e4
            clear hb4 hn4 hOd HM HM1 HW HW1 HD HD1
            go_wp2_with fail
            go_ret
            exact ⟨rfl, below_kept k4' (Nat.le_refl _)⟩
          · have e4a : ((n4 : Int) == 0) = false := by simp; omega
            have e4b : ¬ (n4 : Int) = 0 := by omega
            clear hb4 hn4 hOd e4 k2 k3 k4 k3'
            go_wp2_with fail
            refine (tNew _).mono ?_
            rintro e w5 ⟨rfl, rfl⟩
            go_wp2_with fail
            refine (tNew _).mono ?_
            rintro e w6 ⟨rfl, rfl⟩
            go_wp2_with fail
            refine (tNew _).mono ?_
            rintro e w7 ⟨rfl, rfl⟩
            have T0 := Trio.new w w4 k4'
            have hp1 : (w4.alloc newTr).heap.size = w4.heap.size + 1 := by simp
            have hp2 : ((w4.alloc newTr).alloc newTr).heap.size = w4.heap.size + 2 := by simp
            simp only [hp2]
            generalize ((w4.alloc newTr).alloc newTr).alloc newTr = W0 at *
            obtain ⟨p0, hq0⟩ : ∃ p, p = w4.heap.size := ⟨_, rfl⟩
            obtain ⟨p1, hq1⟩ : ∃ p, p = w4.heap.size + 1 := ⟨_, rfl⟩
            obtain ⟨p2, hq2⟩ : ∃ p, p = w4.heap.size + 2 := ⟨_, rfl⟩
            rw [← hq2, ← hq1, ← hq0] at T0
            simp only [← hq2, ← hq1]
            simp only [← hq0]
            clear hp1 hp2 hq0 hq1 hq2 k4'
            have c1 : Calls Try.prog 9 #[.pointer (some ⟨p0, 0, none⟩), .slice ao L cap, .slice bo M dap] W0 _ := HM.out _ _ _ T0 0 (by omega) (by simp [ev3])
            rw [ev3_0] at c1
            go_wp2_with fail
            refine c1.mono ?_
            rintro e W1 ⟨r1, rfl, T1⟩
            have c2 : Calls Try.prog 9 #[.pointer (some ⟨p1, 0, none⟩), .slice co L eap, .slice go M fap] W1 _ := HM1.out _ _ _ T1 1 (by omega) (by simp [ev3])
            rw [ev3_1] at c2
            clear c1 HM T0
            go_wp2_with fail
            refine c2.mono ?_
            rintro e W2 ⟨r2, rfl, T2⟩
            have HT2 := toHid T2
            clear c2 HM1 T1 T2
            go_wp2_with fail
            rw [List.nil_append] at HT2
            obtain ⟨me, hme⟩ : ∃ me, me = mulEvs L M := ⟨_, rfl⟩
            rw [← hme] at HT2
            have hml : Hid (me.length ≤ 300) := by unfold Hid; rw [hme]; exact mulEvs_le L M
            have hmr : Hid (me = List.replicate L (1, (M : Int), 0)) := by
              unfold Hid
              rw [hme]
              unfold mulEvs
              rw [if_pos (by omega)]
            clear hme
            go_loopw [74] (fun ii wr => ∃ k : Nat, k ≤ L ∧ ii = .int .i64 (k : Int) ∧ Trio w (n3 p0 p1 p2) (ev3 me me (List.replicate k (1, (M : Int), 0))) wr) (fun ii _ => L - (intOf ii).toNat)
            case atStart => exact ⟨0, Nat.zero_le _, rfl, HT2.out⟩
            case round =>
              clear HT2
              obtain ⟨k, hk, rfl, T3⟩ := hrel
              by_cases hkL : k < L
              · have g1 : (k : Int) < (L : Int) := by omega
                have c3 : Calls Try.prog 10 #[.pointer (some ⟨p2, 0, none⟩), .int .i64 (M : Int)] _ _ := trioSpan T3 2 (by omega) (by simp [ev3]; omega) (M : Int)
                clear HW HW1 HD HD1 T3
                go_wp2_with fail
                refine c3.mono ?_
                rintro e W4 ⟨rfl, T4⟩
                have T5 := T4.same (rep_step me me k (1, (M : Int), 0))
                clear c3 T4
                go_wp2_with fail
                go_roundw
                case rel => exact ⟨k + 1, by omega, by go_num, T5⟩
                case measure => simp [intOf]; omega
              · have g1 : ¬ (k : Int) < (L : Int) := by omega
                have hkL' : k = L := by omega
                have c3 : Calls Try.prog 11 #[.pointer (some ⟨p0, 0, none⟩), .pointer (some ⟨p2, 0, none⟩)] _ _ := trioSame T3 0 2 (by omega) (by omega) (by show me = List.replicate k _; rw [hkL']; exact hmr.out)
                clear T3 hkL hk
                go_wp2_with fail
                refine c3.mono ?_
                rintro e W4 ⟨rfl, T4⟩
                generalize List.replicate k ((1 : Int), (M : Int), (0 : Int)) = re at *
                have c4 : Calls Try.prog 12 #[.pointer (some ⟨p0, 0, none⟩), .slice ao L cap, .int .u64 (xw : Nat), .slice bo M dap] W4 _ := HW.out _ _ _ T4 0 (by omega) (by have := hml.out; show me.length ≤ _; omega)
                rw [ev3_0] at c4
                clear c3 T4 HW
                go_wp2_with fail
                refine c4.mono ?_
                rintro e W5 ⟨r5, r5', rfl, T5⟩
                have c5 : Calls Try.prog 12 #[.pointer (some ⟨p1, 0, none⟩), .slice co L eap, .int .u64 (yw : Nat), .slice go M fap] W5 _ := HW1.out _ _ _ T5 1 (by omega) (by have := hml.out; show me.length ≤ _; omega)
                rw [ev3_1] at c5
                clear c4 T5 HW1
                go_wp2_with fail
                refine c5.mono ?_
                rintro e W6 ⟨r6, r6', rfl, T6⟩
                obtain ⟨ne, hne⟩ : ∃ ne, ne = me ++ mwEvs L M := ⟨_, rfl⟩
                rw [← hne] at T6
                have hnl : Hid (ne.length ≤ 600) := by
                  unfold Hid
                  have := mwEvs_le L M
                  have := hml.out
                  rw [hne, List.length_append]
                  omega
                have c6 : Calls Try.prog 13 #[.pointer (some ⟨p0, 0, none⟩), .slice ao L cap, .slice bo M dap] W6 _ := HD.out _ _ _ T6 0 (by omega) (by have := hnl.out; show ne.length ≤ _; omega)
                rw [ev3_0] at c6
                clear c5 T6 HD hne hmr
                go_wp2_with fail
                refine c6.mono ?_
                rintro e W7 ⟨r7, r7', r7'', rfl, T7⟩
                have c7 : Calls Try.prog 13 #[.pointer (some ⟨p1, 0, none⟩), .slice co L eap, .slice go M fap] W7 _ := HD1.out _ _ _ T7 1 (by omega) (by have := hnl.out; show ne.length ≤ _; omega)
                rw [ev3_1] at c7
                clear c6 T7 HD1
                go_wp2_with fail
                refine c7.mono ?_
                rintro e W8 ⟨r8, r8', r8'', rfl, T8⟩
                have c8 : Calls Try.prog 11 #[.pointer (some ⟨p0, 0, none⟩), .pointer (some ⟨p1, 0, none⟩)] _ _ := trioSame T8 0 1 (by omega) (by omega) rfl
                clear c7 T8
                go_wp2_with fail
                refine c8.mono ?_
                rintro e W9 ⟨rfl, T9⟩
                go_wp2_with fail
                go_ret
                exact ⟨rfl, T9.below⟩
      · have hMQ1 : ((M : Int) == (Q : Int)) = false := by simp; omega
        have hMQ2 : ¬ (M : Int) = (Q : Int) := by omega
        clear hu hv ht hs h4 hdx hdy hdz hdu hL hM hP hQ hMQ
        go_enter Try.func3, Try.ntmps3
        go_wp2_with fail
        refine hA.mono ?_
        rintro e w1 ⟨rfl, k1⟩
        go_wp2_with fail
        refine (hF w1).mono ?_
        rintro e w1' ⟨rfl, rfl⟩
        go_wp2_with fail
        go_ret
        exact ⟨rfl, below_kept (k1.alloc _) (Nat.le_refl _)⟩
    · have hLP1 : ((L : Int) == (P : Int)) = false := by simp; omega
      have hLP2 : ¬ (L : Int) = (P : Int) := by omega
      clear hu hv ht hs h4 hdx hdy hdz hdu hL hM hP hQ hLP
      go_enter Try.func3, Try.ntmps3
      go_wp2_with fail
      refine hA.mono ?_
      rintro e w1 ⟨rfl, k1⟩
      go_wp2_with fail
      refine (hF w1).mono ?_
      rintro e w1' ⟨rfl, rfl⟩
      go_wp2_with fail
      go_ret
      exact ⟨rfl, below_kept (k1.alloc _) (Nat.le_refl _)⟩
  · have hF := fun W => few4 ao bo co go L M P Q cap dap eap fap W false (decide_eq_false h4).symm
    clear hu hv ht hs h4 hdx hdy hdz hdu hL hM hP hQ
    go_enter Try.func3, Try.ntmps3
    go_wp2_with fail
    refine hA.mono ?_
    rintro e w1 ⟨rfl, k1⟩
    go_wp2_with fail
    refine (hF w1).mono ?_
    rintro e w1' ⟨rfl, rfl⟩
    go_wp2_with fail
    go_ret
    exact ⟨rfl, below_kept (k1.alloc _) (Nat.le_refl _)⟩

end Go.Proofs.Ytcdeankllgpnfab
