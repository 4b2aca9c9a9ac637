/- The law PowerSums, walked. -/
import Derived.Test.YtoieghgaahfciaaGreatLaw8
import Derived.Test.YtoieghgaahfciaaGreatOpenRow
namespace Go.Proofs.YtoieghgaahfciaaGreat
open Go.RowKit

theorem bool_of8 (P : Prop) : ∃ R : Bool, R = true ↔ P := by
  by_cases h : P
  · exact ⟨true, by simp [h]⟩
  · exact ⟨false, by simp [h]⟩

theorem sum_words {A B n : Nat} (hA : A < 18446744073709551616 ^ n) (hB : B < 18446744073709551616 ^ n) : wordsN (A + B) ≤ n + 1 := by
  refine (wordsN_le _ _).2 ?_
  rw [Nat.pow_succ]
  omega

set_option maxRecDepth 20000 in
set_option maxHeartbeats 4000000 in
theorem walkPowerSums (u : Value) (ms : List Nat) (k : Int) (v : Value) (rs : List Nat) (x : Value) (xs : List Nat) (y : Value) (ys : List Nat) (z : Value) (zs : List Nat) (w : World) (hu : Row .u64 w u ms) (hv : Row .u64 w v rs) (hx : Row .u64 w x xs) (hy : Row .u64 w y ys) (hz : Row .u64 w z zs) (hdm : Digs 18446744073709551616 ms) (hdr : Digs 18446744073709551616 rs) (hdx : Digs 18446744073709551616 xs) (hdy : Digs 18446744073709551616 ys) (hdz : Digs 18446744073709551616 zs) (hb : (Lit.int .u64 k).wf = true) :
    Calls Tryz.prog 5 #[.agg #[u, .int .u64 k, v], x, y, z] w fun e w' => e = .returned (.bool true) ∧ Below w.heap.size w w' := by
  obtain ⟨K, rfl, hK⟩ : ∃ D : Nat, k = (D : Int) ∧ D < 18446744073709551616 := by
    have := wf_u64 k hb
    exact ⟨k.toNat, by omega, by omega⟩
  obtain ⟨ao, L, cap, rfl, hL, _, _, _, _⟩ := hu.open
  obtain ⟨bo, M, dap, rfl, hM, _, _, _, _⟩ := hv.open
  obtain ⟨xo, N1, xc, rfl, hLN1, _, _, _, _⟩ := hx.open
  obtain ⟨yo, N2, yc, rfl, hLN2, _, _, _, _⟩ := hy.open
  obtain ⟨zo, N3, zc, rfl, hLN3, _, _, _, _⟩ := hz.open
  obtain ⟨W, hW⟩ : ∃ W, W = w.alloc (.cells #[.slice ao L cap, .int .u64 (K : Nat), .slice bo M dap] 26) := ⟨_, rfl⟩
  have k0 : Kept Nought w W := by rw [hW]; exact (Kept.refl Nought w).alloc _
  have hx0 : W.heap[w.heap.size]? = some (.cells #[.slice ao L cap, .int .u64 (K : Nat), .slice bo M dap] 26 (0, 0)) := by rw [hW]; exact heap_alloc_new _ _
  have hA := f8Awake W
  have JC : Hid (∀ W', Kept Nought W W' → W'.cell? ⟨w.heap.size, 0, none⟩ = some (.slice ao L cap) ∧ W'.cell? ⟨w.heap.size, 1, none⟩ = some (.int .u64 (K : Nat)) ∧ W'.cell? ⟨w.heap.size, 2, none⟩ = some (.slice bo M dap)) := fun W' k => cells3 ((k.block _ (lt_of_block hx0) (fun f => f)).trans hx0)
  have HW := toHid hW
  have HK0 := toHid k0
  obtain ⟨R, hR⟩ : ∃ R : Bool, R = decide (((L ≤ 40 ∧ M ≤ 40) ∧ N1 ≤ 40) ∧ L ≤ 10 ∧ (N2 ≤ 6 ∨ N2 = 301)) := ⟨_, rfl⟩
  obtain ⟨S, hS⟩ : ∃ S : Bool, S = decide (((L ≤ 40 ∧ M ≤ 40) ∧ N1 ≤ 40) ∧ L ≤ 10 ∧ (N3 ≤ 6 ∨ N3 = 301)) := ⟨_, rfl⟩
  obtain ⟨Q, hQ⟩ := bool_of8 (okMod ms K rs ∧ (N1 = L ∧ val 18446744073709551616 xs < val 18446744073709551616 ms))
  have JF : Hid (∀ W', Kept Nought W W' → Calls Tryz.prog 8 #[.agg #[.slice ao L cap, .int .u64 (K : Nat), .slice bo M dap], .slice xo N1 xc, .slice yo N2 yc] W' fun r w' => r = .returned (.bool R) ∧ Kept Nought W w') := fun W' k => by
    refine (f8Few ao bo xo yo L M N1 N2 cap dap xc yc (K : Nat) W' R hR).mono ?_
    rintro e w' ⟨rfl, k'⟩
    exact ⟨rfl, k.trans k'⟩
  have JG : Hid (∀ W', Kept Nought W W' → Calls Tryz.prog 8 #[.agg #[.slice ao L cap, .int .u64 (K : Nat), .slice bo M dap], .slice xo N1 xc, .slice zo N3 zc] W' fun r w' => r = .returned (.bool S) ∧ Kept Nought W w') := fun W' k => by
    refine (f8Few ao bo xo zo L M N1 N3 cap dap xc zc (K : Nat) W' S hS).mono ?_
    rintro e w' ⟨rfl, k'⟩
    exact ⟨rfl, k.trans k'⟩
  have JM : Hid (∀ W', Kept Nought W W' → L ≤ 40 → Calls Tryz.prog 14 #[.agg #[.slice ao L cap, .int .u64 (K : Nat), .slice bo M dap], .slice (some ⟨W'.heap.size, 0, none⟩) 1 1] (W'.alloc (.cells #[.slice xo N1 xc] 23)) fun r w' => r = .returned (.bool Q) ∧ Kept Nought W w') := fun W' k hbd => by
    have kk := k0.trans (k.alloc (.cells #[.slice xo N1 xc] 23))
    refine (q7Members ao bo L M cap dap K ms rs _ 1 1 (fun _ => xo) (fun _ => N1) (fun _ => xc) (fun _ => xs) Q ?_ _ (hu.grew kk) (hv.grew kk) hdm (by omega) (slot1_new W' _ xo N1 xc rfl) (fun _ _ => hx.grew kk) (fun _ _ => hdx) (by omega)).mono ?_
    · rw [hQ]
      exact and_congr_right fun _ => ⟨fun h _ _ => h, fun h => h 0 (by omega)⟩
    · rintro e w' ⟨rfl, k'⟩
      exact ⟨rfl, (k.alloc _).trans k'⟩
  cases R
  · clear hu hv hx hy hz hdm hdr hdx hdy hdz hb hK hx0 hW k0 hL hM hLN1 hLN2 hLN3 hR hS hQ
    go_enter Tryz.func5, Tryz.ntmps5
    go_wp2_with (rw [← HW.out])
    refine hA.mono ?_
    rintro e w1 ⟨rfl, k1⟩
    obtain ⟨p0, p1, p2⟩ := JC.out _ k1
    have hF := JF.out _ k1
    clear hA
    go_wp2_with fail
    refine hF.mono ?_
    rintro e w2 ⟨rfl, k2⟩
    go_wp2_with fail
    go_ret
    exact ⟨rfl, below_kept (HK0.out.trans k2) (Nat.le_refl _)⟩
  · cases S
    · clear hu hv hx hy hz hdm hdr hdx hdy hdz hb hK hx0 hW k0 hL hM hLN1 hLN2 hLN3 hR hS hQ
      go_enter Tryz.func5, Tryz.ntmps5
      go_wp2_with (rw [← HW.out])
      refine hA.mono ?_
      rintro e w1 ⟨rfl, k1⟩
      obtain ⟨p0, p1, p2⟩ := JC.out _ k1
      have hF := JF.out _ k1
      clear hA
      go_wp2_with fail
      refine hF.mono ?_
      rintro e w2 ⟨rfl, k2⟩
      obtain ⟨q0, q1, q2⟩ := JC.out _ k2
      have hG := JG.out _ k2
      clear hF p0 p1 p2
      go_wp2_with fail
      refine hG.mono ?_
      rintro e w3 ⟨rfl, k3⟩
      go_wp2_with fail
      go_ret
      exact ⟨rfl, below_kept (HK0.out.trans k3) (Nat.le_refl _)⟩
    · have h1 := of_decide_eq_true hR.symm
      have h2 := of_decide_eq_true hS.symm
      have HL4 : Hid (L ≤ 40) := h1.1.1.1
      by_cases hd6 : 6 < N2
      · have g6 : (N2 : Int) > 6 := by omega
        have g6b : decide ((N2 : Int) > 6) = true := decide_eq_true g6
        clear hu hv hx hy hz hdm hdr hdx hdy hdz hb hK hx0 hW k0 hL hM hLN1 hLN2 hLN3 hR hS hQ h1 h2
        go_enter Tryz.func5, Tryz.ntmps5
        go_wp2_with (rw [← HW.out])
        refine hA.mono ?_
        rintro e w1 ⟨rfl, k1⟩
        obtain ⟨p0, p1, p2⟩ := JC.out _ k1
        have hF := JF.out _ k1
        clear hA
        go_wp2_with fail
        refine hF.mono ?_
        rintro e w2 ⟨rfl, k2⟩
        obtain ⟨q0, q1, q2⟩ := JC.out _ k2
        have hG := JG.out _ k2
        clear hF p0 p1 p2
        go_wp2_with fail
        refine hG.mono ?_
        rintro e w3 ⟨rfl, k3⟩
        go_wp2_with fail
        go_ret
        exact ⟨rfl, below_kept (HK0.out.trans k3) (Nat.le_refl _)⟩
      · have g6 : ¬ (N2 : Int) > 6 := by omega
        have g6b : decide ((N2 : Int) > 6) = false := decide_eq_false g6
        by_cases he6 : 6 < N3
        · have g7 : (N3 : Int) > 6 := by omega
          have g7b : decide ((N3 : Int) > 6) = true := decide_eq_true g7
          clear hu hv hx hy hz hdm hdr hdx hdy hdz hb hK hx0 hW k0 hL hM hLN1 hLN2 hLN3 hR hS hQ h1 h2
          go_enter Tryz.func5, Tryz.ntmps5
          go_wp2_with (rw [← HW.out])
          refine hA.mono ?_
          rintro e w1 ⟨rfl, k1⟩
          obtain ⟨p0, p1, p2⟩ := JC.out _ k1
          have hF := JF.out _ k1
          clear hA
          go_wp2_with fail
          refine hF.mono ?_
          rintro e w2 ⟨rfl, k2⟩
          obtain ⟨q0, q1, q2⟩ := JC.out _ k2
          have hG := JG.out _ k2
          clear hF p0 p1 p2
          go_wp2_with fail
          refine hG.mono ?_
          rintro e w3 ⟨rfl, k3⟩
          go_wp2_with fail
          go_ret
          exact ⟨rfl, below_kept (HK0.out.trans k3) (Nat.le_refl _)⟩
        · have g7 : ¬ (N3 : Int) > 6 := by omega
          have g7b : decide ((N3 : Int) > 6) = false := decide_eq_false g7
          cases Q
          · clear hu hv hx hy hz hdm hdr hdx hdy hdz hb hK hx0 hW k0 hL hM hLN1 hLN2 hLN3 hR hS hQ h1 h2
            go_enter Tryz.func5, Tryz.ntmps5
            go_wp2_with (rw [← HW.out])
            refine hA.mono ?_
            rintro e w1 ⟨rfl, k1⟩
            obtain ⟨p0, p1, p2⟩ := JC.out _ k1
            have hF := JF.out _ k1
            clear hA
            go_wp2_with fail
            refine hF.mono ?_
            rintro e w2 ⟨rfl, k2⟩
            obtain ⟨q0, q1, q2⟩ := JC.out _ k2
            have hG := JG.out _ k2
            clear hF p0 p1 p2
            go_wp2_with fail
            refine hG.mono ?_
            rintro e w3 ⟨rfl, k3⟩
            obtain ⟨r0, r1, r2⟩ := JC.out _ k3
            have hN := JM.out _ k3 HL4.out
            clear hG q0 q1 q2
            go_wp2_with fail
            refine hN.mono ?_
            rintro e w4 ⟨rfl, k4⟩
            go_wp2_with fail
            go_ret
            exact ⟨rfl, below_kept (HK0.out.trans k4) (Nat.le_refl _)⟩
          · obtain ⟨hok, rfl, hlt⟩ := hQ.1 rfl
            have hl10 := h1.2.1
            obtain ⟨f1, f2, f3, f4⟩ := hok.len
            have hVp : 0 < val 18446744073709551616 ms := by omega
            have hVN : val 18446744073709551616 ms < 18446744073709551616 ^ N1 := by rw [← hL.out]; exact val_lt (by omega) hdm
            obtain ⟨V, hV⟩ : ∃ V, V = val 18446744073709551616 ms := ⟨_, rfl⟩
            obtain ⟨X, hX⟩ : ∃ X, X = val 18446744073709551616 xs := ⟨_, rfl⟩
            obtain ⟨D, hD⟩ : ∃ D, D = val 18446744073709551616 ys := ⟨_, rfl⟩
            obtain ⟨E, hE⟩ : ∃ E, E = val 18446744073709551616 zs := ⟨_, rfl⟩
            have hDl : D < 18446744073709551616 ^ 6 := by rw [hD]; exact val_lt_le hdy (by rw [hLN2.out]; omega)
            have hEl : E < 18446744073709551616 ^ 6 := by rw [hE]; exact val_lt_le hdz (by rw [hLN3.out]; omega)
            have hws : max (wordsN (D + E)) 1 ≤ 7 := by have := sum_words hDl hEl; omega
            obtain ⟨NS, hNS⟩ : ∃ NS, NS = max (wordsN (D + E)) 1 := ⟨_, rfl⟩
            have hvs : val 18446744073709551616 (digs 18446744073709551616 (D + E) NS) = D + E := by
              rw [val_digs, Nat.mod_eq_of_lt]
              exact (wordsN_le _ _).1 (by omega)
            have hpw : ∀ P, val 18446744073709551616 (digs 18446744073709551616 (P % V) N1) = P % V := fun P => by
              rw [val_digs, Nat.mod_eq_of_lt]
              exact Nat.lt_trans (Nat.mod_lt _ (by omega)) (by rw [hV]; exact hVN)
            have J1 : Hid (∀ W', Kept Nought W W' → Calls Tryz.prog 17 #[.slice yo N2 yc] W' fun e w' => ∃ v', e = .returned v' ∧ IsBig w' v' D ∧ Kept Nought W' w') := fun W' k => by
              refine (rOf _ ys W' (hy.grew (k0.trans k)) hdy (by rw [hLN2.out]; omega)).mono ?_
              rintro e w' ⟨v', rfl, h3, _, h4⟩
              rw [hD]
              exact ⟨v', rfl, h3, h4⟩
            have J2 : Hid (∀ W', Kept Nought W W' → Calls Tryz.prog 17 #[.slice zo N3 zc] W' fun e w' => ∃ v', e = .returned v' ∧ IsBig w' v' E ∧ Kept Nought W' w') := fun W' k => by
              refine (rOf _ zs W' (hz.grew (k0.trans k)) hdz (by rw [hLN3.out]; omega)).mono ?_
              rintro e w' ⟨v', rfl, h3, _, h4⟩
              rw [hE]
              exact ⟨v', rfl, h3, h4⟩
            have hdl : dlen D ≤ 100000000 ∧ dlen E ≤ 100000000 := by
              have h3 := dlen_val6 hdy
              have h4 := dlen_val6 hdz
              rw [← hD, hLN2.out] at h3
              rw [← hE, hLN3.out] at h4
              omega
            have J3 : Hid (∀ W' (a b : Value), IsBig W' a D → IsBig W' b E → Calls Tryz.prog 16 #[a, b] W' fun e w' => ∃ v', e = .returned v' ∧ IsBig w' v' (D + E) ∧ Kept Nought W' w') := fun W' a b h3 h4 => by
              refine (rAdd a b D E W' h3 h4 hdl.1 hdl.2).mono ?_
              rintro e w' ⟨v', rfl, h5, _, h6⟩
              exact ⟨v', rfl, h5, h6⟩
            have J4 : Hid (∀ W' (a : Value), IsBig W' a (D + E) → Calls Tryz.prog 15 #[a] W' fun e w' => ∃ so sc, e = .returned (.slice so NS sc) ∧ Row .u64 w' (.slice so NS sc) (digs 18446744073709551616 (D + E) NS) ∧ Kept Nought W' w') := fun W' a h3 => by
              refine (rLeast a (D + E) W' h3).mono ?_
              rintro e w' ⟨v', rfl, h5, _, h6⟩
              rw [← hNS] at h5
              obtain ⟨so, sc, rfl⟩ := row_slice h5 (digs_length _ _ _)
              exact ⟨so, sc, rfl, h5, h6⟩
            have JX : Hid (∀ W' eo Ln ec es Z, Kept Nought W W' → Row .u64 W' (.slice eo Ln ec) es → Digs 18446744073709551616 es → Ln ≤ 300 → val 18446744073709551616 es = Z → Calls Tryz.prog 9 #[.pointer none, .agg #[.slice ao N1 cap, .int .u64 (K : Nat), .slice bo M dap], .slice xo N1 xc, .slice eo Ln ec] W' fun e w' => ∃ po pc, e = .returned (.tuple #[.slice po N1 pc, .int .i64 0]) ∧ Row .u64 w' (.slice po N1 pc) (digs 18446744073709551616 (X ^ Z % V) N1) ∧ Kept Nought W' w') := fun W' eo Ln ec es Z k he hde hLn hZ => by
              have kk := k0.trans k
              refine (exp8 ao bo xo eo N1 M K cap dap N1 xc Ln ec ms rs xs es 0 (.inl ⟨rfl, ⟨hok, rfl, hlt⟩, hLn⟩) _ rfl W' (hu.grew kk) (hv.grew kk) (hx.grew kk) he hdm hdr hdx hde hK (by omega)).mono ?_
              rintro e w' ⟨v', rfl, h3, h4⟩
              rw [if_pos rfl, hZ, ← hV, ← hX] at h3
              obtain ⟨po, pc, rfl⟩ := row_slice h3 (digs_length _ _ _)
              exact ⟨po, pc, rfl, h3, h4⟩
            have JMu : Hid (∀ W' po pc qo qc, Kept Nought W W' → Row .u64 W' (.slice po N1 pc) (digs 18446744073709551616 (X ^ D % V) N1) → Row .u64 W' (.slice qo N1 qc) (digs 18446744073709551616 (X ^ E % V) N1) → Calls Tryz.prog 18 #[.agg #[.slice ao N1 cap, .int .u64 (K : Nat), .slice bo M dap], .slice po N1 pc, .slice qo N1 qc] W' fun e w' => ∃ v', e = .returned (.tuple #[v', .int .i64 0]) ∧ Row .u64 w' v' (digs 18446744073709551616 (X ^ (D + E) % V) N1) ∧ Kept Nought W' w') := fun W' po pc qo qc k h3 h4 => by
              have kk := k0.trans k
              have hm1 : ∀ P, P % V < val 18446744073709551616 ms := fun P => by rw [← hV]; exact Nat.mod_lt _ (by omega)
              refine (q7Mul ao bo po qo N1 M N1 N1 cap dap pc qc K ms rs _ _ 0 (.inl ⟨rfl, hok, ⟨rfl, by rw [hpw]; exact hm1 _⟩, rfl, by rw [hpw]; exact hm1 _⟩) _ rfl W' (hu.grew kk) (hv.grew kk) h3 h4 hdm (digs_digs (by omega) _ _) (digs_digs (by omega) _ _) (by omega)).mono ?_
              rintro e w' ⟨v', rfl, h5, _, h6⟩
              rw [if_pos rfl, hpw, hpw, ← hV, ← Nat.mul_mod, ← Nat.pow_add] at h5
              exact ⟨v', rfl, h5, h6⟩
            have JS : Hid (∀ W' (u v : Value) (l : List Nat), Row .u64 W' u l → Row .u64 W' v l → Calls Tryz.prog 11 #[u, v] W' fun r w' => r = .returned (.bool true) ∧ Kept Nought W' w') := fun W' u v l h1 h2 => by
              refine (rSame u v l l W' h1 h2).mono ?_
              rintro e w' ⟨rfl, n, rfl⟩
              exact ⟨by rw [decide_eq_true rfl], (Kept.refl Nought W').drewN n⟩
            have HY : Hid (∀ W', Kept Nought W W' → Row .u64 W' (.slice yo N2 yc) ys ∧ Row .u64 W' (.slice zo N3 zc) zs) := fun W' k => ⟨hy.grew (k0.trans k), hz.grew (k0.trans k)⟩
            have HDg : Hid (Digs 18446744073709551616 ys ∧ Digs 18446744073709551616 zs ∧ val 18446744073709551616 ys = D ∧ val 18446744073709551616 zs = E) := ⟨hdy, hdz, hD.symm, hE.symm⟩
            have HVS := toHid hvs
            have HNS : Hid (NS ≤ 300 ∧ N2 ≤ 300 ∧ N3 ≤ 300) := ⟨by omega, by omega, by omega⟩
            clear hu hv hx hy hz hdm hdr hdx hdy hdz hb hK hx0 hW k0 hL hM hLN1 hLN2 hLN3 hR hS hQ h1 h2 hok hlt hl10 f1 f2 f3 f4 hVp hVN hV hX hD hE hDl hEl hws hNS hvs hpw hdl
            go_enter Tryz.func5, Tryz.ntmps5
            go_wp2_with (rw [← HW.out])
            refine hA.mono ?_
            rintro e w1 ⟨rfl, k1⟩
            obtain ⟨p0, p1, p2⟩ := JC.out _ k1
            have hF := JF.out _ k1
            clear hA
            go_wp2_with fail
            refine hF.mono ?_
            rintro e w2 ⟨rfl, k2⟩
            obtain ⟨q0, q1, q2⟩ := JC.out _ k2
            have hG := JG.out _ k2
            clear hF p0 p1 p2
            go_wp2_with fail
            refine hG.mono ?_
            rintro e w3 ⟨rfl, k3⟩
            obtain ⟨r0, r1, r2⟩ := JC.out _ k3
            have hN := JM.out _ k3 HL4.out
            clear hG q0 q1 q2
            go_wp2_with fail
            refine hN.mono ?_
            rintro e w4 ⟨rfl, k4⟩
            obtain ⟨s0, s1, s2⟩ := JC.out _ k4
            have hO1 := J1.out _ k4
            have K4 := toHid k4
            clear hN r0 r1 r2
            go_wp2_with fail
            refine hO1.mono ?_
            rintro e w5 ⟨v5, rfl, hb5, k5⟩
            have K5 := toHid (K4.out.trans k5)
            have hO2 := J2.out _ K5.out
            clear hO1 s0 s1 s2
            go_wp2_with fail
            refine hO2.mono ?_
            rintro e w6 ⟨v6, rfl, hb6, k6⟩
            have K6 := toHid (K5.out.trans k6)
            have hO3 := J3.out _ v5 v6 (hb5.grew k6) hb6
            clear hO2 hb5 hb6 k5 k6
            go_wp2_with fail
            refine hO3.mono ?_
            rintro e w7 ⟨v7, rfl, hb7, k7⟩
            have K7 := toHid (K6.out.trans k7)
            have hO4 := J4.out _ v7 hb7
            clear hO3 hb7 k7
            go_wp2_with fail
            refine hO4.mono ?_
            rintro e w8 ⟨so, sc, rfl, hr8, k8⟩
            have K8 := toHid (K7.out.trans k8)
            obtain ⟨t0, t1, t2⟩ := JC.out _ K8.out
            have hX1 := JX.out w8 so NS sc _ (D + E) K8.out hr8 (digs_digs (by omega) _ _) HNS.out.1 HVS.out
            clear hO4 hr8 k8
            go_wp2_with fail
            refine hX1.mono ?_
            rintro e w9 ⟨po, pc, rfl, hr9, k9⟩
            have K9 := toHid (K8.out.trans k9)
            obtain ⟨t0, t1, t2⟩ := JC.out _ K9.out
            have hX2 := JX.out w9 yo N2 yc ys D K9.out (HY.out _ K9.out).1 HDg.out.1 HNS.out.2.1 HDg.out.2.2.1
            have HR9 := toHid hr9
            clear hX1 hr9 k9
            go_wp2_with fail
            refine hX2.mono ?_
            rintro e w10 ⟨qo, qc, rfl, hr10, k10⟩
            have K10 := toHid (K9.out.trans k10)
            obtain ⟨t0, t1, t2⟩ := JC.out _ K10.out
            have hX3 := JX.out w10 zo N3 zc zs E K10.out (HY.out _ K10.out).2 HDg.out.2.1 HNS.out.2.2 HDg.out.2.2.2
            have HR9 := toHid (HR9.out.grew k10)
            have HR10 := toHid hr10
            clear hX2 hr10 k10
            go_wp2_with fail
            refine hX3.mono ?_
            rintro e w11 ⟨ro, rc, rfl, hr11, k11⟩
            have K11 := toHid (K10.out.trans k11)
            obtain ⟨t0, t1, t2⟩ := JC.out _ K11.out
            have hMu := JMu.out w11 qo qc ro rc K11.out (HR10.out.grew k11) hr11
            have HR9 := toHid (HR9.out.grew k11)
            clear hX3 hr11 k11 HR10
            go_wp2_with fail
            refine hMu.mono ?_
            rintro e w12 ⟨v12, rfl, hr12, k12⟩
            have K12 := toHid (K11.out.trans k12)
            have hSa := JS.out w12 _ v12 _ (HR9.out.grew k12) hr12
            clear hMu hr12 k12 HR9 t0 t1 t2
            go_wp2_with fail
            refine hSa.mono ?_
            rintro e w13 ⟨rfl, k13⟩
            go_wp2_with fail
            go_ret
            exact ⟨rfl, below_kept (HK0.out.trans (K12.out.trans k13)) (Nat.le_refl _)⟩

end Go.Proofs.YtoieghgaahfciaaGreat
