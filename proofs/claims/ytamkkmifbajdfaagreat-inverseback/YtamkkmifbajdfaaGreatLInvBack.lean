/- The law InverseBack, walked. -/
import Derived.Test.YtamkkmifbajdfaaGreatLaw10
import Derived.Test.YtamkkmifbajdfaaGreatRef7B
import Derived.Test.YtamkkmifbajdfaaGreatIvn9
import Derived.Test.YtamkkmifbajdfaaGreatOpenRow
namespace Go.Proofs.YtamkkmifbajdfaaGreat
open Go.RowKit

set_option maxRecDepth 20000 in
set_option maxHeartbeats 4000000 in
theorem walkInverseBack (u : Value) (ms : List Nat) (k : Int) (v : Value) (rs : List Nat) (x : Value) (xs : List Nat) (w : World) (hu : Row .u64 w u ms) (hv : Row .u64 w v rs) (hx : Row .u64 w x xs) (hdm : Digs 18446744073709551616 ms) (hdr : Digs 18446744073709551616 rs) (hdx : Digs 18446744073709551616 xs) (hb : (Lit.int .u64 k).wf = true) :
    Calls Tryz.prog 4 #[.agg #[u, .int .u64 k, v], x] w fun e w' => e = .returned (.bool true) ∧ Below w.heap.size w w' := by
  obtain ⟨K, rfl, hK⟩ : ∃ D : Nat, k = (D : Int) ∧ D < 18446744073709551616 := by
    have := wf_u64 k hb
    exact ⟨k.toNat, by omega, by omega⟩
  obtain ⟨ao, L, cap, rfl, hL, _, _, _, _⟩ := hu.open
  obtain ⟨bo, M, dap, rfl, hM, _, _, _, _⟩ := hv.open
  obtain ⟨xo, N1, xc, rfl, hLN1, _, _, _, _⟩ := hx.open
  obtain ⟨W, hW⟩ : ∃ W, W = w.alloc (.cells #[.slice ao L cap, .int .u64 (K : Nat), .slice bo M dap] 34) := ⟨_, rfl⟩
  have k0 : Kept Nought w W := by rw [hW]; exact (Kept.refl Nought w).alloc _
  have hx0 : W.heap[w.heap.size]? = some (.cells #[.slice ao L cap, .int .u64 (K : Nat), .slice bo M dap] 34 (0, 0)) := by rw [hW]; exact heap_alloc_new _ _
  have hA := f10Awake W
  have JC : Hid (∀ W', Kept Nought W W' → W'.cell? ⟨w.heap.size, 0, none⟩ = some (.slice ao L cap) ∧ W'.cell? ⟨w.heap.size, 1, none⟩ = some (.int .u64 (K : Nat)) ∧ W'.cell? ⟨w.heap.size, 2, none⟩ = some (.slice bo M dap)) := fun W' k => cells3 ((k.block _ (lt_of_block hx0) (fun f => f)).trans hx0)
  have HW := toHid hW
  have HK0 := toHid k0
  obtain ⟨R, hR⟩ : ∃ R : Bool, R = decide (((L ≤ 40 ∧ M ≤ 40) ∧ N1 ≤ 40) ∧ L ≤ 10 ∧ ((0 : Nat) ≤ 6 ∨ (0 : Nat) = 301)) := ⟨_, rfl⟩
  have JF : Hid (∀ W', Kept Nought W W' → Calls Tryz.prog 12 #[.agg #[.slice ao L cap, .int .u64 (K : Nat), .slice bo M dap], .slice xo N1 xc, .slice none 0 0] W' fun r w' => r = .returned (.bool R) ∧ Kept Nought W w') := fun W' k => by
    refine (f8Few ao bo xo none L M N1 0 cap dap xc 0 (K : Nat) W' R hR).mono ?_
    rintro e w' ⟨rfl, k'⟩
    exact ⟨rfl, k.trans k'⟩
  by_cases h4 : ((L ≤ 40 ∧ M ≤ 40) ∧ N1 ≤ 40) ∧ L ≤ 10 ∧ ((0 : Nat) ≤ 6 ∨ (0 : Nat) = 301)
  · obtain rfl : R = true := by rw [hR]; exact decide_eq_true h4
    by_cases h5 : L ≤ 5
    · have g5 : ¬ (L : Int) > 5 := by omega
      obtain ⟨Q, hQ⟩ : ∃ Q : Bool, (Q = true ↔ okMod ms K rs ∧ (N1 = L ∧ val 18446744073709551616 xs < val 18446744073709551616 ms)) := by
        by_cases h : okMod ms K rs ∧ (N1 = L ∧ val 18446744073709551616 xs < val 18446744073709551616 ms)
        · exact ⟨true, iff_of_true rfl h⟩
        · exact ⟨false, iff_of_false (by decide) h⟩
      have JM : Hid (∀ W', Kept Nought W W' → Calls Tryz.prog 13 #[.agg #[.slice ao L cap, .int .u64 (K : Nat), .slice bo M dap], .slice (some ⟨W'.heap.size, 0, none⟩) 1 1] (W'.alloc (.cells #[.slice xo N1 xc] 23)) fun r w' => r = .returned (.bool Q) ∧ Kept Nought W w') := fun W' k => by
        have ka := (Kept.refl Nought W').alloc (.cells #[.slice xo N1 xc] 23)
        have kk := k0.trans (k.trans ka)
        refine (q7Members ao bo L M cap dap K ms rs _ 1 1 _ _ _ (fun _ => xs) Q (hQ.trans ⟨fun h => ⟨h.1, fun _ _ => h.2⟩, fun h => ⟨h.1, h.2 0 (by omega)⟩⟩) _ (hu.grew kk) (hv.grew kk) hdm (by omega) (slot1_new W' _ xo N1 xc rfl) (fun _ _ => hx.grew kk) (fun _ _ => hdx) (by omega)).mono ?_
        rintro e w' ⟨rfl, k'⟩
        exact ⟨rfl, (k.trans ka).trans k'⟩
      have J1 : Hid (∀ W', Kept Nought W W' → Calls Tryz.prog 14 #[.pointer none, .agg #[.slice ao L cap, .int .u64 (K : Nat), .slice bo M dap], .slice xo N1 xc] W' fun e w' => ∃ (v' : Value) (F E : Nat), e = .returned (.tuple #[v', .int .u64 (F : Nat), .int .i64 (E : Nat)]) ∧ ∃ T RL, Row .u64 w' v' RL ∧ Kept Nought W' w' ∧ Hid (Of10 (okMod ms K rs ∧ (N1 = L ∧ val 18446744073709551616 xs < val 18446744073709551616 ms)) L (val 18446744073709551616 xs) (val 18446744073709551616 ms) E T F RL)) := fun W' k => of10 ao bo xo L M K cap dap N1 xc ms rs xs W' (hu.grew (k0.trans k)) (hv.grew (k0.trans k)) (hx.grew (k0.trans k)) hdm hdr hdx hK (by omega)
      by_cases h6 : okMod ms K rs ∧ (N1 = L ∧ val 18446744073709551616 xs < val 18446744073709551616 ms)
      · obtain rfl : Q = true := hQ.2 h6
        have f := h6.1.facts hL.out hM.out hdm hdr hK
        have hm2 := (montE_ok h6.1.1).2.1
        have hol : okLen N1 L = true := by unfold okLen; exact decide_eq_true (by omega)
        have JU : Hid (∀ W' v' T, T < val 18446744073709551616 ms → Kept Nought W W' → Row .u64 W' v' (digs 18446744073709551616 T L) → Calls Tryz.prog 15 #[.agg #[.slice ao L cap, .int .u64 (K : Nat), .slice bo M dap], .slice xo N1 xc, v'] W' fun e w' => ∃ v2, e = .returned (.tuple #[v2, .int .i64 0]) ∧ Row .u64 w' v2 (digs 18446744073709551616 (val 18446744073709551616 xs * T % val 18446744073709551616 ms) L) ∧ Kept Nought W' w') := fun W' v' T hT k hr => by
          obtain ⟨yo, yn, yc, rfl, hyl, _⟩ := hr.open
          have e1 : yn = L := by rw [← hyl.out, digs_length]
          subst e1
          have e2 : val 18446744073709551616 (digs 18446744073709551616 T yn) = T := num_val (by have := f.2.2.2.2.2.1; omega)
          refine (q7Mul ao bo xo yo yn M N1 yn cap dap xc yc K ms rs xs _ 0 (.inl ⟨rfl, h6.1, h6.2, rfl, by rw [e2]; exact hT⟩) _ rfl W' (hu.grew (k0.trans k)) (hv.grew (k0.trans k)) (hx.grew (k0.trans k)) hr hdm hdx (digs_digs (by omega) _ _) (by omega)).mono ?_
          rintro e w' ⟨v2, rfl, h1, _, h2⟩
          rw [if_pos rfl, e2] at h1
          exact ⟨v2, rfl, h1, h2⟩
        have JS1 : Hid (∀ W', Calls Tryz.prog 18 #[.int .u64 1] W' fun r w' => ∃ v', r = .returned v' ∧ IsBig w' v' 1 ∧ Kept Nought W' w') := fun W' => by
          refine (rSmall 1 (by omega) W').mono ?_
          rintro e w' ⟨v', rfl, h1, _, h2⟩
          exact ⟨v', rfl, h1, h2⟩
        by_cases hg : Nat.gcd (val 18446744073709551616 xs) (val 18446744073709551616 ms) = 1
        · have HG : Hid (∀ E T F RL, Of10 (okMod ms K rs ∧ (N1 = L ∧ val 18446744073709551616 xs < val 18446744073709551616 ms)) L (val 18446744073709551616 xs) (val 18446744073709551616 ms) E T F RL → E = 0 ∧ RL = digs 18446744073709551616 T L ∧ T < val 18446744073709551616 ms ∧ F = 1) := fun E T F RL h => by
            obtain ⟨g1, g2, g3, g4⟩ := h
            rcases g1 with ⟨rfl, _⟩ | ⟨_, hn⟩
            · rw [if_pos rfl] at g4
              obtain ⟨a1, a2, a3⟩ := (g2 rfl).1 hg
              exact ⟨rfl, g4, a1, a3⟩
            · exact absurd h6 hn
          have HP1 : Hid (∀ E T F RL, Of10 (okMod ms K rs ∧ (N1 = L ∧ val 18446744073709551616 xs < val 18446744073709551616 ms)) L (val 18446744073709551616 xs) (val 18446744073709551616 ms) E T F RL → val 18446744073709551616 xs * T % val 18446744073709551616 ms = 1) := fun E T F RL h => by
            obtain ⟨g1, g2, g3, g4⟩ := h
            rcases g1 with ⟨rfl, _⟩ | ⟨_, hn⟩
            · exact ((g2 rfl).1 hg).2.1
            · exact absurd h6 hn
          have JP : Hid (∀ W', Kept Nought W W' → Calls Tryz.prog 10 #[.slice xo N1 xc, .slice ao L cap] W' fun r w' => r = .returned (.bool true) ∧ Kept Nought W' w') := fun W' k => iCoprime xo ao N1 L xc cap xs ms true (decide_eq_true ⟨hol, hg⟩).symm W' (hx.grew (k0.trans k)) (hu.grew (k0.trans k)) hdx hdm
          have JO : Hid (∀ W' v', Row .u64 W' v' (digs 18446744073709551616 1 L) → Calls Tryz.prog 17 #[v'] W' fun r w' => ∃ v2, r = .returned v2 ∧ IsBig w' v2 1 ∧ Kept Nought W' w') := fun W' v' h => by
            refine (rOf v' _ W' h (digs_digs (by omega) _ _) (by rw [digs_length]; omega)).mono ?_
            rintro e w' ⟨v2, rfl, h1, _, h2⟩
            rw [num_val (by have := f.2.2.2.2.2.1; omega)] at h1
            exact ⟨v2, rfl, h1, h2⟩
          clear hu hv hx hdm hdr hdx hb hK hR hx0 hW k0 hL hM hLN1 h4 h6 f hm2 hQ hol hg
          go_enter Tryz.func4, Tryz.ntmps4
          go_wp2_with (rw [← HW.out])
          refine hA.mono ?_
          rintro e w1 ⟨rfl, k1⟩
          obtain ⟨p0, p1, p2⟩ := JC.out _ k1
          have hF := JF.out _ k1
          clear hA
          go_wp2_with fail
          refine hF.mono ?_
          rintro e w2 ⟨rfl, k2⟩
          obtain ⟨q0, q1, q2⟩ := JC.out _ k2
          clear hF p0 p1 p2
          have hMm := JM.out _ k2
          go_wp2_with fail
          refine hMm.mono ?_
          rintro e w3 ⟨rfl, k3⟩
          obtain ⟨p0, p1, p2⟩ := JC.out _ k3
          have hC := J1.out _ k3
          clear hMm q0 q1 q2
          go_wp2_with fail
          refine hC.mono ?_
          rintro e w4 ⟨v4, F, E, rfl, T, RL, hr4, kk, H10⟩
          have hPr := HP1.out E T F RL H10.out
          obtain ⟨rfl, rfl, hT, rfl⟩ := HG.out E T F RL H10.out
          have k4 := k3.trans kk
          obtain ⟨q0, q1, q2⟩ := JC.out _ k4
          have hCp := JP.out _ k4
          clear hC p0 p1 p2 H10 kk
          go_wp2_with fail
          refine hCp.mono ?_
          rintro e w5 ⟨rfl, k5⟩
          obtain ⟨p0, p1, p2⟩ := JC.out _ (k4.trans k5)
          have hMu := JU.out _ v4 T hT (k4.trans k5) (hr4.grew k5)
          clear hCp q0 q1 q2 hr4
          go_wp2_with fail
          refine hMu.mono ?_
          rintro e w6 ⟨v6, rfl, hr6, k6⟩
          rw [hPr] at hr6
          have k7 := (k4.trans k5).trans k6
          clear hMu p0 p1 p2
          clear hPr
          have hO := JO.out _ v6 hr6
          clear hr6
          go_wp2_with fail
          refine hO.mono ?_
          rintro e w7 ⟨v7, rfl, hb7, k8⟩
          have hS1 := JS1.out w7
          clear hO
          go_wp2_with fail
          refine hS1.mono ?_
          rintro e w8 ⟨v8, rfl, hb8, k9⟩
          have hCm := rCmp v7 v8 1 1 w8 (hb7.grew k9) hb8
          rw [cmpN_eq rfl] at hCm
          clear hS1
          go_wp2_with fail
          refine hCm.mono ?_
          rintro e w9 ⟨rfl, nn, rfl⟩
          go_wp2_with fail
          go_ret
          exact ⟨by first | rfl | simp, below_kept (HK0.out.trans (((k7.trans k8).trans k9).drewN nn)) (Nat.le_refl _)⟩
        · have HG : Hid (∀ E T F RL, Of10 (okMod ms K rs ∧ (N1 = L ∧ val 18446744073709551616 xs < val 18446744073709551616 ms)) L (val 18446744073709551616 xs) (val 18446744073709551616 ms) E T F RL → E = 0 ∧ RL = digs 18446744073709551616 T L ∧ T < val 18446744073709551616 ms ∧ F = 0) := fun E T F RL h => by
            obtain ⟨g1, g2, g3, g4⟩ := h
            rcases g1 with ⟨rfl, _⟩ | ⟨_, hn⟩
            · rw [if_pos rfl] at g4
              obtain ⟨a1, a2⟩ := (g2 rfl).2 hg
              exact ⟨rfl, g4, by omega, a2⟩
            · exact absurd h6 hn
          have JP : Hid (∀ W', Kept Nought W W' → Calls Tryz.prog 10 #[.slice xo N1 xc, .slice ao L cap] W' fun r w' => r = .returned (.bool false) ∧ Kept Nought W' w') := fun W' k => iCoprime xo ao N1 L xc cap xs ms false (decide_eq_false (fun h => hg h.2)).symm W' (hx.grew (k0.trans k)) (hu.grew (k0.trans k)) hdx hdm
          clear hu hv hx hdm hdr hdx hb hK hR hx0 hW k0 hL hM hLN1 h4 h6 f hm2 hQ hol hg
          go_enter Tryz.func4, Tryz.ntmps4
          go_wp2_with (rw [← HW.out])
          refine hA.mono ?_
          rintro e w1 ⟨rfl, k1⟩
          obtain ⟨p0, p1, p2⟩ := JC.out _ k1
          have hF := JF.out _ k1
          clear hA
          go_wp2_with fail
          refine hF.mono ?_
          rintro e w2 ⟨rfl, k2⟩
          obtain ⟨q0, q1, q2⟩ := JC.out _ k2
          clear hF p0 p1 p2
          have hMm := JM.out _ k2
          go_wp2_with fail
          refine hMm.mono ?_
          rintro e w3 ⟨rfl, k3⟩
          obtain ⟨p0, p1, p2⟩ := JC.out _ k3
          have hC := J1.out _ k3
          clear hMm q0 q1 q2
          go_wp2_with fail
          refine hC.mono ?_
          rintro e w4 ⟨v4, F, E, rfl, T, RL, hr4, kk, H10⟩
          obtain ⟨rfl, rfl, hT, rfl⟩ := HG.out E T F RL H10.out
          have k4 := k3.trans kk
          obtain ⟨q0, q1, q2⟩ := JC.out _ k4
          have hCp := JP.out _ k4
          clear hC p0 p1 p2 H10 kk
          go_wp2_with fail
          refine hCp.mono ?_
          rintro e w5 ⟨rfl, k5⟩
          obtain ⟨p0, p1, p2⟩ := JC.out _ (k4.trans k5)
          have hMu := JU.out _ v4 T hT (k4.trans k5) (hr4.grew k5)
          clear hCp q0 q1 q2 hr4
          go_wp2_with fail
          refine hMu.mono ?_
          rintro e w6 ⟨v6, rfl, hr6, k6⟩
          have k7 := (k4.trans k5).trans k6
          clear hMu p0 p1 p2
          clear hr6
          go_wp2_with fail
          go_ret
          exact ⟨by first | rfl | simp, below_kept (HK0.out.trans k7) (Nat.le_refl _)⟩
      · obtain rfl : Q = false := Bool.eq_false_iff.2 (fun h => h6 (hQ.1 h))
        clear hu hv hx hdm hdr hdx hb hK hR hx0 hW k0 hL hM hLN1 h4
        clear h6 hQ
        go_enter Tryz.func4, Tryz.ntmps4
        go_wp2_with (rw [← HW.out])
        refine hA.mono ?_
        rintro e w1 ⟨rfl, k1⟩
        obtain ⟨p0, p1, p2⟩ := JC.out _ k1
        have hF := JF.out _ k1
        clear hA
        go_wp2_with fail
        refine hF.mono ?_
        rintro e w2 ⟨rfl, k2⟩
        obtain ⟨q0, q1, q2⟩ := JC.out _ k2
        clear hF p0 p1 p2
        have hMm := JM.out _ k2
        go_wp2_with fail
        refine hMm.mono ?_
        rintro e w3 ⟨rfl, k3⟩
        go_wp2_with fail
        go_ret
        exact ⟨rfl, below_kept (HK0.out.trans k3) (Nat.le_refl _)⟩
    · have g5 : (L : Int) > 5 := by omega
      clear hu hv hx hdm hdr hdx hb hK hR hx0 hW k0 hL hM hLN1 h4
      clear h5
      go_enter Tryz.func4, Tryz.ntmps4
      go_wp2_with (rw [← HW.out])
      refine hA.mono ?_
      rintro e w1 ⟨rfl, k1⟩
      obtain ⟨p0, p1, p2⟩ := JC.out _ k1
      have hF := JF.out _ k1
      clear hA
      go_wp2_with fail
      refine hF.mono ?_
      rintro e w2 ⟨rfl, k2⟩
      obtain ⟨q0, q1, q2⟩ := JC.out _ k2
      clear hF p0 p1 p2
      go_wp2_with fail
      go_ret
      exact ⟨rfl, below_kept (HK0.out.trans k2) (Nat.le_refl _)⟩
  · obtain rfl : R = false := by rw [hR]; exact decide_eq_false h4
    clear hu hv hx hdm hdr hdx hb hK hR hx0 hW k0 hL hM hLN1 h4
    go_enter Tryz.func4, Tryz.ntmps4
    go_wp2_with (rw [← HW.out])
    refine hA.mono ?_
    rintro e w1 ⟨rfl, k1⟩
    obtain ⟨p0, p1, p2⟩ := JC.out _ k1
    have hF := JF.out _ k1
    clear hA
    go_wp2_with fail
    refine hF.mono ?_
    rintro e w2 ⟨rfl, k2⟩
    obtain ⟨q0, q1, q2⟩ := JC.out _ k2
    clear hF p0 p1 p2
    go_wp2_with fail
    go_ret
    exact ⟨rfl, below_kept (HK0.out.trans k2) (Nat.le_refl _)⟩

end Go.Proofs.YtamkkmifbajdfaaGreat
