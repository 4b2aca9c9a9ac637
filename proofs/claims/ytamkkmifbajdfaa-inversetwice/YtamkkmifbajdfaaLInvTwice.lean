/- The law InverseTwice, walked. -/
import Derived.Test.YtamkkmifbajdfaaLaw10
import Derived.Test.YtamkkmifbajdfaaRef7A
import Derived.Test.YtamkkmifbajdfaaOpenRow
namespace Go.Proofs.Ytamkkmifbajdfaa
open Go.RowKit

/-- The inverse of an inverse. -/
theorem inv_twice {A M T F T2 F2 : Nat} (hM : 2 ≤ M) (hA : A < M) (h1 : IsInv A M T F) (h2 : IsInv T M T2 F2) (hF : F = 1) : T2 = A ∧ F2 = 1 := by
  have hg : Nat.gcd A M = 1 := by
    by_cases h : Nat.gcd A M = 1
    · exact h
    · have := (h1.2 h).2
      omega
  obtain ⟨a1, a2, _⟩ := h1.1 hg
  have hk : IsInv T M A 1 := by
    have hc : Nat.gcd T M = 1 := by
      obtain ⟨d, hd⟩ : ∃ d, d = Nat.gcd T M := ⟨_, rfl⟩
      have e1 : d ∣ A * T := by rw [hd]; exact Nat.dvd_trans (Nat.gcd_dvd_left _ _) ⟨A, Nat.mul_comm _ _⟩
      have e2 : d ∣ M := by rw [hd]; exact Nat.gcd_dvd_right _ _
      have e3 : d ∣ A * T % M := (Nat.dvd_mod_iff e2).2 e1
      rw [a2] at e3
      rw [← hd]
      exact Nat.dvd_one.1 e3
    exact ⟨fun _ => ⟨hA, by rw [Nat.mul_comm]; exact a2, rfl⟩, fun h => absurd hc h⟩
  exact h2.uniq hM hk

set_option maxRecDepth 20000 in
set_option maxHeartbeats 4000000 in
theorem walkInverseTwice (u : Value) (ms : List Nat) (k : Int) (v : Value) (rs : List Nat) (x : Value) (xs : List Nat) (w : World) (hu : Row .u64 w u ms) (hv : Row .u64 w v rs) (hx : Row .u64 w x xs) (hdm : Digs 18446744073709551616 ms) (hdr : Digs 18446744073709551616 rs) (hdx : Digs 18446744073709551616 xs) (hb : (Lit.int .u64 k).wf = true) :
    Calls Try.prog 6 #[.agg #[u, .int .u64 k, v], x] w fun e w' => e = .returned (.bool true) ∧ Below w.heap.size w w' := by
  obtain ⟨K, rfl, hK⟩ : ∃ D : Nat, k = (D : Int) ∧ D < 18446744073709551616 := by
    have := wf_u64 k hb
    exact ⟨k.toNat, by omega, by omega⟩
  obtain ⟨ao, L, cap, rfl, hL, _, _, _, _⟩ := hu.open
  obtain ⟨bo, M, dap, rfl, hM, _, _, _, _⟩ := hv.open
  obtain ⟨xo, N1, xc, rfl, hLN1, _, _, _, _⟩ := hx.open
  obtain ⟨W, hW⟩ : ∃ W, W = w.alloc (.cells #[.slice ao L cap, .int .u64 (K : Nat), .slice bo M dap] 29) := ⟨_, rfl⟩
  have k0 : Kept Nought w W := by rw [hW]; exact (Kept.refl Nought w).alloc _
  have hx0 : W.heap[w.heap.size]? = some (.cells #[.slice ao L cap, .int .u64 (K : Nat), .slice bo M dap] 29 (0, 0)) := by rw [hW]; exact heap_alloc_new _ _
  have hA := f10Awake W
  have JC : Hid (∀ W', Kept Nought W W' → W'.cell? ⟨w.heap.size, 0, none⟩ = some (.slice ao L cap) ∧ W'.cell? ⟨w.heap.size, 1, none⟩ = some (.int .u64 (K : Nat)) ∧ W'.cell? ⟨w.heap.size, 2, none⟩ = some (.slice bo M dap)) := fun W' k => cells3 ((k.block _ (lt_of_block hx0) (fun f => f)).trans hx0)
  have HW := toHid hW
  have HK0 := toHid k0
  obtain ⟨R, hR⟩ : ∃ R : Bool, R = decide (((L ≤ 40 ∧ M ≤ 40) ∧ N1 ≤ 40) ∧ L ≤ 10 ∧ ((0 : Nat) ≤ 6 ∨ (0 : Nat) = 301)) := ⟨_, rfl⟩
  have JF : Hid (∀ W', Kept Nought W W' → Calls Try.prog 10 #[.agg #[.slice ao L cap, .int .u64 (K : Nat), .slice bo M dap], .slice xo N1 xc, .slice none 0 0] W' fun r w' => r = .returned (.bool R) ∧ Kept Nought W w') := fun W' k => by
    refine (f8Few ao bo xo none L M N1 0 cap dap xc 0 (K : Nat) W' R hR).mono ?_
    rintro e w' ⟨rfl, k'⟩
    exact ⟨rfl, k.trans k'⟩
  by_cases h4 : ((L ≤ 40 ∧ M ≤ 40) ∧ N1 ≤ 40) ∧ L ≤ 10 ∧ ((0 : Nat) ≤ 6 ∨ (0 : Nat) = 301)
  · obtain rfl : R = true := by rw [hR]; exact decide_eq_true h4
    by_cases h5 : L ≤ 4
    · have g5 : ¬ (L : Int) > 4 := by omega
      obtain ⟨Q, hQ⟩ : ∃ Q : Bool, (Q = true ↔ okMod ms K rs ∧ (N1 = L ∧ val 18446744073709551616 xs < val 18446744073709551616 ms)) := by
        by_cases h : okMod ms K rs ∧ (N1 = L ∧ val 18446744073709551616 xs < val 18446744073709551616 ms)
        · exact ⟨true, iff_of_true rfl h⟩
        · exact ⟨false, iff_of_false (by decide) h⟩
      have JM : Hid (∀ W', Kept Nought W W' → Calls Try.prog 14 #[.agg #[.slice ao L cap, .int .u64 (K : Nat), .slice bo M dap], .slice (some ⟨W'.heap.size, 0, none⟩) 1 1] (W'.alloc (.cells #[.slice xo N1 xc] 26)) fun r w' => r = .returned (.bool Q) ∧ Kept Nought W w') := fun W' k => by
        have ka := (Kept.refl Nought W').alloc (.cells #[.slice xo N1 xc] 26)
        have kk := k0.trans (k.trans ka)
        refine (q7Members ao bo L M cap dap K ms rs _ 1 1 _ _ _ (fun _ => xs) Q (hQ.trans ⟨fun h => ⟨h.1, fun _ _ => h.2⟩, fun h => ⟨h.1, h.2 0 (by omega)⟩⟩) _ (hu.grew kk) (hv.grew kk) hdm (by omega) (slot1_new W' _ xo N1 xc rfl) (fun _ _ => hx.grew kk) (fun _ _ => hdx) (by omega)).mono ?_
        rintro e w' ⟨rfl, k'⟩
        exact ⟨rfl, (k.trans ka).trans k'⟩
      have J1 : Hid (∀ W', Kept Nought W W' → Calls Try.prog 11 #[.pointer none, .agg #[.slice ao L cap, .int .u64 (K : Nat), .slice bo M dap], .slice xo N1 xc] W' fun e w' => ∃ (v' : Value) (F E : Nat), e = .returned (.tuple #[v', .int .u64 (F : Nat), .int .i64 (E : Nat)]) ∧ ∃ T RL, Row .u64 w' v' RL ∧ Kept Nought W' w' ∧ Hid (Of10 (okMod ms K rs ∧ (N1 = L ∧ val 18446744073709551616 xs < val 18446744073709551616 ms)) L (val 18446744073709551616 xs) (val 18446744073709551616 ms) E T F RL)) := fun W' k => of10 ao bo xo L M K cap dap N1 xc ms rs xs W' (hu.grew (k0.trans k)) (hv.grew (k0.trans k)) (hx.grew (k0.trans k)) hdm hdr hdx hK (by omega)
      by_cases h6 : okMod ms K rs ∧ (N1 = L ∧ val 18446744073709551616 xs < val 18446744073709551616 ms)
      · obtain rfl : Q = true := hQ.2 h6
        have f := h6.1.facts hL.out hM.out hdm hdr hK
        have hm2 := (montE_ok h6.1.1).2.1
        have J2 : Hid (∀ W' v' T, T < val 18446744073709551616 ms → Kept Nought W W' → Row .u64 W' v' (digs 18446744073709551616 T L) → Calls Try.prog 11 #[.pointer none, .agg #[.slice ao L cap, .int .u64 (K : Nat), .slice bo M dap], v'] W' fun e w' => ∃ (v2 : Value) (F E : Nat), e = .returned (.tuple #[v2, .int .u64 (F : Nat), .int .i64 (E : Nat)]) ∧ ∃ T2 RL, Row .u64 w' v2 RL ∧ Kept Nought W' w' ∧ Hid (E = 0 ∧ IsInv T (val 18446744073709551616 ms) T2 F ∧ RL = digs 18446744073709551616 T2 L)) := fun W' v' T hT k hr => by
          obtain ⟨yo, yn, yc, rfl, hyl, _⟩ := hr.open
          have e1 : yn = L := by rw [← hyl.out, digs_length]
          subst e1
          have e2 : val 18446744073709551616 (digs 18446744073709551616 T yn) = T := num_val (by have := f.2.2.2.2.2.1; omega)
          refine (of10 ao bo yo yn M K cap dap yn yc ms rs _ W' (hu.grew (k0.trans k)) (hv.grew (k0.trans k)) hr hdm hdr (digs_digs (by omega) _ _) hK (by omega)).mono ?_
          rintro e w' ⟨v2, F, E, rfl, T2, RL, h1, h2, h3⟩
          have h3' := h3.out
          rw [e2] at h3'
          obtain ⟨g1, g2, g3, g4⟩ := h3'
          rcases g1 with ⟨rfl, _⟩ | ⟨_, hn⟩
          · rw [if_pos rfl] at g4
            exact ⟨v2, F, 0, rfl, T2, RL, h1, h2, rfl, g2 rfl, g4⟩
          · exact absurd ⟨h6.1, rfl, hT⟩ hn
        have HG : Hid (∀ E T F RL, Of10 (okMod ms K rs ∧ (N1 = L ∧ val 18446744073709551616 xs < val 18446744073709551616 ms)) L (val 18446744073709551616 xs) (val 18446744073709551616 ms) E T F RL → E = 0 ∧ RL = digs 18446744073709551616 T L ∧ T < val 18446744073709551616 ms ∧ IsInv (val 18446744073709551616 xs) (val 18446744073709551616 ms) T F ∧ (F = 0 ∨ F = 1)) := fun E T F RL h => by
          obtain ⟨g1, g2, g3, g4⟩ := h
          rcases g1 with ⟨rfl, _⟩ | ⟨_, hn⟩
          · rw [if_pos rfl] at g4
            have hi := g2 rfl
            by_cases hg : Nat.gcd (val 18446744073709551616 xs) (val 18446744073709551616 ms) = 1
            · obtain ⟨a1, a2, a3⟩ := hi.1 hg
              exact ⟨rfl, g4, a1, hi, .inr a3⟩
            · obtain ⟨a1, a2⟩ := hi.2 hg
              exact ⟨rfl, g4, by omega, hi, .inl a2⟩
          · exact absurd h6 hn
        have HB2 : Hid (∀ T F T2 F2, IsInv (val 18446744073709551616 xs) (val 18446744073709551616 ms) T F → IsInv T (val 18446744073709551616 ms) T2 F2 → F = 1 → F2 = 1 ∧ digs 18446744073709551616 T2 L = xs) := fun T F T2 F2 h1 h2 h3 => by
          have := inv_twice hm2 h6.2.2 h1 h2 h3
          refine ⟨this.2, ?_⟩
          rw [this.1, ← h6.2.1, ← hLN1.out]
          exact digs_val_self hdx
        have JX : Hid (∀ W', Kept Nought W W' → Row .u64 W' (.slice xo N1 xc) xs) := fun W' k => hx.grew (k0.trans k)
        have JS : Hid (∀ W' (u v : Value) (l : List Nat), Row .u64 W' u l → Row .u64 W' v l → Calls Try.prog 13 #[u, v] W' fun r w' => r = .returned (.bool true) ∧ Kept Nought W' w') := fun W' u v l h1 h2 => by
          refine (rSame u v l l W' h1 h2).mono ?_
          rintro e w' ⟨rfl, n, rfl⟩
          exact ⟨by rw [decide_eq_true rfl], (Kept.refl Nought W').drewN n⟩
        clear hu hv hx hdm hdr hdx hb hK hR hx0 hW k0 hL hM hLN1 h4 h6 f hm2 hQ
        go_enter Try.func6, Try.ntmps6
        go_wp2_with (rw [← HW.out])
        refine hA.mono ?_
        rintro e w1 ⟨rfl, k1⟩
        obtain ⟨p0, p1, p2⟩ := JC.out _ k1
        have hF := JF.out _ k1
        clear hA
        go_wp2_with fail
        refine hF.mono ?_
        rintro e w2 ⟨rfl, k2⟩
        obtain ⟨q0, q1, q2⟩ := JC.out _ k2
        clear hF p0 p1 p2
        have hMm := JM.out _ k2
        go_wp2_with fail
        refine hMm.mono ?_
        rintro e w3 ⟨rfl, k3⟩
        obtain ⟨p0, p1, p2⟩ := JC.out _ k3
        have hC := J1.out _ k3
        clear hMm q0 q1 q2
        go_wp2_with fail
        refine hC.mono ?_
        rintro e w4 ⟨v4, F, E, rfl, T, RL, hr4, kk, H10⟩
        obtain ⟨rfl, rfl, hT, hI, hF01⟩ := HG.out E T F RL H10.out
        have k4 := k3.trans kk
        obtain ⟨q0, q1, q2⟩ := JC.out _ k4
        have hC2 := J2.out _ v4 T hT k4 hr4
        clear hC p0 p1 p2 H10 hr4 kk
        go_wp2_with fail
        refine hC2.mono ?_
        rintro e w5 ⟨v5, F2, E2, rfl, T2, RL2, hr5, kk, H2⟩
        obtain ⟨rfl, hI2, rfl⟩ := H2.out
        have k5 := k4.trans kk
        clear hC2 q0 q1 q2
        rcases hF01 with rfl | rfl
        · clear hI hI2
          go_wp2_with fail
          go_ret
          exact ⟨rfl, below_kept (HK0.out.trans k5) (Nat.le_refl _)⟩
        · obtain ⟨rfl, hT2⟩ := HB2.out T 1 T2 F2 hI hI2 rfl
          rw [hT2] at hr5
          have hS := JS.out w5 v5 _ xs hr5 (JX.out w5 k5)
          clear hI hI2 hT2 hr5 kk H2
          go_wp2_with fail
          refine hS.mono ?_
          rintro e w6 ⟨rfl, k6⟩
          go_wp2_with fail
          go_ret
          exact ⟨rfl, below_kept (HK0.out.trans (k5.trans k6)) (Nat.le_refl _)⟩
      · obtain rfl : Q = false := Bool.eq_false_iff.2 (fun h => h6 (hQ.1 h))
        clear hu hv hx hdm hdr hdx hb hK hR hx0 hW k0 hL hM hLN1 h4
        clear h6 hQ
        go_enter Try.func6, Try.ntmps6
        go_wp2_with (rw [← HW.out])
        refine hA.mono ?_
        rintro e w1 ⟨rfl, k1⟩
        obtain ⟨p0, p1, p2⟩ := JC.out _ k1
        have hF := JF.out _ k1
        clear hA
        go_wp2_with fail
        refine hF.mono ?_
        rintro e w2 ⟨rfl, k2⟩
        obtain ⟨q0, q1, q2⟩ := JC.out _ k2
        clear hF p0 p1 p2
        have hMm := JM.out _ k2
        go_wp2_with fail
        refine hMm.mono ?_
        rintro e w3 ⟨rfl, k3⟩
        go_wp2_with fail
        go_ret
        exact ⟨rfl, below_kept (HK0.out.trans k3) (Nat.le_refl _)⟩
    · have g5 : (L : Int) > 4 := by omega
      clear hu hv hx hdm hdr hdx hb hK hR hx0 hW k0 hL hM hLN1 h4
      clear h5
      go_enter Try.func6, Try.ntmps6
      go_wp2_with (rw [← HW.out])
      refine hA.mono ?_
      rintro e w1 ⟨rfl, k1⟩
      obtain ⟨p0, p1, p2⟩ := JC.out _ k1
      have hF := JF.out _ k1
      clear hA
      go_wp2_with fail
      refine hF.mono ?_
      rintro e w2 ⟨rfl, k2⟩
      obtain ⟨q0, q1, q2⟩ := JC.out _ k2
      clear hF p0 p1 p2
      go_wp2_with fail
      go_ret
      exact ⟨rfl, below_kept (HK0.out.trans k2) (Nat.le_refl _)⟩
  · obtain rfl : R = false := by rw [hR]; exact decide_eq_false h4
    clear hu hv hx hdm hdr hdx hb hK hR hx0 hW k0 hL hM hLN1 h4
    go_enter Try.func6, Try.ntmps6
    go_wp2_with (rw [← HW.out])
    refine hA.mono ?_
    rintro e w1 ⟨rfl, k1⟩
    obtain ⟨p0, p1, p2⟩ := JC.out _ k1
    have hF := JF.out _ k1
    clear hA
    go_wp2_with fail
    refine hF.mono ?_
    rintro e w2 ⟨rfl, k2⟩
    obtain ⟨q0, q1, q2⟩ := JC.out _ k2
    clear hF p0 p1 p2
    go_wp2_with fail
    go_ret
    exact ⟨rfl, below_kept (HK0.out.trans k2) (Nat.le_refl _)⟩

end Go.Proofs.Ytamkkmifbajdfaa
