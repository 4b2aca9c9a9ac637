/- The law RingReduces, walked. -/
import Derived.Test.YtaehphckkmbbnaaLaw7
import Derived.Test.YtaehphckkmbbnaaOpenRow
namespace Go.Proofs.Ytaehphckkmbbnaa
open Go.RowKit

set_option maxRecDepth 20000 in
set_option maxHeartbeats 2000000 in
theorem walkRingReduces (u : Value) (ms : List Nat) (k : Int) (v : Value) (rs : List Nat) (x : Value) (xs : List Nat) (w : World) (hu : Row .u64 w u ms) (hv : Row .u64 w v rs) (hx : Row .u64 w x xs) (hdm : Digs 18446744073709551616 ms) (hdr : Digs 18446744073709551616 rs) (hdx : Digs 18446744073709551616 xs) (hb : (Lit.int .u64 k).wf = true) :
    Calls Try.prog 3 #[.agg #[u, .int .u64 k, v], x] w fun e w' => e = .returned (.bool true) ∧ Below w.heap.size w w' := by
  obtain ⟨K, rfl, hK⟩ : ∃ D : Nat, k = (D : Int) ∧ D < 18446744073709551616 := by
    have := wf_u64 k hb
    exact ⟨k.toNat, by omega, by omega⟩
  obtain ⟨ao, L, cap, rfl, hL, _, _, _, _⟩ := hu.open
  obtain ⟨bo, M, dap, rfl, hM, _, _, _, _⟩ := hv.open
  obtain ⟨xo, N1, xc, rfl, hLN1, _, _, _, _⟩ := hx.open
  obtain ⟨W, hW⟩ : ∃ W, W = w.alloc (.cells #[.slice ao L cap, .int .u64 (K : Nat), .slice bo M dap] 26) := ⟨_, rfl⟩
  have k0 : Kept Nought w W := by rw [hW]; exact (Kept.refl Nought w).alloc _
  have hx0 : W.heap[w.heap.size]? = some (.cells #[.slice ao L cap, .int .u64 (K : Nat), .slice bo M dap] 26 (0, 0)) := by rw [hW]; exact heap_alloc_new _ _
  have hA := f7Awake W
  have JC : Hid (∀ W', Kept Nought W W' → W'.cell? ⟨w.heap.size, 0, none⟩ = some (.slice ao L cap) ∧ W'.cell? ⟨w.heap.size, 1, none⟩ = some (.int .u64 (K : Nat)) ∧ W'.cell? ⟨w.heap.size, 2, none⟩ = some (.slice bo M dap)) := fun W' k => cells3 ((k.block _ (lt_of_block hx0) (fun f => f)).trans hx0)
  have HW := toHid hW
  have HK0 := toHid k0
  obtain ⟨R1, hR1⟩ : ∃ R : Bool, R = decide (L ≤ 40 ∧ M ≤ 40) := ⟨_, rfl⟩
  obtain ⟨R2, hR2⟩ : ∃ R : Bool, R = decide (N1 ≤ 40) := ⟨_, rfl⟩
  have JF : Hid (∀ W', Kept Nought W W' → Calls Try.prog 9 #[.slice (some ⟨W'.heap.size, 0, none⟩) 2 2] (W'.alloc (.cells #[.slice ao L cap, .slice bo M dap] 23)) fun r w' => r = .returned (.bool R1) ∧ Kept Nought W w') := fun W' k => by
    refine (few2 ao bo L M cap dap W' R1 hR1).mono ?_
    rintro e w' ⟨rfl, rfl⟩
    exact ⟨rfl, k.alloc _⟩
  have JG : Hid (∀ W', Kept Nought W W' → Calls Try.prog 9 #[.slice (some ⟨W'.heap.size, 0, none⟩) 1 1] (W'.alloc (.cells #[.slice xo N1 xc] 23)) fun r w' => r = .returned (.bool R2) ∧ Kept Nought W w') := fun W' k => by
    refine (f5Few _ 1 1 _ _ _ _ (by omega) R2 ?_ (one_slot (heap_alloc_new W' _))).mono ?_
    · rw [hR2]
      exact decide_eq_decide.2 ⟨fun h i hi => h, fun h => h 0 (by omega)⟩
    · rintro e w' ⟨rfl, rfl⟩
      exact ⟨rfl, k.alloc _⟩
  by_cases h4 : L ≤ 40 ∧ M ≤ 40
  · obtain rfl : R1 = true := by rw [hR1]; exact decide_eq_true h4
    obtain ⟨E, hE⟩ : ∃ E : Nat, (E = 0 ∧ okMod ms K rs ∧ N1 ≤ 300) ∨ (E = 2 ∧ okMod ms K rs ∧ 300 < N1) ∨ (E = 1 ∧ ¬ okMod ms K rs) := by
      by_cases h1 : okMod ms K rs
      · by_cases h2 : N1 ≤ 300
        · exact ⟨0, .inl ⟨rfl, h1, h2⟩⟩
        · exact ⟨2, .inr (.inl ⟨rfl, h1, by omega⟩)⟩
      · exact ⟨1, .inr (.inr ⟨rfl, h1⟩)⟩
    obtain ⟨RL, hRL⟩ : ∃ RL, RL = if E = 0 then digs 18446744073709551616 (val 18446744073709551616 xs % val 18446744073709551616 ms) L else [] := ⟨_, rfl⟩
    have J1 : Hid (∀ W', Kept Nought W W' → Calls Try.prog 10 #[.pointer none, .agg #[.slice ao L cap, .int .u64 (K : Nat), .slice bo M dap], .slice xo N1 xc] W' fun e w' => ∃ v', e = .returned (.tuple #[v', .int .i64 ((E : Nat) : Int)]) ∧ Row .u64 w' v' RL ∧ Kept Nought W' w') := fun W' k => red7 ao bo xo L M K cap dap N1 xc ms rs xs E hE RL hRL W' (hu.grew (k0.trans k)) (hv.grew (k0.trans k)) (hx.grew (k0.trans k)) hdm hdr hdx hK (by omega)
    have J2 : Hid (∀ W', Kept Nought W W' → Calls Try.prog 11 #[.agg #[.slice ao L cap, .int .u64 (K : Nat), .slice bo M dap], .slice xo N1 xc] W' fun e w' => ∃ v', e = .returned (.tuple #[v', .int .i64 ((E : Nat) : Int)]) ∧ Row .u64 w' v' RL ∧ Kept Nought W' w') := fun W' k => q7Reduce ao bo xo L M N1 cap dap xc K ms rs xs E hE RL hRL W' (hu.grew (k0.trans k)) (hv.grew (k0.trans k)) (hx.grew (k0.trans k)) hdm hdx (by omega)
    have JS : Hid (∀ W' (u v : Value) (l : List Nat) (E : Nat), Row .u64 W' u l → Row .u64 W' v l → Calls Try.prog 12 #[u, .int .i64 (E : Nat), v, .int .i64 (E : Nat)] W' fun r w' => r = .returned (.bool true) ∧ Kept Nought W' w') := fun W' u v l E h1 h2 => f7as u v l l E E true (by simp) W' h1 h2
    have hN : N1 ≤ 9223372036854775807 := by omega
    clear hu hv hx hdm hdr hdx hb hK hR1 hx0 hW k0 hL hM hE hLN1 hRL
    by_cases h5 : N1 ≤ 40
    · obtain rfl : R2 = true := by rw [hR2]; exact decide_eq_true h5
      clear hR2
      go_enter Try.func3, Try.ntmps3
      go_wp2_with (rw [← HW.out])
      refine hA.mono ?_
      rintro e w1 ⟨rfl, k1⟩
      obtain ⟨p0, p1, p2⟩ := JC.out _ k1
      have hF := JF.out _ k1
      clear hA
      go_wp2_with fail
      refine hF.mono ?_
      rintro e w1b ⟨rfl, k1b⟩
      have hG := JG.out _ k1b
      clear hF
      go_wp2_with fail
      refine hG.mono ?_
      rintro e w2 ⟨rfl, k2⟩
      have hF := toHid trivial
      clear hG
      obtain ⟨q0, q1, q2⟩ := JC.out _ k2
      have hC := J1.out _ k2
      clear hF p0 p1 p2
      go_wp2_with fail
      refine hC.mono ?_
      rintro e w3 ⟨v3, rfl, hr, kk⟩
      have HR3 := toHid hr
      have k3 := k2.trans kk
      have hC0 := toHid trivial
      clear hC q0 q1 q2 hr kk
      obtain ⟨q0, q1, q2⟩ := JC.out _ k3
      have hC := J2.out _ k3
      clear hC0
      go_wp2_with fail
      refine hC.mono ?_
      rintro e w4 ⟨v4, rfl, hr, kk⟩
      have HR3 := toHid (HR3.out.grew kk)
      have HR4 := toHid hr
      have k4 := k3.trans kk
      have hC0 := toHid trivial
      clear hC q0 q1 q2 hr kk
      have hS := JS.out _ v3 v4 RL E HR3.out HR4.out
      clear hC0
      go_wp2_with fail
      refine hS.mono ?_
      rintro e w5 ⟨rfl, k5⟩
      go_wp2_with fail
      go_ret
      exact ⟨rfl, below_kept (HK0.out.trans (k4.trans k5)) (Nat.le_refl _)⟩
    · obtain rfl : R2 = false := by rw [hR2]; exact decide_eq_false h5
      by_cases h6 : N1 = 301
      · subst h6
        clear hR2
        go_enter Try.func3, Try.ntmps3
        go_wp2_with (rw [← HW.out])
        refine hA.mono ?_
        rintro e w1 ⟨rfl, k1⟩
        obtain ⟨p0, p1, p2⟩ := JC.out _ k1
        have hF := JF.out _ k1
        clear hA
        go_wp2_with fail
        refine hF.mono ?_
        rintro e w1b ⟨rfl, k1b⟩
        have hG := JG.out _ k1b
        clear hF
        go_wp2_with fail
        refine hG.mono ?_
        rintro e w2 ⟨rfl, k2⟩
        have hF := toHid trivial
        clear hG
        obtain ⟨q0, q1, q2⟩ := JC.out _ k2
        have hC := J1.out _ k2
        clear hF p0 p1 p2
        go_wp2_with fail
        refine hC.mono ?_
        rintro e w3 ⟨v3, rfl, hr, kk⟩
        have HR3 := toHid hr
        have k3 := k2.trans kk
        have hC0 := toHid trivial
        clear hC q0 q1 q2 hr kk
        obtain ⟨q0, q1, q2⟩ := JC.out _ k3
        have hC := J2.out _ k3
        clear hC0
        go_wp2_with fail
        refine hC.mono ?_
        rintro e w4 ⟨v4, rfl, hr, kk⟩
        have HR3 := toHid (HR3.out.grew kk)
        have HR4 := toHid hr
        have k4 := k3.trans kk
        have hC0 := toHid trivial
        clear hC q0 q1 q2 hr kk
        have hS := JS.out _ v3 v4 RL E HR3.out HR4.out
        clear hC0
        go_wp2_with fail
        refine hS.mono ?_
        rintro e w5 ⟨rfl, k5⟩
        go_wp2_with fail
        go_ret
        exact ⟨rfl, below_kept (HK0.out.trans (k4.trans k5)) (Nat.le_refl _)⟩
      · have g6 : ¬ (N1 : Int) = 301 := by omega
        have g6' : ((N1 : Int) != 301) = true := by simp; omega
        clear hR2
        go_enter Try.func3, Try.ntmps3
        go_wp2_with (rw [← HW.out])
        refine hA.mono ?_
        rintro e w1 ⟨rfl, k1⟩
        obtain ⟨p0, p1, p2⟩ := JC.out _ k1
        have hF := JF.out _ k1
        clear hA
        go_wp2_with fail
        refine hF.mono ?_
        rintro e w1b ⟨rfl, k1b⟩
        have hG := JG.out _ k1b
        clear hF
        go_wp2_with fail
        refine hG.mono ?_
        rintro e w2 ⟨rfl, k2⟩
        have hF := toHid trivial
        clear hG
        go_wp2_with fail
        go_ret
        exact ⟨rfl, below_kept (HK0.out.trans k2) (Nat.le_refl _)⟩
  · obtain rfl : R1 = false := by rw [hR1]; exact decide_eq_false h4
    clear hu hv hx hdm hdr hdx hb hK hR1 hR2 hx0 hW k0 h4 hL hM hLN1
    go_enter Try.func3, Try.ntmps3
    go_wp2_with (rw [← HW.out])
    refine hA.mono ?_
    rintro e w1 ⟨rfl, k1⟩
    obtain ⟨p0, p1, p2⟩ := JC.out _ k1
    have hF := JF.out _ k1
    clear hA
    go_wp2_with fail
    refine hF.mono ?_
    rintro e w1b ⟨rfl, k1b⟩
    go_wp2_with fail
    go_ret
    exact ⟨rfl, below_kept (HK0.out.trans k1b) (Nat.le_refl _)⟩

end Go.Proofs.Ytaehphckkmbbnaa
