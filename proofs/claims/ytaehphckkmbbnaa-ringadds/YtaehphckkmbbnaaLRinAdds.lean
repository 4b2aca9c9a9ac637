/- The law RingAdds, walked. -/
import Derived.Test.YtaehphckkmbbnaaLaw7
import Derived.Test.YtaehphckkmbbnaaOpenRow
namespace Go.Proofs.Ytaehphckkmbbnaa
open Go.RowKit

set_option maxRecDepth 20000 in
set_option maxHeartbeats 2000000 in
theorem walkRingAdds (u : Value) (ms : List Nat) (k : Int) (v : Value) (rs : List Nat) (x : Value) (xs : List Nat) (y : Value) (ys : List Nat) (w : World) (hu : Row .u64 w u ms) (hv : Row .u64 w v rs) (hx : Row .u64 w x xs) (hy : Row .u64 w y ys) (hdm : Digs 18446744073709551616 ms) (hdr : Digs 18446744073709551616 rs) (hdx : Digs 18446744073709551616 xs) (hdy : Digs 18446744073709551616 ys) (hb : (Lit.int .u64 k).wf = true) :
    Calls Try.prog 4 #[.agg #[u, .int .u64 k, v], x, y] w fun e w' => e = .returned (.bool true) ∧ Below w.heap.size w w' := by
  obtain ⟨K, rfl, hK⟩ : ∃ D : Nat, k = (D : Int) ∧ D < 18446744073709551616 := by
    have := wf_u64 k hb
    exact ⟨k.toNat, by omega, by omega⟩
  obtain ⟨ao, L, cap, rfl, hL, _, _, _, _⟩ := hu.open
  obtain ⟨bo, M, dap, rfl, hM, _, _, _, _⟩ := hv.open
  obtain ⟨xo, N1, xc, rfl, hLN1, _, _, _, _⟩ := hx.open
  obtain ⟨yo, N2, yc, rfl, hLN2, _, _, _, _⟩ := hy.open
  obtain ⟨W, hW⟩ : ∃ W, W = w.alloc (.cells #[.slice ao L cap, .int .u64 (K : Nat), .slice bo M dap] 26) := ⟨_, rfl⟩
  have k0 : Kept Nought w W := by rw [hW]; exact (Kept.refl Nought w).alloc _
  have hx0 : W.heap[w.heap.size]? = some (.cells #[.slice ao L cap, .int .u64 (K : Nat), .slice bo M dap] 26 (0, 0)) := by rw [hW]; exact heap_alloc_new _ _
  have hA := f7Awake W
  have JC : Hid (∀ W', Kept Nought W W' → W'.cell? ⟨w.heap.size, 0, none⟩ = some (.slice ao L cap) ∧ W'.cell? ⟨w.heap.size, 1, none⟩ = some (.int .u64 (K : Nat)) ∧ W'.cell? ⟨w.heap.size, 2, none⟩ = some (.slice bo M dap)) := fun W' k => cells3 ((k.block _ (lt_of_block hx0) (fun f => f)).trans hx0)
  have HW := toHid hW
  have HK0 := toHid k0
  obtain ⟨R, hR⟩ : ∃ R : Bool, R = decide ((L ≤ 40 ∧ M ≤ 40) ∧ N1 ≤ 40 ∧ N2 ≤ 40) := ⟨_, rfl⟩
  have JF : Hid (∀ W', Kept Nought W W' → Calls Try.prog 13 #[.agg #[.slice ao L cap, .int .u64 (K : Nat), .slice bo M dap], .slice (some ⟨W'.heap.size, 0, none⟩) 2 2] (W'.alloc (.cells #[.slice xo N1 xc, .slice yo N2 yc] 23)) fun r w' => r = .returned (.bool R) ∧ Kept Nought W w') := fun W' k => by
    refine (f7Few ao bo L M cap dap K _ 2 2 _ _ _ _ (by omega) R ?_ (two_slots (heap_alloc_new W' _))).mono ?_
    · rw [hR]
      refine decide_eq_decide.2 (and_congr_right fun _ => ⟨fun h i hi => ?_, fun h => ⟨h 0 (by omega), h 1 (by omega)⟩⟩)
      have h01 : i = 0 ∨ i = 1 := by omega
      rcases h01 with rfl | rfl
      · exact h.1
      · exact h.2
    · rintro e w' ⟨rfl, k'⟩
      exact ⟨rfl, (k.alloc _).trans k'⟩
  by_cases h4 : (L ≤ 40 ∧ M ≤ 40) ∧ N1 ≤ 40 ∧ N2 ≤ 40
  · obtain rfl : R = true := by rw [hR]; exact decide_eq_true h4
    obtain ⟨E, hE⟩ := err7 (okMod ms K rs ∧ (N1 = L ∧ val 18446744073709551616 xs < val 18446744073709551616 ms) ∧ (N2 = L ∧ val 18446744073709551616 ys < val 18446744073709551616 ms))
    obtain ⟨F, hE2⟩ := err7 (okMod ms K rs ∧ (N1 = L ∧ val 18446744073709551616 xs < val 18446744073709551616 ms))
    obtain ⟨RA, hRA⟩ : ∃ RL, RL = if E = 0 then digs 18446744073709551616 ((val 18446744073709551616 xs + val 18446744073709551616 ys) % val 18446744073709551616 ms) L else [] := ⟨_, rfl⟩
    obtain ⟨RB, hRB⟩ : ∃ RL, RL = if E = 0 then digs 18446744073709551616 (subM (val 18446744073709551616 xs) (val 18446744073709551616 ys) (val 18446744073709551616 ms)) L else [] := ⟨_, rfl⟩
    obtain ⟨RN, hRN⟩ : ∃ RL, RL = if F = 0 then digs 18446744073709551616 (subM 0 (val 18446744073709551616 xs) (val 18446744073709551616 ms)) L else [] := ⟨_, rfl⟩
    have J1 : Hid (∀ W', Kept Nought W W' → Calls Try.prog 14 #[.pointer none, .agg #[.slice ao L cap, .int .u64 (K : Nat), .slice bo M dap], .slice xo N1 xc, .slice yo N2 yc] W' fun e w' => ∃ v', e = .returned (.tuple #[v', .int .i64 ((E : Nat) : Int)]) ∧ Row .u64 w' v' RA ∧ Kept Nought W' w') := fun W' k => add7 ao bo xo yo L M K cap dap N1 N2 xc yc ms rs xs ys E hE RA hRA W' (hu.grew (k0.trans k)) (hv.grew (k0.trans k)) (hx.grew (k0.trans k)) (hy.grew (k0.trans k)) hdm hdr hdx hdy hK (by omega) (by omega) (by omega)
    have J2 : Hid (∀ W', Kept Nought W W' → Calls Try.prog 15 #[.agg #[.slice ao L cap, .int .u64 (K : Nat), .slice bo M dap], .slice xo N1 xc, .slice yo N2 yc] W' fun e w' => ∃ v', e = .returned (.tuple #[v', .int .i64 ((E : Nat) : Int)]) ∧ Row .u64 w' v' RA ∧ Kept Nought W' w') := fun W' k => q7Add ao bo xo yo L M N1 N2 cap dap xc yc K ms rs xs ys E hE RA hRA W' (hu.grew (k0.trans k)) (hv.grew (k0.trans k)) (hx.grew (k0.trans k)) (hy.grew (k0.trans k)) hdm hdx hdy (by omega)
    have J3 : Hid (∀ W', Kept Nought W W' → Calls Try.prog 16 #[.pointer none, .agg #[.slice ao L cap, .int .u64 (K : Nat), .slice bo M dap], .slice xo N1 xc, .slice yo N2 yc] W' fun e w' => ∃ v', e = .returned (.tuple #[v', .int .i64 ((E : Nat) : Int)]) ∧ Row .u64 w' v' RB ∧ Kept Nought W' w') := fun W' k => sub7 ao bo xo yo L M K cap dap N1 N2 xc yc ms rs xs ys E hE RB hRB W' (hu.grew (k0.trans k)) (hv.grew (k0.trans k)) (hx.grew (k0.trans k)) (hy.grew (k0.trans k)) hdm hdr hdx hdy hK (by omega) (by omega) (by omega)
    have J4 : Hid (∀ W', Kept Nought W W' → Calls Try.prog 17 #[.agg #[.slice ao L cap, .int .u64 (K : Nat), .slice bo M dap], .slice xo N1 xc, .slice yo N2 yc] W' fun e w' => ∃ v', e = .returned (.tuple #[v', .int .i64 ((E : Nat) : Int)]) ∧ Row .u64 w' v' RB ∧ Kept Nought W' w') := fun W' k => q7Sub ao bo xo yo L M N1 N2 cap dap xc yc K ms rs xs ys E hE RB hRB W' (hu.grew (k0.trans k)) (hv.grew (k0.trans k)) (hx.grew (k0.trans k)) (hy.grew (k0.trans k)) hdm hdx hdy (by omega)
    have J5 : Hid (∀ W', Kept Nought W W' → Calls Try.prog 18 #[.pointer none, .agg #[.slice ao L cap, .int .u64 (K : Nat), .slice bo M dap], .slice xo N1 xc] W' fun e w' => ∃ v', e = .returned (.tuple #[v', .int .i64 ((F : Nat) : Int)]) ∧ Row .u64 w' v' RN ∧ Kept Nought W' w') := fun W' k => neg7 ao bo xo L M K cap dap N1 xc ms rs xs F hE2 RN hRN W' (hu.grew (k0.trans k)) (hv.grew (k0.trans k)) (hx.grew (k0.trans k)) hdm hdr hdx hK (by omega) (by omega)
    have J6 : Hid (∀ W', Kept Nought W W' → Calls Try.prog 19 #[.agg #[.slice ao L cap, .int .u64 (K : Nat), .slice bo M dap], .slice xo N1 xc] W' fun e w' => ∃ v', e = .returned (.tuple #[v', .int .i64 ((F : Nat) : Int)]) ∧ Row .u64 w' v' RN ∧ Kept Nought W' w') := fun W' k => q7Neg ao bo xo L M N1 cap dap xc K ms rs xs F hE2 RN hRN W' (hu.grew (k0.trans k)) (hv.grew (k0.trans k)) (hx.grew (k0.trans k)) hdm hdx (by omega)
    have JS : Hid (∀ W' (u v : Value) (l : List Nat) (E : Nat), Row .u64 W' u l → Row .u64 W' v l → Calls Try.prog 12 #[u, .int .i64 (E : Nat), v, .int .i64 (E : Nat)] W' fun r w' => r = .returned (.bool true) ∧ Kept Nought W' w') := fun W' u v l E h1 h2 => f7as u v l l E E true (by simp) W' h1 h2
    clear hu hv hx hy hdm hdr hdx hdy hb hK hR hx0 hW k0 hL hM hE hE2 hLN1 hLN2 hRA hRB hRN
    go_enter Try.func4, Try.ntmps4
    go_wp2_with (rw [← HW.out])
    refine hA.mono ?_
    rintro e w1 ⟨rfl, k1⟩
    obtain ⟨p0, p1, p2⟩ := JC.out _ k1
    have hF := JF.out _ k1
    clear hA
    go_wp2_with fail
    refine hF.mono ?_
    rintro e w2 ⟨rfl, k2⟩
    obtain ⟨q0, q1, q2⟩ := JC.out _ k2
    have hC := J1.out _ k2
    clear hF p0 p1 p2
    go_wp2_with fail
    refine hC.mono ?_
    rintro e w3 ⟨v3, rfl, hr, kk⟩
    have HR3 := toHid hr
    have k3 := k2.trans kk
    have hC0 := toHid trivial
    clear hC q0 q1 q2 hr kk
    obtain ⟨q0, q1, q2⟩ := JC.out _ k3
    have hC := J2.out _ k3
    clear hC0
    go_wp2_with fail
    refine hC.mono ?_
    rintro e w4 ⟨v4, rfl, hr, kk⟩
    have HR3 := toHid (HR3.out.grew kk)
    have HR4 := toHid hr
    have k4 := k3.trans kk
    have hC0 := toHid trivial
    clear hC q0 q1 q2 hr kk
    obtain ⟨q0, q1, q2⟩ := JC.out _ k4
    have hC := J3.out _ k4
    clear hC0
    go_wp2_with fail
    refine hC.mono ?_
    rintro e w5 ⟨v5, rfl, hr, kk⟩
    have HR3 := toHid (HR3.out.grew kk)
    have HR4 := toHid (HR4.out.grew kk)
    have HR5 := toHid hr
    have k5 := k4.trans kk
    have hC0 := toHid trivial
    clear hC q0 q1 q2 hr kk
    obtain ⟨q0, q1, q2⟩ := JC.out _ k5
    have hC := J4.out _ k5
    clear hC0
    go_wp2_with fail
    refine hC.mono ?_
    rintro e w6 ⟨v6, rfl, hr, kk⟩
    have HR3 := toHid (HR3.out.grew kk)
    have HR4 := toHid (HR4.out.grew kk)
    have HR5 := toHid (HR5.out.grew kk)
    have HR6 := toHid hr
    have k6 := k5.trans kk
    have hC0 := toHid trivial
    clear hC q0 q1 q2 hr kk
    obtain ⟨q0, q1, q2⟩ := JC.out _ k6
    have hC := J5.out _ k6
    clear hC0
    go_wp2_with fail
    refine hC.mono ?_
    rintro e w7 ⟨v7, rfl, hr, kk⟩
    have HR3 := toHid (HR3.out.grew kk)
    have HR4 := toHid (HR4.out.grew kk)
    have HR5 := toHid (HR5.out.grew kk)
    have HR6 := toHid (HR6.out.grew kk)
    have HR7 := toHid hr
    have k7 := k6.trans kk
    have hC0 := toHid trivial
    clear hC q0 q1 q2 hr kk
    obtain ⟨q0, q1, q2⟩ := JC.out _ k7
    have hC := J6.out _ k7
    clear hC0
    go_wp2_with fail
    refine hC.mono ?_
    rintro e w8 ⟨v8, rfl, hr, kk⟩
    have HR3 := toHid (HR3.out.grew kk)
    have HR4 := toHid (HR4.out.grew kk)
    have HR5 := toHid (HR5.out.grew kk)
    have HR6 := toHid (HR6.out.grew kk)
    have HR7 := toHid (HR7.out.grew kk)
    have HR8 := toHid hr
    have k8 := k7.trans kk
    have hC0 := toHid trivial
    clear hC q0 q1 q2 hr kk
    have hS := JS.out _ v3 v4 RA E HR3.out HR4.out
    clear hC0
    go_wp2_with fail
    refine hS.mono ?_
    rintro e w9 ⟨rfl, k9⟩
    have hS2 := JS.out _ v5 v6 RB E (HR5.out.grew k9) (HR6.out.grew k9)
    clear hS
    go_wp2_with fail
    refine hS2.mono ?_
    rintro e w10 ⟨rfl, k10⟩
    have hS3 := JS.out _ v7 v8 RN F ((HR7.out.grew k9).grew k10) ((HR8.out.grew k9).grew k10)
    clear hS2
    go_wp2_with fail
    refine hS3.mono ?_
    rintro e w11 ⟨rfl, k11⟩
    go_wp2_with fail
    go_ret
    exact ⟨rfl, below_kept (HK0.out.trans (k8.trans (k9.trans (k10.trans k11)))) (Nat.le_refl _)⟩
  · obtain rfl : R = false := by rw [hR]; exact decide_eq_false h4
    clear hu hv hx hy hdm hdr hdx hdy hb hK hL hM hLN1 hLN2 hR hx0 hW k0 h4
    go_enter Try.func4, Try.ntmps4
    go_wp2_with (rw [← HW.out])
    refine hA.mono ?_
    rintro e w1 ⟨rfl, k1⟩
    obtain ⟨p0, p1, p2⟩ := JC.out _ k1
    have hF := JF.out _ k1
    clear hA
    go_wp2_with fail
    refine hF.mono ?_
    rintro e w2 ⟨rfl, k2⟩
    go_wp2_with fail
    go_ret
    exact ⟨rfl, below_kept (HK0.out.trans k2) (Nat.le_refl _)⟩

end Go.Proofs.Ytaehphckkmbbnaa
