/- The law MontEnters, walked: whatever the modulus and the number. -/
import Derived.Test.YtpgccioblgcjaaaL6C
import Derived.Test.YtpgccioblgcjaaaOpenRow
namespace Go.Proofs.Ytpgccioblgcjaaa
open Go.RowKit

set_option maxRecDepth 20000 in
set_option maxHeartbeats 2000000 in
theorem walkMontEnters (u : Value) (ms : List Nat) (k : Int) (v : Value) (rs : List Nat) (x : Value) (xs : List Nat) (w : World) (hu : Row .u64 w u ms) (hv : Row .u64 w v rs) (hx : Row .u64 w x xs) (hdm : Digs 18446744073709551616 ms) (hdr : Digs 18446744073709551616 rs) (hdx : Digs 18446744073709551616 xs) (hb : (Lit.int .u64 k).wf = true) :
    Calls Try.prog 6 #[.agg #[u, .int .u64 k, v], x] w fun e w' => e = .returned (.bool true) ∧ Below w.heap.size w w' := by
  obtain ⟨K, rfl, hK⟩ : ∃ D : Nat, k = (D : Int) ∧ D < 18446744073709551616 := by
    have := wf_u64 k hb
    exact ⟨k.toNat, by omega, by omega⟩
  obtain ⟨ao, L, cap, rfl, hL, _, _, _, _⟩ := hu.open
  obtain ⟨bo, M, dap, rfl, hM, _, _, _, _⟩ := hv.open
  obtain ⟨xo, N1, xc, rfl, _, _, _, _, _⟩ := hx.open
  obtain ⟨W, hW⟩ : ∃ W, W = w.alloc (.cells #[.slice ao L cap, .int .u64 (K : Nat), .slice bo M dap] 28) := ⟨_, rfl⟩
  have k0 : Kept Nought w W := by rw [hW]; exact (Kept.refl Nought w).alloc _
  have hx0 : W.heap[w.heap.size]? = some (.cells #[.slice ao L cap, .int .u64 (K : Nat), .slice bo M dap] 28 (0, 0)) := by rw [hW]; exact heap_alloc_new _ _
  have hA := f6Awake W
  have JC : Hid (∀ W', Kept Nought W W' → W'.cell? ⟨w.heap.size, 0, none⟩ = some (.slice ao L cap) ∧ W'.cell? ⟨w.heap.size, 1, none⟩ = some (.int .u64 (K : Nat)) ∧ W'.cell? ⟨w.heap.size, 2, none⟩ = some (.slice bo M dap)) := fun W' k => cells3 ((k.block _ (lt_of_block hx0) (fun f => f)).trans hx0)
  have HW := toHid hW
  have HK0 := toHid k0
  obtain ⟨R, hR⟩ : ∃ R : Bool, R = decide ((L ≤ 40 ∧ M ≤ 40) ∧ N1 ≤ 40) := ⟨_, rfl⟩
  have JF : Hid (∀ W', Kept Nought W W' → Calls Try.prog 14 #[.agg #[.slice ao L cap, .int .u64 (K : Nat), .slice bo M dap], .slice (some ⟨W'.heap.size, 0, none⟩) 1 1] (W'.alloc (.cells #[.slice xo N1 xc] 23)) fun r w' => r = .returned (.bool R) ∧ Kept Nought W w') := fun W' k => by
    refine (f6few ao bo L M cap dap K _ 1 1 _ _ _ _ (by omega) R ?_ (one_slot (heap_alloc_new W' _))).mono ?_
    · rw [hR]
      exact decide_eq_decide.2 (and_congr_right fun _ => ⟨fun h i hi => h, fun h => h 0 (by omega)⟩)
    · rintro e w' ⟨rfl, k'⟩
      exact ⟨rfl, (k.alloc _).trans k'⟩
  by_cases h4 : (L ≤ 40 ∧ M ≤ 40) ∧ N1 ≤ 40
  · obtain rfl : R = true := by rw [hR]; exact decide_eq_true h4
    obtain ⟨E, hE, hE1⟩ := err_of (okMod ms K rs ∧ (N1 = L ∧ val 18446744073709551616 xs < val 18446744073709551616 ms))
    obtain ⟨RL, hok1, hok0⟩ : ∃ RL : List Nat, (okMod ms K rs → RL = digs 18446744073709551616 (2 ^ (64 * L) % val 18446744073709551616 ms) L) ∧ (¬ okMod ms K rs → RL = []) := by
      by_cases h : okMod ms K rs
      · exact ⟨_, fun _ => rfl, fun h' => absurd h h'⟩
      · exact ⟨[], fun h' => absurd h' h, fun _ => rfl⟩
    have J1 : Hid (∀ W', Kept Nought W W' → Calls Try.prog 20 #[.pointer none, .agg #[.slice ao L cap, .int .u64 (K : Nat), .slice bo M dap], .slice xo N1 xc] W' fun e w' => ∃ v', e = .returned (.tuple #[v', .int .i64 (E : Int)]) ∧ Kept Nought W' w' ∧ Row .u64 w' v' (if E = 0 then digs 18446744073709551616 (2 ^ (64 * L) * val 18446744073709551616 xs % val 18446744073709551616 ms) L else [])) := fun W' k =>
      enter6 ao bo xo L M K cap dap N1 xc E ms rs xs W' (hu.grew (k0.trans k)) (hv.grew (k0.trans k)) (hx.grew (k0.trans k)) hdm hdr hdx hK (by omega) hE hE1
    have J2 : Hid (∀ W', Kept Nought W W' → Calls Try.prog 21 #[.agg #[.slice ao L cap, .int .u64 (K : Nat), .slice bo M dap], .slice xo N1 xc] W' fun e w' => ∃ v', e = .returned (.tuple #[v', .int .i64 (E : Int)]) ∧ Kept Nought W' w' ∧ Row .u64 w' v' (if E = 0 then digs 18446744073709551616 (2 ^ (64 * L) * val 18446744073709551616 xs % val 18446744073709551616 ms) L else [])) := fun W' k =>
      enterR6 ao bo xo L M K cap dap N1 xc E ms rs xs W' (hu.grew (k0.trans k)) (hv.grew (k0.trans k)) (hx.grew (k0.trans k)) hdm hdx (by omega) hE hE1
    have J3 : Hid (∀ W', Kept Nought W W' → Calls Try.prog 22 #[.pointer none, .agg #[.slice ao L cap, .int .u64 (K : Nat), .slice bo M dap], .slice xo N1 xc] W' fun e w' => ∃ v', e = .returned (.tuple #[v', .int .i64 (E : Int)]) ∧ Kept Nought W' w' ∧ ∃ Y, Row .u64 w' v' (if E = 0 then digs 18446744073709551616 Y L else []) ∧ (E = 0 → LeaG L (val 18446744073709551616 ms) (val 18446744073709551616 xs) Y)) := fun W' k =>
      leave6 ao bo xo L M K cap dap N1 xc E ms rs xs W' (hu.grew (k0.trans k)) (hv.grew (k0.trans k)) (hx.grew (k0.trans k)) hdm hdr hdx hK (by omega) hE hE1
    have J4 : Hid (∀ W' Y, Kept Nought W W' → (E = 0 → LeaG L (val 18446744073709551616 ms) (val 18446744073709551616 xs) Y) → Calls Try.prog 23 #[.agg #[.slice ao L cap, .int .u64 (K : Nat), .slice bo M dap], .slice xo N1 xc] W' fun e w' => ∃ v', e = .returned (.tuple #[v', .int .i64 (E : Int)]) ∧ Kept Nought W' w' ∧ Row .u64 w' v' (if E = 0 then digs 18446744073709551616 Y L else [])) := fun W' Y k hY =>
      leaveR6 ao bo xo L M K cap dap N1 xc E ms rs xs W' (hu.grew (k0.trans k)) (hv.grew (k0.trans k)) (hx.grew (k0.trans k)) hdm hdx (by omega) hE hE1 Y hY
    have J5 : Hid (∀ W', Kept Nought W W' → Calls Try.prog 24 #[.agg #[.slice ao L cap, .int .u64 (K : Nat), .slice bo M dap]] W' fun e w' => ∃ v', e = .returned v' ∧ Row .u64 w' v' RL ∧ Kept Nought W' w') := fun W' k =>
      mOne ao bo L M K cap dap ms rs RL W' (hu.grew (k0.trans k)) (hv.grew (k0.trans k)) hdm hdr hK (by omega) hok1 hok0
    have J6 : Hid (∀ W', Kept Nought W W' → Calls Try.prog 25 #[.agg #[.slice ao L cap, .int .u64 (K : Nat), .slice bo M dap]] W' fun e w' => ∃ v', e = .returned v' ∧ Row .u64 w' v' RL ∧ Kept Nought W' w') := fun W' k =>
      oneR6 ao bo L M K cap dap ms rs RL W' (hu.grew (k0.trans k)) (hv.grew (k0.trans k)) hdm (by omega) hok1 hok0
    have JS : Hid (∀ (W' : World) (v1 v2 : Value) (zs : List Nat), Row .u64 W' v1 zs → Row .u64 W' v2 zs → Calls Try.prog 19 #[v1, v2] W' fun r w' => r = .returned (.bool true) ∧ Kept Nought W' w') := fun W' v1 v2 zs h1 h2 => by
      have := rSame v1 v2 zs zs W' h1 h2
      rw [decide_eq_true rfl] at this
      refine this.mono ?_
      rintro e w' ⟨rfl, m, rfl⟩
      exact ⟨rfl, (Kept.refl _ _).drewN m⟩
    clear hu hv hx hdm hdr hdx hb hK hR hx0 hW k0 hL hM hE hok1 hok0
    go_enter Try.func6, Try.ntmps6
    go_wp2_with (rw [← HW.out])
    refine hA.mono ?_
    rintro e w1 ⟨rfl, k1⟩
    obtain ⟨p0, p1, p2⟩ := JC.out _ k1
    have hF := JF.out _ k1
    clear hA
    go_wp2_with fail
    refine hF.mono ?_
    rintro e w2 ⟨rfl, K2⟩
    obtain ⟨q0, q1, q2⟩ := JC.out _ K2
    have h1 := J1.out _ K2
    clear hF p0 p1 p2
    go_wp2_with fail
    refine h1.mono ?_
    rintro e w3 ⟨v3, rfl, k3, hr3⟩
    have K3 := K2.trans k3
    obtain ⟨r0, r1, r2⟩ := JC.out _ K3
    have h2 := J2.out _ K3
    have HR3 := toHid hr3
    clear h1 q0 q1 q2 hr3 k3
    go_wp2_with fail
    refine h2.mono ?_
    rintro e w4 ⟨v4, rfl, k4, hr4⟩
    have K4 := K3.trans k4
    obtain ⟨s0, s1, s2⟩ := JC.out _ K4
    have h3 := J3.out _ K4
    have HR3' := toHid (HR3.out.grew k4)
    have HR4 := toHid hr4
    clear h2 r0 r1 r2 hr4 k4 HR3
    go_wp2_with fail
    refine h3.mono ?_
    rintro e w5 ⟨v5, rfl, k5, Y, hr5, hY⟩
    have K5 := K4.trans k5
    obtain ⟨t0, t1, t2⟩ := JC.out _ K5
    have h4' := J4.out _ Y K5 hY
    have HR3 := toHid (HR3'.out.grew k5)
    have HR4' := toHid (HR4.out.grew k5)
    have HR5 := toHid hr5
    clear h3 s0 s1 s2 hr5 k5 HR3' HR4 hY
    go_wp2_with fail
    refine h4'.mono ?_
    rintro e w6 ⟨v6, rfl, k6, hr6⟩
    have K6 := K5.trans k6
    have R3 := toHid (HR3.out.grew k6)
    have R4 := toHid (HR4'.out.grew k6)
    have R5 := toHid (HR5.out.grew k6)
    have R6 := toHid hr6
    obtain ⟨a0, a1, a2⟩ := JC.out _ K6
    clear h4' t0 t1 t2 hr6 k6 HR3 HR4' HR5
    have kd : Kept Nought w6 w6.drew := (Kept.refl _ _).drew
    obtain ⟨l3, hl3⟩ : ∃ l, l = if E = 0 then digs 18446744073709551616 (2 ^ (64 * L) * val 18446744073709551616 xs % val 18446744073709551616 ms) L else [] := ⟨_, rfl⟩
    obtain ⟨l5, hl5⟩ : ∃ l, l = if E = 0 then digs 18446744073709551616 Y L else [] := ⟨_, rfl⟩
    rw [← hl3] at R3 R4
    rw [← hl5] at R5 R6
    clear hl3 hl5 J1 J2 J3 J4
    go_wp2_with fail
    go_region_held3 (fun w' => w'.cell? ⟨w.heap.size, 0, none⟩ = some (.slice ao L cap) ∧ w'.cell? ⟨w.heap.size, 1, none⟩ = some (.int .u64 (K : Int)) ∧ w'.cell? ⟨w.heap.size, 2, none⟩ = some (.slice bo M dap))
      (((try dsimp only); (repeat' apply And.intro) <;> first | (go_keep; done) | assumption))
      (first
      | (go_at_call_of 19 v3; refine (JS.out _ _ _ l3 (R3.out.grew kd) (R4.out.grew kd)).mono ?_; rintro e w7 ⟨rfl, k7⟩; have k7' := kd.trans k7; obtain ⟨b0, b1, b2⟩ := JC.out _ (K6.trans k7'))
      | (go_at_call_of 19 v5; refine (JS.out _ _ _ l5 (R5.out.grew k7') (R6.out.grew k7')).mono ?_; rintro e w8 ⟨rfl, k8⟩; have k8' := k7'.trans k8; obtain ⟨c0, c1, c2⟩ := JC.out _ (K6.trans k8'))
      | (go_at_call 24; refine (J5.out _ (K6.trans k8')).mono ?_; rintro e w9 ⟨v9, rfl, r9, k9⟩; have k9' := k8'.trans k9; obtain ⟨d0, d1, d2⟩ := JC.out _ (K6.trans k9'))
      | (go_at_call 25; refine (J6.out _ (K6.trans k9')).mono ?_; rintro e w10 ⟨v10, rfl, r10, k10⟩; have k10' := k9'.trans k10; have r9' := r9.grew k10; obtain ⟨e0, e1, e2⟩ := JC.out _ (K6.trans k10'))
      | (go_at_call_of 19 v10; refine (JS.out _ _ _ RL r9' r10).mono ?_; rintro e w11 ⟨rfl, k11⟩; have k11' := k10'.trans k11; obtain ⟨f0, f1, f2⟩ := JC.out _ (K6.trans k11')))
    all_goals
      go_wp2_with fail
      go_ret
      exact ⟨rfl, below_kept (HK0.out.trans (K6.trans k11')) (Nat.le_refl _)⟩
  · obtain rfl : R = false := by rw [hR]; exact decide_eq_false h4
    clear hu hv hx hdm hdr hdx hb hK hR hx0 hW k0 hL hM h4
    go_enter Try.func6, Try.ntmps6
    go_wp2_with (rw [← HW.out])
    refine hA.mono ?_
    rintro e w1 ⟨rfl, k1⟩
    obtain ⟨p0, p1, p2⟩ := JC.out _ k1
    have hF := JF.out _ k1
    clear hA
    go_wp2_with fail
    refine hF.mono ?_
    rintro e w2 ⟨rfl, k2⟩
    go_wp2_with fail
    go_ret
    exact ⟨rfl, below_kept (HK0.out.trans k2) (Nat.le_refl _)⟩

end Go.Proofs.Ytpgccioblgcjaaa
