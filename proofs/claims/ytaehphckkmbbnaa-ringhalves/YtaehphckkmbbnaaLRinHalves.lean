/- The law RingHalves, walked. -/
import Derived.Test.YtaehphckkmbbnaaLaw7b
import Derived.Test.YtaehphckkmbbnaaOpenRow
namespace Go.Proofs.Ytaehphckkmbbnaa
open Go.RowKit

set_option maxRecDepth 20000 in
set_option maxHeartbeats 2000000 in
theorem walkRingHalves (u : Value) (ms : List Nat) (k : Int) (v : Value) (rs : List Nat) (x : Value) (xs : List Nat) (w : World) (hu : Row .u64 w u ms) (hv : Row .u64 w v rs) (hx : Row .u64 w x xs) (hdm : Digs 18446744073709551616 ms) (hdr : Digs 18446744073709551616 rs) (hdx : Digs 18446744073709551616 xs) (hb : (Lit.int .u64 k).wf = true) :
    Calls Try.prog 5 #[.agg #[u, .int .u64 k, v], x] w fun e w' => e = .returned (.bool true) ∧ Below w.heap.size w w' := by
  obtain ⟨K, rfl, hK⟩ : ∃ D : Nat, k = (D : Int) ∧ D < 18446744073709551616 := by
    have := wf_u64 k hb
    exact ⟨k.toNat, by omega, by omega⟩
  obtain ⟨ao, L, cap, rfl, hL, _, _, _, _⟩ := hu.open
  obtain ⟨bo, M, dap, rfl, hM, _, _, _, _⟩ := hv.open
  obtain ⟨xo, N1, xc, rfl, hLN1, _, _, _, _⟩ := hx.open
  obtain ⟨W, hW⟩ : ∃ W, W = w.alloc (.cells #[.slice ao L cap, .int .u64 (K : Nat), .slice bo M dap] 26) := ⟨_, rfl⟩
  have k0 : Kept Nought w W := by rw [hW]; exact (Kept.refl Nought w).alloc _
  have hx0 : W.heap[w.heap.size]? = some (.cells #[.slice ao L cap, .int .u64 (K : Nat), .slice bo M dap] 26 (0, 0)) := by rw [hW]; exact heap_alloc_new _ _
  have hA := f7Awake W
  have JC : Hid (∀ W', Kept Nought W W' → W'.cell? ⟨w.heap.size, 0, none⟩ = some (.slice ao L cap) ∧ W'.cell? ⟨w.heap.size, 1, none⟩ = some (.int .u64 (K : Nat)) ∧ W'.cell? ⟨w.heap.size, 2, none⟩ = some (.slice bo M dap)) := fun W' k => cells3 ((k.block _ (lt_of_block hx0) (fun f => f)).trans hx0)
  have HW := toHid hW
  have HK0 := toHid k0
  obtain ⟨R, hR⟩ : ∃ R : Bool, R = decide ((L ≤ 40 ∧ M ≤ 40) ∧ N1 ≤ 40) := ⟨_, rfl⟩
  have JF : Hid (∀ W', Kept Nought W W' → Calls Try.prog 13 #[.agg #[.slice ao L cap, .int .u64 (K : Nat), .slice bo M dap], .slice (some ⟨W'.heap.size, 0, none⟩) 1 1] (W'.alloc (.cells #[.slice xo N1 xc] 23)) fun r w' => r = .returned (.bool R) ∧ Kept Nought W w') := fun W' k => by
    refine (f7Few ao bo L M cap dap K _ 1 1 _ _ _ _ (by omega) R ?_ (one_slot (heap_alloc_new W' _))).mono ?_
    · rw [hR]
      exact decide_eq_decide.2 (and_congr_right fun _ => ⟨fun h i hi => h, fun h => h 0 (by omega)⟩)
    · rintro e w' ⟨rfl, k'⟩
      exact ⟨rfl, (k.alloc _).trans k'⟩
  by_cases h4 : (L ≤ 40 ∧ M ≤ 40) ∧ N1 ≤ 40
  · obtain rfl : R = true := by rw [hR]; exact decide_eq_true h4
    obtain ⟨RL0, hRL0⟩ : ∃ RL, RL = digs 18446744073709551616 (halfM (val 18446744073709551616 xs) (val 18446744073709551616 ms)) L := ⟨_, rfl⟩
    by_cases hP : okMod ms K rs ∧ (N1 = L ∧ val 18446744073709551616 xs < val 18446744073709551616 ms)
    · obtain ⟨RL, hRL⟩ : ∃ RL, RL = if 0 = 0 then digs 18446744073709551616 (halfM (val 18446744073709551616 xs) (val 18446744073709551616 ms)) L else [] := ⟨_, rfl⟩
      have J1 : Hid (∀ W', Kept Nought W W' → Calls Try.prog 20 #[.pointer none, .agg #[.slice ao L cap, .int .u64 (K : Nat), .slice bo M dap], .slice xo N1 xc] W' fun e w' => ∃ v', e = .returned (.tuple #[v', .int .i64 ((0 : Nat) : Int)]) ∧ Row .u64 w' v' RL ∧ Kept Nought W' w') := fun W' k => half7 ao bo xo L M K cap dap N1 xc ms rs xs 0 (.inl ⟨rfl, hP⟩) RL hRL W' (hu.grew (k0.trans k)) (hv.grew (k0.trans k)) (hx.grew (k0.trans k)) hdm hdr hdx hK (by omega) (by omega)
      have J2 : Hid (∀ W', Kept Nought W W' → Calls Try.prog 21 #[.agg #[.slice ao L cap, .int .u64 (K : Nat), .slice bo M dap], .slice xo N1 xc] W' fun e w' => ∃ v', e = .returned (.tuple #[v', .int .i64 ((0 : Nat) : Int)]) ∧ Row .u64 w' v' RL ∧ Kept Nought W' w') := fun W' k => q7Half ao bo xo L M N1 cap dap xc K ms rs xs 0 (.inl ⟨rfl, hP⟩) RL hRL W' (hu.grew (k0.trans k)) (hv.grew (k0.trans k)) (hx.grew (k0.trans k)) hdm hdx (by omega)
      have JS : Hid (∀ W' (u v : Value) (l : List Nat) (E : Nat), Row .u64 W' u l → Row .u64 W' v l → Calls Try.prog 12 #[u, .int .i64 (E : Nat), v, .int .i64 (E : Nat)] W' fun r w' => r = .returned (.bool true) ∧ Kept Nought W' w') := fun W' u v l E h1 h2 => f7as u v l l E E true (by simp) W' h1 h2
      obtain ⟨f1, f2, f3, f4, f5, f6, f7⟩ := hP.1.facts hL.out hM.out hdm hdr hK
      have JM : Hid (∀ W' v', Row .u64 W' v' RL → Mem7 L (val 18446744073709551616 ms) W' v' (halfM (val 18446744073709551616 xs) (val 18446744073709551616 ms))) := fun W' v' h => ⟨by rw [if_pos rfl] at hRL; rw [← hRL]; exact h, half_lt hP.2.2⟩
      have JU : Hid (∀ W' v', Kept Nought W W' → Mem7 L (val 18446744073709551616 ms) W' v' (halfM (val 18446744073709551616 xs) (val 18446744073709551616 ms)) → Calls Try.prog 23 #[.agg #[.slice ao L cap, .int .u64 (K : Nat), .slice bo M dap], v', v'] W' fun e w' => ∃ v2, e = .returned v2 ∧ Mem7 L (val 18446744073709551616 ms) w' v2 ((halfM (val 18446744073709551616 xs) (val 18446744073709551616 ms) + halfM (val 18446744073709551616 xs) (val 18446744073709551616 ms)) % val 18446744073709551616 ms) ∧ Kept Nought W' w') := fun W' v' k h => sum7 ao bo L M K cap dap ms rs v' v' _ _ W' hP.1 (hu.grew (k0.trans k)) (hv.grew (k0.trans k)) hdm hdr hK h h
      have JX : Hid (∀ W', Kept Nought W W' → Mem7 L (val 18446744073709551616 ms) W' (.slice xo N1 xc) (val 18446744073709551616 xs)) := fun W' k => Mem7.of (hx.grew (k0.trans k)) hdx (hLN1.out.trans hP.2.1) hP.2.2
      have HD := toHid (half_dbl hP.2.2 f5)
      clear f1 f2 f3 f4 f5 f6 f7
      clear hu hv hx hdm hdr hdx hb hK hR hx0 hW k0 hL hM hP hLN1 hRL hRL0
      go_enter Try.func5, Try.ntmps5
      go_wp2_with (rw [← HW.out])
      refine hA.mono ?_
      rintro e w1 ⟨rfl, k1⟩
      obtain ⟨p0, p1, p2⟩ := JC.out _ k1
      have hF := JF.out _ k1
      clear hA
      go_wp2_with fail
      refine hF.mono ?_
      rintro e w2 ⟨rfl, k2⟩
      obtain ⟨q0, q1, q2⟩ := JC.out _ k2
      have hC := J1.out _ k2
      clear hF p0 p1 p2
      go_wp2_with fail
      refine hC.mono ?_
      rintro e w3 ⟨v3, rfl, hr, kk⟩
      have HR3 := toHid hr
      have k3 := k2.trans kk
      have hC0 := toHid trivial
      clear hC q0 q1 q2 hr kk
      obtain ⟨q0, q1, q2⟩ := JC.out _ k3
      have hC := J2.out _ k3
      clear hC0
      go_wp2_with fail
      refine hC.mono ?_
      rintro e w4 ⟨v4, rfl, hr, kk⟩
      have HR3 := toHid (HR3.out.grew kk)
      have HR4 := toHid hr
      have k4 := k3.trans kk
      have hC0 := toHid trivial
      clear hC q0 q1 q2 hr kk
      have hS := JS.out _ v3 v4 RL 0 HR3.out HR4.out
      obtain ⟨q0, q1, q2⟩ := JC.out _ k4
      clear hC0
      generalize val 18446744073709551616 ms = VV at *
      generalize val 18446744073709551616 xs = XX at *
      go_wp2_with fail
      refine hS.mono ?_
      rintro e w5 ⟨rfl, k5⟩
      have k5' := k4.trans k5
      obtain ⟨r0, r1, r2⟩ := JC.out _ k5'
      have hU := JU.out _ v3 k5' (JM.out _ _ (HR3.out.grew k5))
      clear hS q0 q1 q2
      go_wp2_with fail
      refine hU.mono ?_
      rintro e w6 ⟨v6, rfl, m6, k6⟩
      have hQ := same7 _ m6 (JX.out _ (k5'.trans k6)) HD.out
      clear hU r0 r1 r2
      go_wp2_with fail
      refine hQ.mono ?_
      rintro e w7 ⟨rfl, k7⟩
      go_wp2_with fail
      go_ret
      exact ⟨rfl, below_kept (HK0.out.trans (k5'.trans (k6.trans k7))) (Nat.le_refl _)⟩
    · obtain ⟨RL, hRL⟩ : ∃ RL, RL = if 1 = 0 then digs 18446744073709551616 (halfM (val 18446744073709551616 xs) (val 18446744073709551616 ms)) L else [] := ⟨_, rfl⟩
      have J1 : Hid (∀ W', Kept Nought W W' → Calls Try.prog 20 #[.pointer none, .agg #[.slice ao L cap, .int .u64 (K : Nat), .slice bo M dap], .slice xo N1 xc] W' fun e w' => ∃ v', e = .returned (.tuple #[v', .int .i64 ((1 : Nat) : Int)]) ∧ Row .u64 w' v' RL ∧ Kept Nought W' w') := fun W' k => half7 ao bo xo L M K cap dap N1 xc ms rs xs 1 (.inr ⟨rfl, hP⟩) RL hRL W' (hu.grew (k0.trans k)) (hv.grew (k0.trans k)) (hx.grew (k0.trans k)) hdm hdr hdx hK (by omega) (by omega)
      have J2 : Hid (∀ W', Kept Nought W W' → Calls Try.prog 21 #[.agg #[.slice ao L cap, .int .u64 (K : Nat), .slice bo M dap], .slice xo N1 xc] W' fun e w' => ∃ v', e = .returned (.tuple #[v', .int .i64 ((1 : Nat) : Int)]) ∧ Row .u64 w' v' RL ∧ Kept Nought W' w') := fun W' k => q7Half ao bo xo L M N1 cap dap xc K ms rs xs 1 (.inr ⟨rfl, hP⟩) RL hRL W' (hu.grew (k0.trans k)) (hv.grew (k0.trans k)) (hx.grew (k0.trans k)) hdm hdx (by omega)
      have JS : Hid (∀ W' (u v : Value) (l : List Nat) (E : Nat), Row .u64 W' u l → Row .u64 W' v l → Calls Try.prog 12 #[u, .int .i64 (E : Nat), v, .int .i64 (E : Nat)] W' fun r w' => r = .returned (.bool true) ∧ Kept Nought W' w') := fun W' u v l E h1 h2 => f7as u v l l E E true (by simp) W' h1 h2
      clear hu hv hx hdm hdr hdx hb hK hR hx0 hW k0 hL hM hP hLN1 hRL hRL0
      go_enter Try.func5, Try.ntmps5
      go_wp2_with (rw [← HW.out])
      refine hA.mono ?_
      rintro e w1 ⟨rfl, k1⟩
      obtain ⟨p0, p1, p2⟩ := JC.out _ k1
      have hF := JF.out _ k1
      clear hA
      go_wp2_with fail
      refine hF.mono ?_
      rintro e w2 ⟨rfl, k2⟩
      obtain ⟨q0, q1, q2⟩ := JC.out _ k2
      have hC := J1.out _ k2
      clear hF p0 p1 p2
      go_wp2_with fail
      refine hC.mono ?_
      rintro e w3 ⟨v3, rfl, hr, kk⟩
      have HR3 := toHid hr
      have k3 := k2.trans kk
      have hC0 := toHid trivial
      clear hC q0 q1 q2 hr kk
      obtain ⟨q0, q1, q2⟩ := JC.out _ k3
      have hC := J2.out _ k3
      clear hC0
      go_wp2_with fail
      refine hC.mono ?_
      rintro e w4 ⟨v4, rfl, hr, kk⟩
      have HR3 := toHid (HR3.out.grew kk)
      have HR4 := toHid hr
      have k4 := k3.trans kk
      have hC0 := toHid trivial
      clear hC q0 q1 q2 hr kk
      have hS := JS.out _ v3 v4 RL 1 HR3.out HR4.out
      obtain ⟨q0, q1, q2⟩ := JC.out _ k4
      clear hC0
      go_wp2_with fail
      refine hS.mono ?_
      rintro e w5 ⟨rfl, k5⟩
      go_wp2_with fail
      go_ret
      exact ⟨rfl, below_kept (HK0.out.trans (k4.trans k5)) (Nat.le_refl _)⟩
  · obtain rfl : R = false := by rw [hR]; exact decide_eq_false h4
    clear hu hv hx hdm hdr hdx hb hK hL hM hLN1 hR hx0 hW k0 h4
    go_enter Try.func5, Try.ntmps5
    go_wp2_with (rw [← HW.out])
    refine hA.mono ?_
    rintro e w1 ⟨rfl, k1⟩
    obtain ⟨p0, p1, p2⟩ := JC.out _ k1
    have hF := JF.out _ k1
    clear hA
    go_wp2_with fail
    refine hF.mono ?_
    rintro e w2 ⟨rfl, k2⟩
    go_wp2_with fail
    go_ret
    exact ⟨rfl, below_kept (HK0.out.trans k2) (Nat.le_refl _)⟩

end Go.Proofs.Ytaehphckkmbbnaa
