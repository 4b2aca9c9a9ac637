/- The law InverseOf, walked. -/
import Derived.Test.YtamkkmifbajdfaaLaw10
import Derived.Test.YtamkkmifbajdfaaRef10B
import Derived.Test.YtamkkmifbajdfaaOpenRow
namespace Go.Proofs.Ytamkkmifbajdfaa
open Go.RowKit

set_option maxRecDepth 20000 in
set_option maxHeartbeats 4000000 in
theorem walkInverseOf (u : Value) (ms : List Nat) (k : Int) (v : Value) (rs : List Nat) (x : Value) (xs : List Nat) (w : World) (hu : Row .u64 w u ms) (hv : Row .u64 w v rs) (hx : Row .u64 w x xs) (hdm : Digs 18446744073709551616 ms) (hdr : Digs 18446744073709551616 rs) (hdx : Digs 18446744073709551616 xs) (hb : (Lit.int .u64 k).wf = true) :
    Calls Try.prog 4 #[.agg #[u, .int .u64 k, v], x] w fun e w' => e = .returned (.bool true) ∧ Below w.heap.size w w' := by
  obtain ⟨K, rfl, hK⟩ : ∃ D : Nat, k = (D : Int) ∧ D < 18446744073709551616 := by
    have := wf_u64 k hb
    exact ⟨k.toNat, by omega, by omega⟩
  obtain ⟨ao, L, cap, rfl, hL, _, _, _, _⟩ := hu.open
  obtain ⟨bo, M, dap, rfl, hM, _, _, _, _⟩ := hv.open
  obtain ⟨xo, N1, xc, rfl, hLN1, _, _, _, _⟩ := hx.open
  obtain ⟨W, hW⟩ : ∃ W, W = w.alloc (.cells #[.slice ao L cap, .int .u64 (K : Nat), .slice bo M dap] 29) := ⟨_, rfl⟩
  have k0 : Kept Nought w W := by rw [hW]; exact (Kept.refl Nought w).alloc _
  have hx0 : W.heap[w.heap.size]? = some (.cells #[.slice ao L cap, .int .u64 (K : Nat), .slice bo M dap] 29 (0, 0)) := by rw [hW]; exact heap_alloc_new _ _
  have hA := f10Awake W
  have JC : Hid (∀ W', Kept Nought W W' → W'.cell? ⟨w.heap.size, 0, none⟩ = some (.slice ao L cap) ∧ W'.cell? ⟨w.heap.size, 1, none⟩ = some (.int .u64 (K : Nat)) ∧ W'.cell? ⟨w.heap.size, 2, none⟩ = some (.slice bo M dap)) := fun W' k => cells3 ((k.block _ (lt_of_block hx0) (fun f => f)).trans hx0)
  have HW := toHid hW
  have HK0 := toHid k0
  obtain ⟨R, hR⟩ : ∃ R : Bool, R = decide (((L ≤ 40 ∧ M ≤ 40) ∧ N1 ≤ 40) ∧ L ≤ 10 ∧ ((0 : Nat) ≤ 6 ∨ (0 : Nat) = 301)) := ⟨_, rfl⟩
  have JF : Hid (∀ W', Kept Nought W W' → Calls Try.prog 10 #[.agg #[.slice ao L cap, .int .u64 (K : Nat), .slice bo M dap], .slice xo N1 xc, .slice none 0 0] W' fun r w' => r = .returned (.bool R) ∧ Kept Nought W w') := fun W' k => by
    refine (f8Few ao bo xo none L M N1 0 cap dap xc 0 (K : Nat) W' R hR).mono ?_
    rintro e w' ⟨rfl, k'⟩
    exact ⟨rfl, k.trans k'⟩
  by_cases h4 : ((L ≤ 40 ∧ M ≤ 40) ∧ N1 ≤ 40) ∧ L ≤ 10 ∧ ((0 : Nat) ≤ 6 ∨ (0 : Nat) = 301)
  · obtain rfl : R = true := by rw [hR]; exact decide_eq_true h4
    by_cases h5 : L ≤ 5
    · have g5 : ¬ (L : Int) > 5 := by omega
      have J1 : Hid (∀ W', Kept Nought W W' → Calls Try.prog 11 #[.pointer none, .agg #[.slice ao L cap, .int .u64 (K : Nat), .slice bo M dap], .slice xo N1 xc] W' fun e w' => ∃ (v' : Value) (F E : Nat), e = .returned (.tuple #[v', .int .u64 (F : Nat), .int .i64 (E : Nat)]) ∧ ∃ T RL, Row .u64 w' v' RL ∧ Kept Nought W' w' ∧ Hid (Of10 (okMod ms K rs ∧ (N1 = L ∧ val 18446744073709551616 xs < val 18446744073709551616 ms)) L (val 18446744073709551616 xs) (val 18446744073709551616 ms) E T F RL)) := fun W' k => of10 ao bo xo L M K cap dap N1 xc ms rs xs W' (hu.grew (k0.trans k)) (hv.grew (k0.trans k)) (hx.grew (k0.trans k)) hdm hdr hdx hK (by omega)
      have J2 : Hid (∀ W' E T F RL, Kept Nought W W' → Of10 (okMod ms K rs ∧ (N1 = L ∧ val 18446744073709551616 xs < val 18446744073709551616 ms)) L (val 18446744073709551616 xs) (val 18446744073709551616 ms) E T F RL → Calls Try.prog 12 #[.agg #[.slice ao L cap, .int .u64 (K : Nat), .slice bo M dap], .slice xo N1 xc] W' fun e w' => ∃ v', e = .returned (.tuple #[v', .int .u64 (F : Nat), .int .i64 (E : Nat)]) ∧ Row .u64 w' v' RL ∧ Kept Nought W' w') := fun W' E T F RL k h => q10Of ao bo xo L M N1 cap dap xc K ms rs xs E T F h.1 (fun e => h.2.1 e) h.2.2.1 RL h.2.2.2 W' (hu.grew (k0.trans k)) (hv.grew (k0.trans k)) (hx.grew (k0.trans k)) hdm hdx (by omega)
      have JS : Hid (∀ W' (u v : Value) (l : List Nat), Row .u64 W' u l → Row .u64 W' v l → Calls Try.prog 13 #[u, v] W' fun r w' => r = .returned (.bool true) ∧ Kept Nought W' w') := fun W' u v l h1 h2 => by
        refine (rSame u v l l W' h1 h2).mono ?_
        rintro e w' ⟨rfl, n, rfl⟩
        exact ⟨by rw [decide_eq_true rfl], (Kept.refl Nought W').drewN n⟩
      clear hu hv hx hdm hdr hdx hb hK hR hx0 hW k0 hL hM hLN1 h4
      go_enter Try.func4, Try.ntmps4
      go_wp2_with (rw [← HW.out])
      refine hA.mono ?_
      rintro e w1 ⟨rfl, k1⟩
      obtain ⟨p0, p1, p2⟩ := JC.out _ k1
      have hF := JF.out _ k1
      clear hA
      go_wp2_with fail
      refine hF.mono ?_
      rintro e w2 ⟨rfl, k2⟩
      obtain ⟨q0, q1, q2⟩ := JC.out _ k2
      clear hF p0 p1 p2
      have hC := J1.out _ k2
      go_wp2_with fail
      refine hC.mono ?_
      rintro e w3 ⟨v3, F, E, rfl, T, RL, hr, kk, H10⟩
      have HR3 := toHid hr
      have k3 := k2.trans kk
      clear hC q0 q1 q2 hr kk
      obtain ⟨q0, q1, q2⟩ := JC.out _ k3
      have hC := J2.out _ E T F RL k3 H10.out
      go_wp2_with fail
      refine hC.mono ?_
      rintro e w4 ⟨v4, rfl, hr, kk⟩
      have hS := JS.out w4 v3 v4 RL (HR3.out.grew kk) hr
      have k4 := k3.trans kk
      clear hC q0 q1 q2 hr kk HR3
      go_wp2_with fail
      refine hS.mono ?_
      rintro e w5 ⟨rfl, k5⟩
      go_wp2_with fail
      go_ret
      exact ⟨rfl, below_kept (HK0.out.trans (k4.trans k5)) (Nat.le_refl _)⟩
    · have g5 : (L : Int) > 5 := by omega
      clear hu hv hx hdm hdr hdx hb hK hR hx0 hW k0 hL hM hLN1 h4
      clear h5
      go_enter Try.func4, Try.ntmps4
      go_wp2_with (rw [← HW.out])
      refine hA.mono ?_
      rintro e w1 ⟨rfl, k1⟩
      obtain ⟨p0, p1, p2⟩ := JC.out _ k1
      have hF := JF.out _ k1
      clear hA
      go_wp2_with fail
      refine hF.mono ?_
      rintro e w2 ⟨rfl, k2⟩
      obtain ⟨q0, q1, q2⟩ := JC.out _ k2
      clear hF p0 p1 p2
      go_wp2_with fail
      go_ret
      exact ⟨rfl, below_kept (HK0.out.trans k2) (Nat.le_refl _)⟩
  · obtain rfl : R = false := by rw [hR]; exact decide_eq_false h4
    clear hu hv hx hdm hdr hdx hb hK hR hx0 hW k0 hL hM hLN1 h4
    go_enter Try.func4, Try.ntmps4
    go_wp2_with (rw [← HW.out])
    refine hA.mono ?_
    rintro e w1 ⟨rfl, k1⟩
    obtain ⟨p0, p1, p2⟩ := JC.out _ k1
    have hF := JF.out _ k1
    clear hA
    go_wp2_with fail
    refine hF.mono ?_
    rintro e w2 ⟨rfl, k2⟩
    obtain ⟨q0, q1, q2⟩ := JC.out _ k2
    clear hF p0 p1 p2
    go_wp2_with fail
    go_ret
    exact ⟨rfl, below_kept (HK0.out.trans k2) (Nat.le_refl _)⟩

end Go.Proofs.Ytamkkmifbajdfaa
