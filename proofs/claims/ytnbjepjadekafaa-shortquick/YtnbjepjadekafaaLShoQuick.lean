/- The law ShortQuick, walked. -/
import Derived.Test.YtnbjepjadekafaaLaw9
import Derived.Test.YtnbjepjadekafaaOpenRow
namespace Go.Proofs.Ytnbjepjadekafaa
open Go.RowKit

theorem err9 (P : Prop) (L : Nat) : ∃ E : Nat, (E = 0 ∧ P ∧ L ≤ 300) ∨ (E = 2 ∧ P ∧ 300 < L) ∨ (E = 1 ∧ ¬ P) := by
  by_cases h : P
  · by_cases h2 : L ≤ 300
    · exact ⟨0, .inl ⟨rfl, h, h2⟩⟩
    · exact ⟨2, .inr (.inl ⟨rfl, h, by omega⟩)⟩
  · exact ⟨1, .inr (.inr ⟨rfl, h⟩)⟩

set_option maxRecDepth 20000 in
set_option maxHeartbeats 2000000 in
theorem walkShortQuick (u : Value) (ms : List Nat) (k : Int) (v : Value) (rs : List Nat) (x : Value) (xs : List Nat) (y : Value) (ys : List Nat) (w : World) (hu : Row .u64 w u ms) (hv : Row .u64 w v rs) (hx : Row .u64 w x xs) (hy : Row .u64 w y ys) (hdm : Digs 18446744073709551616 ms) (hdr : Digs 18446744073709551616 rs) (hdx : Digs 18446744073709551616 xs) (hdy : Digs 18446744073709551616 ys) (hb : (Lit.int .u64 k).wf = true) :
    Calls Try.prog 4 #[.agg #[u, .int .u64 k, v], x, y] w fun e w' => e = .returned (.bool true) ∧ Below w.heap.size w w' := by
  obtain ⟨K, rfl, hK⟩ : ∃ D : Nat, k = (D : Int) ∧ D < 18446744073709551616 := by
    have := wf_u64 k hb
    exact ⟨k.toNat, by omega, by omega⟩
  obtain ⟨ao, L, cap, rfl, hL, _, _, _, _⟩ := hu.open
  obtain ⟨bo, M, dap, rfl, hM, _, _, _, _⟩ := hv.open
  obtain ⟨xo, N1, xc, rfl, hLN1, _, _, _, _⟩ := hx.open
  obtain ⟨yo, N2, yc, rfl, hLN2, _, _, _, _⟩ := hy.open
  obtain ⟨W, hW⟩ : ∃ W, W = w.alloc (.cells #[.slice ao L cap, .int .u64 (K : Nat), .slice bo M dap] 26) := ⟨_, rfl⟩
  have k0 : Kept Nought w W := by rw [hW]; exact (Kept.refl Nought w).alloc _
  have hx0 : W.heap[w.heap.size]? = some (.cells #[.slice ao L cap, .int .u64 (K : Nat), .slice bo M dap] 26 (0, 0)) := by rw [hW]; exact heap_alloc_new _ _
  have hA := f9Awake W
  have JC : Hid (∀ W', Kept Nought W W' → W'.cell? ⟨w.heap.size, 0, none⟩ = some (.slice ao L cap) ∧ W'.cell? ⟨w.heap.size, 1, none⟩ = some (.int .u64 (K : Nat)) ∧ W'.cell? ⟨w.heap.size, 2, none⟩ = some (.slice bo M dap)) := fun W' k => cells3 ((k.block _ (lt_of_block hx0) (fun f => f)).trans hx0)
  have HW := toHid hW
  have HK0 := toHid k0
  obtain ⟨R, hR⟩ : ∃ R : Bool, R = decide (((L ≤ 40 ∧ M ≤ 40) ∧ N1 ≤ 40) ∧ L ≤ 10 ∧ (N2 ≤ 6 ∨ N2 = 301)) := ⟨_, rfl⟩
  have JF : Hid (∀ W', Kept Nought W W' → Calls Try.prog 7 #[.agg #[.slice ao L cap, .int .u64 (K : Nat), .slice bo M dap], .slice xo N1 xc, .slice yo N2 yc] W' fun r w' => r = .returned (.bool R) ∧ Kept Nought W w') := fun W' k => by
    refine (f8Few ao bo xo yo L M N1 N2 cap dap xc yc (K : Nat) W' R hR).mono ?_
    rintro e w' ⟨rfl, k'⟩
    exact ⟨rfl, k.trans k'⟩
  by_cases h4 : ((L ≤ 40 ∧ M ≤ 40) ∧ N1 ≤ 40) ∧ L ≤ 10 ∧ (N2 ≤ 6 ∨ N2 = 301)
  · obtain rfl : R = true := by rw [hR]; exact decide_eq_true h4
    obtain ⟨E, hE⟩ := err9 (okMod ms K rs ∧ (N1 = L ∧ val 18446744073709551616 xs < val 18446744073709551616 ms)) N2
    obtain ⟨RL, hRL⟩ : ∃ RL, RL = if E = 0 then digs 18446744073709551616 (val 18446744073709551616 xs ^ val 18446744073709551616 ys % val 18446744073709551616 ms) L else [] := ⟨_, rfl⟩
    have J1 : Hid (∀ W', Kept Nought W W' → Calls Try.prog 11 #[.agg #[.slice ao L cap, .int .u64 (K : Nat), .slice bo M dap], .slice xo N1 xc, .slice yo N2 yc] W' fun e w' => ∃ v', e = .returned (.tuple #[v', .int .i64 ((E : Nat) : Int)]) ∧ Row .u64 w' v' RL ∧ Kept Nought W' w') := fun W' k => sQuick ao bo xo yo L M K cap dap N1 xc N2 yc ms rs xs ys E hE RL hRL W' (hu.grew (k0.trans k)) (hv.grew (k0.trans k)) (hx.grew (k0.trans k)) (hy.grew (k0.trans k)) hdm hdr hdx hdy hK (by omega)
    have J2 : Hid (∀ W', Kept Nought W W' → Calls Try.prog 9 #[.agg #[.slice ao L cap, .int .u64 (K : Nat), .slice bo M dap], .slice xo N1 xc, .slice yo N2 yc] W' fun e w' => ∃ v', e = .returned (.tuple #[v', .int .i64 ((E : Nat) : Int)]) ∧ Row .u64 w' v' RL ∧ Kept Nought W' w') := fun W' k => q8Exp ao bo xo yo L M N1 N2 cap dap xc yc K ms rs xs ys E hE RL hRL W' (hu.grew (k0.trans k)) (hv.grew (k0.trans k)) (hx.grew (k0.trans k)) (hy.grew (k0.trans k)) hdm hdx hdy (by omega)
    have JS : Hid (∀ W' (u v : Value) (l : List Nat), Row .u64 W' u l → Row .u64 W' v l → Calls Try.prog 10 #[u, v] W' fun r w' => r = .returned (.bool true) ∧ Kept Nought W' w') := fun W' u v l h1 h2 => by
      refine (rSame u v l l W' h1 h2).mono ?_
      rintro e w' ⟨rfl, n, rfl⟩
      exact ⟨by rw [decide_eq_true rfl], (Kept.refl Nought W').drewN n⟩
    clear hu hv hx hy hdm hdr hdx hdy hb hK hR hx0 hW k0 hL hM hE hLN1 hLN2 hRL
    go_enter Try.func4, Try.ntmps4
    go_wp2_with (rw [← HW.out])
    refine hA.mono ?_
    rintro e w1 ⟨rfl, k1⟩
    obtain ⟨p0, p1, p2⟩ := JC.out _ k1
    have hF := JF.out _ k1
    clear hA
    go_wp2_with fail
    refine hF.mono ?_
    rintro e w2 ⟨rfl, k2⟩
    obtain ⟨q0, q1, q2⟩ := JC.out _ k2
    have hC := J1.out _ k2
    clear hF p0 p1 p2
    go_wp2_with fail
    refine hC.mono ?_
    rintro e w3 ⟨v3, rfl, hr, kk⟩
    have HR3 := toHid hr
    have k3 := k2.trans kk
    clear hC q0 q1 q2 hr kk
    obtain ⟨q0, q1, q2⟩ := JC.out _ k3
    have hC := J2.out _ k3
    go_wp2_with fail
    refine hC.mono ?_
    rintro e w4 ⟨v4, rfl, hr, kk⟩
    have hS := JS.out w4 v3 v4 RL (HR3.out.grew kk) hr
    have k4 := k3.trans kk
    clear hC q0 q1 q2 hr kk HR3
    go_wp2_with fail
    refine hS.mono ?_
    rintro e w5 ⟨rfl, k5⟩
    go_wp2_with fail
    go_ret
    exact ⟨rfl, below_kept (HK0.out.trans (k4.trans k5)) (Nat.le_refl _)⟩
  · obtain rfl : R = false := by rw [hR]; exact decide_eq_false h4
    clear hu hv hx hy hdm hdr hdx hdy hb hK hL hM hLN1 hLN2 hR hx0 hW k0 h4
    go_enter Try.func4, Try.ntmps4
    go_wp2_with (rw [← HW.out])
    refine hA.mono ?_
    rintro e w1 ⟨rfl, k1⟩
    obtain ⟨p0, p1, p2⟩ := JC.out _ k1
    have hF := JF.out _ k1
    clear hA
    go_wp2_with fail
    refine hF.mono ?_
    rintro e w2 ⟨rfl, k2⟩
    go_wp2_with fail
    go_ret
    exact ⟨rfl, below_kept (HK0.out.trans k2) (Nat.le_refl _)⟩

end Go.Proofs.Ytnbjepjadekafaa
