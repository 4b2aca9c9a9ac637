/- The law MontMuls, walked: whatever the modulus and the numbers. -/
import Derived.Test.YtpgccioblgcjaaaL6C
import Derived.Test.YtpgccioblgcjaaaOpenRow
namespace Go.Proofs.Ytpgccioblgcjaaa
open Go.RowKit

set_option maxRecDepth 20000 in
set_option maxHeartbeats 2000000 in
theorem walkMontMuls (u : Value) (ms : List Nat) (k : Int) (v : Value) (rs : List Nat) (x : Value) (xs : List Nat) (y : Value) (ys : List Nat) (w : World) (hu : Row .u64 w u ms) (hv : Row .u64 w v rs) (hx : Row .u64 w x xs) (hy : Row .u64 w y ys) (hdm : Digs 18446744073709551616 ms) (hdr : Digs 18446744073709551616 rs) (hdx : Digs 18446744073709551616 xs) (hdy : Digs 18446744073709551616 ys) (hb : (Lit.int .u64 k).wf = true) :
    Calls Try.prog 5 #[.agg #[u, .int .u64 k, v], x, y] w fun e w' => e = .returned (.bool true) ∧ Below w.heap.size w w' := by
  obtain ⟨K, rfl, hK⟩ : ∃ D : Nat, k = (D : Int) ∧ D < 18446744073709551616 := by
    have := wf_u64 k hb
    exact ⟨k.toNat, by omega, by omega⟩
  obtain ⟨ao, L, cap, rfl, hL, _, _, _, _⟩ := hu.open
  obtain ⟨bo, M, dap, rfl, hM, _, _, _, _⟩ := hv.open
  obtain ⟨xo, N1, xc, rfl, _, _, _, _, _⟩ := hx.open
  obtain ⟨yo, N2, yc, rfl, _, _, _, _, _⟩ := hy.open
  obtain ⟨W, hW⟩ : ∃ W, W = w.alloc (.cells #[.slice ao L cap, .int .u64 (K : Nat), .slice bo M dap] 28) := ⟨_, rfl⟩
  have k0 : Kept Nought w W := by rw [hW]; exact (Kept.refl Nought w).alloc _
  have hx0 : W.heap[w.heap.size]? = some (.cells #[.slice ao L cap, .int .u64 (K : Nat), .slice bo M dap] 28 (0, 0)) := by rw [hW]; exact heap_alloc_new _ _
  have hA := f6Awake W
  have JC : Hid (∀ W', Kept Nought W W' → W'.cell? ⟨w.heap.size, 0, none⟩ = some (.slice ao L cap) ∧ W'.cell? ⟨w.heap.size, 1, none⟩ = some (.int .u64 (K : Nat)) ∧ W'.cell? ⟨w.heap.size, 2, none⟩ = some (.slice bo M dap)) := fun W' k => cells3 ((k.block _ (lt_of_block hx0) (fun f => f)).trans hx0)
  have HW := toHid hW
  have HK0 := toHid k0
  obtain ⟨R, hR⟩ : ∃ R : Bool, R = decide ((L ≤ 40 ∧ M ≤ 40) ∧ N1 ≤ 40 ∧ N2 ≤ 40) := ⟨_, rfl⟩
  have JF : Hid (∀ W', Kept Nought W W' → Calls Try.prog 14 #[.agg #[.slice ao L cap, .int .u64 (K : Nat), .slice bo M dap], .slice (some ⟨W'.heap.size, 0, none⟩) 2 2] (W'.alloc (.cells #[.slice xo N1 xc, .slice yo N2 yc] 23)) fun r w' => r = .returned (.bool R) ∧ Kept Nought W w') := fun W' k => by
    refine (f6few ao bo L M cap dap K _ 2 2 _ _ _ _ (by omega) R ?_ (two_slots (heap_alloc_new W' _))).mono ?_
    · rw [hR]
      refine decide_eq_decide.2 (and_congr_right fun _ => ⟨fun h i hi => ?_, fun h => ⟨h 0 (by omega), h 1 (by omega)⟩⟩)
      have h01 : i = 0 ∨ i = 1 := by omega
      rcases h01 with rfl | rfl
      · exact h.1
      · exact h.2
    · rintro e w' ⟨rfl, k'⟩
      exact ⟨rfl, (k.alloc _).trans k'⟩
  by_cases h4 : (L ≤ 40 ∧ M ≤ 40) ∧ N1 ≤ 40 ∧ N2 ≤ 40
  · obtain rfl : R = true := by rw [hR]; exact decide_eq_true h4
    obtain ⟨E, hE, hE1⟩ := err_of (okMod ms K rs ∧ (N1 = L ∧ val 18446744073709551616 xs < val 18446744073709551616 ms) ∧ (N2 = L ∧ val 18446744073709551616 ys < val 18446744073709551616 ms))
    have J1 : Hid (∀ W', Kept Nought W W' → Calls Try.prog 17 #[.pointer none, .agg #[.slice ao L cap, .int .u64 (K : Nat), .slice bo M dap], .slice xo N1 xc, .slice yo N2 yc] W' fun e w' => ∃ v', e = .returned (.tuple #[v', .int .i64 (E : Int)]) ∧ Kept Nought W' w' ∧ ∃ Y, Row .u64 w' v' (if E = 0 then digs 18446744073709551616 Y L else []) ∧ (E = 0 → MulG L (val 18446744073709551616 ms) (val 18446744073709551616 xs) (val 18446744073709551616 ys) Y)) := fun W' k =>
      mul6 ao bo xo yo L M K cap dap N1 N2 xc yc E ms rs xs ys W' (hu.grew (k0.trans k)) (hv.grew (k0.trans k)) (hx.grew (k0.trans k)) (hy.grew (k0.trans k)) hdm hdr hdx hdy hK (by omega) hE hE1
    have J2 : Hid (∀ W' Y, Kept Nought W W' → (E = 0 → MulG L (val 18446744073709551616 ms) (val 18446744073709551616 xs) (val 18446744073709551616 ys) Y) → Calls Try.prog 18 #[.agg #[.slice ao L cap, .int .u64 (K : Nat), .slice bo M dap], .slice xo N1 xc, .slice yo N2 yc] W' fun e w' => ∃ v', e = .returned (.tuple #[v', .int .i64 (E : Int)]) ∧ Kept Nought W' w' ∧ Row .u64 w' v' (if E = 0 then digs 18446744073709551616 Y L else [])) := fun W' Y k hY =>
      mulR6 ao bo xo yo L M K cap dap N1 N2 xc yc E ms rs xs ys W' (hu.grew (k0.trans k)) (hv.grew (k0.trans k)) (hx.grew (k0.trans k)) (hy.grew (k0.trans k)) hdm hdx hdy (by omega) hE hE1 Y hY
    clear hu hv hx hy hdm hdr hdx hdy hb hK hR hx0 hW k0 hL hM hE
    go_enter Try.func5, Try.ntmps5
    go_wp2_with (rw [← HW.out])
    refine hA.mono ?_
    rintro e w1 ⟨rfl, k1⟩
    obtain ⟨p0, p1, p2⟩ := JC.out _ k1
    have hF := JF.out _ k1
    clear hA
    go_wp2_with fail
    refine hF.mono ?_
    rintro e w2 ⟨rfl, k2⟩
    obtain ⟨q0, q1, q2⟩ := JC.out _ k2
    have hMu := J1.out _ k2
    clear hF p0 p1 p2
    go_wp2_with fail
    refine hMu.mono ?_
    rintro e w3 ⟨v3, rfl, k3, Y, hr3, hY⟩
    have K3 := k2.trans k3
    obtain ⟨r0, r1, r2⟩ := JC.out _ K3
    have hRe := J2.out _ Y K3 hY
    have HR3 := toHid hr3
    clear hMu q0 q1 q2 hr3 hY k3
    go_wp2_with fail
    refine hRe.mono ?_
    rintro e w4 ⟨v4, rfl, k4, hr4⟩
    have hS := rSame v3 v4 _ _ w4 (HR3.out.grew k4) hr4
    rw [decide_eq_true rfl] at hS
    have HK4 := toHid (HK0.out.trans (K3.trans k4))
    clear hRe r0 r1 r2 hr4 k4 K3
    go_wp2_with fail
    refine hS.mono ?_
    rintro e w5 ⟨rfl, m5, rfl⟩
    go_wp2_with fail
    go_ret
    exact ⟨rfl, below_kept (HK4.out.drewN m5) (Nat.le_refl _)⟩
  · obtain rfl : R = false := by rw [hR]; exact decide_eq_false h4
    clear hu hv hx hy hdm hdr hdx hdy hb hK hR hx0 hW k0 hL hM h4
    go_enter Try.func5, Try.ntmps5
    go_wp2_with (rw [← HW.out])
    refine hA.mono ?_
    rintro e w1 ⟨rfl, k1⟩
    obtain ⟨p0, p1, p2⟩ := JC.out _ k1
    have hF := JF.out _ k1
    clear hA
    go_wp2_with fail
    refine hF.mono ?_
    rintro e w2 ⟨rfl, k2⟩
    go_wp2_with fail
    go_ret
    exact ⟨rfl, below_kept (HK0.out.trans k2) (Nat.le_refl _)⟩

end Go.Proofs.Ytpgccioblgcjaaa
