/- The law MontChecks, walked: whatever the modulus. -/
import Derived.Test.YtpgccioblgcjaaaL6B
import Derived.Test.YtpgccioblgcjaaaOpenRow
namespace Go.Proofs.Ytpgccioblgcjaaa
open Go.RowKit

set_option maxRecDepth 20000 in
set_option maxHeartbeats 2000000 in
theorem walkMontChecks (u : Value) (ms : List Nat) (k : Int) (v : Value) (rs : List Nat) (w : World) (hu : Row .u64 w u ms) (hv : Row .u64 w v rs) (hdm : Digs 18446744073709551616 ms) (hdr : Digs 18446744073709551616 rs) (hb : (Lit.int .u64 k).wf = true) :
    Calls Try.prog 4 #[.agg #[u, .int .u64 k, v]] w fun e w' => e = .returned (.bool true) ∧ Below w.heap.size w w' := by
  obtain ⟨K, rfl, hK⟩ : ∃ D : Nat, k = (D : Int) ∧ D < 18446744073709551616 := by
    have := wf_u64 k hb
    exact ⟨k.toNat, by omega, by omega⟩
  obtain ⟨ao, L, cap, rfl, hL, _, _, _, _⟩ := hu.open
  obtain ⟨bo, M, dap, rfl, hM, _, _, _, _⟩ := hv.open
  obtain ⟨W, hW⟩ : ∃ W, W = w.alloc (.cells #[.slice ao L cap, .int .u64 (K : Nat), .slice bo M dap] 28) := ⟨_, rfl⟩
  have k0 : Kept Nought w W := by rw [hW]; exact (Kept.refl Nought w).alloc _
  have hx0 : W.heap[w.heap.size]? = some (.cells #[.slice ao L cap, .int .u64 (K : Nat), .slice bo M dap] 28 (0, 0)) := by rw [hW]; exact heap_alloc_new _ _
  have hA := f6Awake W
  have JC : Hid (∀ W', Kept Nought W W' → W'.cell? ⟨w.heap.size, 0, none⟩ = some (.slice ao L cap) ∧ W'.cell? ⟨w.heap.size, 1, none⟩ = some (.int .u64 (K : Nat)) ∧ W'.cell? ⟨w.heap.size, 2, none⟩ = some (.slice bo M dap)) := fun W' k => cells3 ((k.block _ (lt_of_block hx0) (fun f => f)).trans hx0)
  have HW := toHid hW
  have HK0 := toHid k0
  by_cases h4 : L ≤ 40 ∧ M ≤ 40
  · have JF : Hid (∀ W', Kept Nought W W' → Calls Try.prog 14 #[.agg #[.slice ao L cap, .int .u64 (K : Nat), .slice bo M dap], .slice none 0 0] W' fun r w' => r = .returned (.bool true) ∧ Kept Nought W w') := fun W' k => by
      refine (f6few ao bo L M cap dap K none 0 0 (fun _ => none) (fun _ => 0) (fun _ => 0) W' (by omega) true (decide_eq_true ⟨h4, fun i hi => absurd hi (by omega)⟩).symm (fun i hi => absurd hi (by omega))).mono ?_
      rintro e w' ⟨rfl, k'⟩
      exact ⟨rfl, k.trans k'⟩
    obtain ⟨R, hR⟩ : ∃ R : Bool, R = true ↔ okMod ms K rs := by
      by_cases h : okMod ms K rs
      · exact ⟨true, by simp [h]⟩
      · exact ⟨false, by simp [h]⟩
    have J1 : Hid (∀ W', Kept Nought W W' → Calls Try.prog 15 #[.agg #[.slice ao L cap, .int .u64 (K : Nat), .slice bo M dap]] W' fun r w' => r = .returned (.bool R) ∧ Kept Nought W w') := fun W' k => by
      refine (mCheck ao bo L M K cap dap ms rs R hR W' (hu.grew (k0.trans k)) (hv.grew (k0.trans k)) hdm hdr hK (by omega)).mono ?_
      rintro e w' ⟨rfl, k'⟩
      exact ⟨rfl, k.trans k'⟩
    have J2 : Hid (∀ W', Kept Nought W W' → Calls Try.prog 16 #[.agg #[.slice ao L cap, .int .u64 (K : Nat), .slice bo M dap]] W' fun r w' => r = .returned (.bool R) ∧ Kept Nought W w') := fun W' k => by
      refine (q6Check ao bo L M cap dap K ms rs R hR W' (hu.grew (k0.trans k)) (hv.grew (k0.trans k)) hdm (by omega)).mono ?_
      rintro e w' ⟨rfl, k'⟩
      exact ⟨rfl, k.trans k'⟩
    clear hu hv hdm hdr hb hR hx0 hW k0 hL hM
    go_enter Try.func4, Try.ntmps4
    go_wp2_with (rw [← HW.out])
    refine hA.mono ?_
    rintro e w1 ⟨rfl, k1⟩
    obtain ⟨p0, p1, p2⟩ := JC.out _ k1
    have kd : Kept Nought W w1.drew := k1.drew
    clear hA
    go_wp2_with fail
    go_region_held3 (fun w' => w'.cell? ⟨w.heap.size, 0, none⟩ = some (.slice ao L cap) ∧ w'.cell? ⟨w.heap.size, 1, none⟩ = some (.int .u64 (K : Int)) ∧ w'.cell? ⟨w.heap.size, 2, none⟩ = some (.slice bo M dap))
      (((try dsimp only); (repeat' apply And.intro) <;> first | (go_keep; done) | assumption))
      (first
      | (go_at_call 14; refine (JF.out _ kd).mono ?_; rintro e w2 ⟨rfl, k2⟩; obtain ⟨q0, q1, q2⟩ := JC.out _ k2)
      | (go_at_call 15; refine (J1.out _ k2).mono ?_; rintro e w3 ⟨rfl, k3⟩; obtain ⟨r0, r1, r2⟩ := JC.out _ k3)
      | (go_at_call 16; refine (J2.out _ k3).mono ?_; rintro e w4 ⟨rfl, k4⟩; obtain ⟨s0, s1, s2⟩ := JC.out _ k4))
    all_goals
      go_wp2_with fail
      go_ret
      exact ⟨rfl, below_kept (HK0.out.trans k4) (Nat.le_refl _)⟩
  · have JF : Hid (∀ W', Kept Nought W W' → Calls Try.prog 14 #[.agg #[.slice ao L cap, .int .u64 (K : Nat), .slice bo M dap], .slice none 0 0] W' fun r w' => r = .returned (.bool false) ∧ Kept Nought W w') := fun W' k => by
      refine (f6few ao bo L M cap dap K none 0 0 (fun _ => none) (fun _ => 0) (fun _ => 0) W' (by omega) false (decide_eq_false (fun h => h4 h.1)).symm (fun i hi => absurd hi (by omega))).mono ?_
      rintro e w' ⟨rfl, k'⟩
      exact ⟨rfl, k.trans k'⟩
    clear hu hv hdm hdr hb hx0 hW k0 hL hM h4
    go_enter Try.func4, Try.ntmps4
    go_wp2_with (rw [← HW.out])
    refine hA.mono ?_
    rintro e w1 ⟨rfl, k1⟩
    obtain ⟨p0, p1, p2⟩ := JC.out _ k1
    have kd : Kept Nought W w1.drew := k1.drew
    clear hA
    go_wp2_with fail
    go_region_with (go_at_call 14; refine (JF.out _ kd).mono ?_; rintro e w2 ⟨rfl, k2⟩)
    all_goals
      go_wp2_with fail
      go_ret
      exact ⟨rfl, below_kept (HK0.out.trans k2) (Nat.le_refl _)⟩

end Go.Proofs.Ytpgccioblgcjaaa
