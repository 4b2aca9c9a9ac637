/- The plain side of layer 7: what comes to 0 with a number. -/
import Derived.Test.YtaehphckkmbbnaaRef7C
namespace Go.Proofs.Ytaehphckkmbbnaa
open Go.RowKit

set_option maxRecDepth 40000 in
set_option maxHeartbeats 2000000 in
theorem q7Neg (ao bo co : Option Addr) (L M N cap dap eap K : Nat) (ms rs xs : List Nat) (E : Nat) (hE : (E = 0 ∧ okMod ms K rs ∧ (N = L ∧ val 18446744073709551616 xs < val 18446744073709551616 ms)) ∨ (E = 1 ∧ ¬ (okMod ms K rs ∧ (N = L ∧ val 18446744073709551616 xs < val 18446744073709551616 ms)))) (RL : List Nat) (hRL : RL = if E = 0 then digs 18446744073709551616 (subM 0 (val 18446744073709551616 xs) (val 18446744073709551616 ms)) L else []) (w : World)
    (hu : Row .u64 w (.slice ao L cap) ms) (hv : Row .u64 w (.slice bo M dap) rs) (hx : Row .u64 w (.slice co N eap) xs) (hd : Digs 18446744073709551616 ms) (hdx : Digs 18446744073709551616 xs) (hL : L ≤ 1000000) :
    Calls Try.prog 19 #[.agg #[.slice ao L cap, .int .u64 (K : Nat), .slice bo M dap], .slice co N eap] w fun e w' => ∃ v', e = .returned (.tuple #[v', .int .i64 (E : Nat)]) ∧ Row .u64 w' v' RL ∧ Kept Nought w w' := by
  obtain ⟨i0, hi0, hz0, hz1, hz2⟩ := info_parts Try.info24
  have k0 : Kept Nought w (w.alloc (.cells #[.slice ao L cap, .int .u64 (K : Nat), .slice bo M dap] 26)) := (Kept.refl Nought w).alloc _
  have hx0 : (w.alloc (.cells #[.slice ao L cap, .int .u64 (K : Nat), .slice bo M dap] 26)).heap[w.heap.size]? = some (.cells #[.slice ao L cap, .int .u64 (K : Nat), .slice bo M dap] 26 (0, 0)) := heap_alloc_new _ _
  have hz : val 18446744073709551616 (List.replicate L 0) = 0 := val_zeros _ (fun d hd => (List.mem_replicate.1 hd).2)
  have hSb := fun W v (k : Kept Nought w W) (hv0 : Row .u64 W (.slice (some v) L L) (List.replicate L 0)) => q7Sub ao bo (some v) co L M L N cap dap L eap K ms rs (List.replicate L 0) xs E (by
      rw [hz]
      rcases hE with ⟨h0, h1, h2⟩ | ⟨h0, h1⟩
      · exact .inl ⟨h0, h1, ⟨rfl, by have := h1.len; omega⟩, h2⟩
      · exact .inr ⟨h0, fun h => h1 ⟨h.1, h.2.2⟩⟩) RL (by rw [hz]; exact hRL) W (hu.grew k) (hv.grew k) hv0 (hx.grew k) hd (fun d hd => by rw [(List.mem_replicate.1 hd).2]; omega) hdx hL
  clear hu hv hx hd hdx hE hRL hz
  go_enter Try.func19, Try.ntmps19
  go_wp2_with fail
  generalize w.alloc (.cells #[.slice ao L cap, .int .u64 (K : Nat), .slice bo M dap] 26) = W0 at *
  obtain ⟨p0, p1, p2⟩ := box3 hx0
  obtain ⟨w2, hrun, ho2, hg2⟩ := run_make_full (P := Try.prog) W0.drew 0 23 24 i0 _ 1 Try.underlying23 hi0 hz0 hz1 .i64 .i64 L (by rw [hz2]; omega) (by unfold maxLen; omega) (Nat.zero_le _)
  rw [zeros_map] at ho2
  have k2 := (Kept.refl Nought W0).drew.trans (grown_kept hg2)
  have q0 := k2.cellN p0
  have q1 := k2.cellN p1
  have q2 := k2.cellN p2
  have hr2 : Row .u64 w2 (.slice (some ⟨W0.drew.heap.size, 0, none⟩) L L) (List.replicate L 0) := Row.of_own (base := 0) (e := 24) (by rw [List.length_replicate]; exact ho2)
  have hS := hSb w2 _ (k0.trans k2) hr2
  have hS' : Calls Try.prog 17 #[.agg #[.slice ao L cap, .int .u64 (K : Nat), .slice bo M dap], .slice (some ⟨W0.heap.size, 0, none⟩) L L, .slice co N eap] w2 fun e w' => ∃ v', e = .returned (.tuple #[v', .int .i64 (E : Nat)]) ∧ Row .u64 w' v' RL ∧ Kept Nought w2 w' := hS
  have kw := k0.trans k2
  clear hS hSb hr2 ho2 hg2 hx0
  go_region_held3 (fun w' => w'.cell? ⟨w.heap.size, 0, none⟩ = some (.slice ao L cap) ∧ w'.cell? ⟨w.heap.size, 1, none⟩ = some (.int .u64 (K : Int)) ∧ w'.cell? ⟨w.heap.size, 2, none⟩ = some (.slice bo M dap))
    (((try dsimp only); (repeat' apply And.intro) <;> first | (go_keep; done) | assumption))
    (first
    | (go_at_call 17; refine hS'.mono ?_; rintro e w3 ⟨v3, rfl, hr3, k3⟩; have z0 := k3.cellN q0; have z1 := k3.cellN q1; have z2 := k3.cellN q2))
  all_goals
    go_wp2
    go_ret2
    exact ⟨_, rfl, hr3, kw.trans k3⟩

end Go.Proofs.Ytaehphckkmbbnaa
