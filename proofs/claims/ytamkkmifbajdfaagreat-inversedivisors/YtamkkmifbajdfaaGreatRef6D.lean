/- The plain side of layer 6: Member. -/
import Derived.Test.YtamkkmifbajdfaaGreatRef6m
import Derived.Deep.RegionWith
namespace Go.Proofs.YtamkkmifbajdfaaGreat
open Go.RowKit

set_option maxRecDepth 40000 in
set_option maxHeartbeats 1000000 in
theorem q6Member (ao co : Option Addr) (L N cap eap : Nat) (kv rv : Value) (ms xs : List Nat) (R : Bool) (hR : R = decide (N = L ∧ val 18446744073709551616 xs < val 18446744073709551616 ms)) (w : World) (hu : Row .u64 w (.slice ao L cap) ms) (hx : Row .u64 w (.slice co N eap) xs) (hd : Digs 18446744073709551616 ms) (hdx : Digs 18446744073709551616 xs) (hL : L ≤ 1000000) :
    Calls Tryz.prog 28 #[.agg #[.slice ao L cap, kv, rv], .slice co N eap] w fun e w' => e = .returned (.bool R) ∧ Kept Nought w w' := by
  have k0 : Kept Nought w (w.alloc (.cells #[.slice ao L cap, kv, rv] 34)) := (Kept.refl Nought w).alloc _
  have hx0 : (w.alloc (.cells #[.slice ao L cap, kv, rv] 34)).heap[w.heap.size]? = some (.cells #[.slice ao L cap, kv, rv] 34 (0, 0)) := heap_alloc_new _ _
  have lm : ms.length = L := by obtain ⟨_, _, _, e, h, _⟩ := hu.open; cases e; exact h.out
  have lx : xs.length = N := by obtain ⟨_, _, _, e, h, _⟩ := hx.open; cases e; exact h.out
  obtain ⟨p0, _, _⟩ := box3 hx0
  by_cases hN : N = L
  · subst hN
    have hOx := fun W (k : Kept Nought w W) => rOf _ xs W (hx.grew k) hdx (by omega)
    have hOm := fun W (k : Kept Nought w W) => rOf _ ms W (hu.grew k) hd (by omega)
    have hCm := fun W u v hu hv => rCmp u v (val 18446744073709551616 xs) (val 18446744073709551616 ms) W hu hv
    have HR : Hid (R = decide (cmpN (val 18446744073709551616 xs) (val 18446744073709551616 ms) < 0)) := by
      unfold Hid
      rw [hR]
      refine decide_eq_decide.2 ⟨fun h => ?_, fun h => ⟨rfl, ?_⟩⟩
      · rw [cmpN_lt h.2]; omega
      · rcases Nat.lt_trichotomy (val 18446744073709551616 xs) (val 18446744073709551616 ms) with h1 | h1 | h1
        · exact h1
        · rw [cmpN_eq h1] at h; omega
        · rw [cmpN_gt h1] at h; omega
    have hgd : ((N : Int) == (N : Int)) = true := by simp
    clear hu hx hR hd hdx lm lx
    generalize val 18446744073709551616 ms = A at *
    generalize val 18446744073709551616 xs = B at *
    generalize cmpN B A = c at *
    clear hx0
    go_enter Tryz.func28, Tryz.ntmps28
    go_wp2_with fail
    generalize w.alloc (.cells #[.slice ao N cap, kv, rv] 34) = W0 at *
    go_region_with (first
      | (go_at_call_of 17 (Value.slice co N eap); refine (hOx _ ?_).mono ?_; (first | exact k0.drew | exact k0.drewN _); rintro e w5 ⟨v5, rfl, hb5, _, k5⟩; have hc5 := k5.cellN (show (World.drew W0).cell? _ = _ from p0))
      | (go_at_call_of 17 (Value.slice ao N cap); refine (hOm _ ?_).mono ?_; (first | exact k0.drew.trans k5 | exact (k0.drewN _).trans k5); rintro e w6 ⟨v6, rfl, hb6, _, k6⟩; have hc6 := k6.cellN hc5)
      | (go_at_call 16; refine (hCm _ _ _ ?_ ?_).mono ?_; (exact hb5.grew k6); (exact hb6); rintro e w7 ⟨rfl, m, rfl⟩))
    all_goals
      go_wp2
      go_ret
      rw [HR.out]
      exact ⟨rfl, ((k0.drew.trans k5).trans k6).drewN m⟩
  · have HR : Hid (R = false) := by
      unfold Hid
      rw [hR]
      exact decide_eq_false (fun h => hN h.1)
    have hgd : ((N : Int) == (L : Int)) = false := by
      simp only [beq_eq_false_iff_ne]; omega
    have hgd' : decide ((N : Int) = (L : Int)) = false := decide_eq_false (by omega)
    clear hu hx hR hd hdx hx0
    go_enter Tryz.func28, Tryz.ntmps28
    go_wp2_with fail
    generalize w.alloc (.cells #[.slice ao L cap, kv, rv] 34) = W0 at *
    go_quiet (fail)
    go_wp2
    go_ret
    rw [HR.out]
    exact ⟨rfl, k0.drewN _⟩

end Go.Proofs.YtamkkmifbajdfaaGreat
