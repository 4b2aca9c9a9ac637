/- The plain side of layer 7: rests, halves, what comes to 0 with a number. -/
import Derived.Test.YtaehphckkmbbnaaRef7B
namespace Go.Proofs.Ytaehphckkmbbnaa
open Go.RowKit

set_option maxRecDepth 40000 in
set_option maxHeartbeats 2000000 in
theorem q7Reduce (ao bo co : Option Addr) (L M N cap dap eap K : Nat) (ms rs xs : List Nat) (E : Nat) (hE : (E = 0 ∧ okMod ms K rs ∧ N ≤ 300) ∨ (E = 2 ∧ okMod ms K rs ∧ 300 < N) ∨ (E = 1 ∧ ¬ okMod ms K rs)) (RL : List Nat) (hRL : RL = if E = 0 then digs 18446744073709551616 (val 18446744073709551616 xs % val 18446744073709551616 ms) L else []) (w : World)
    (hu : Row .u64 w (.slice ao L cap) ms) (hv : Row .u64 w (.slice bo M dap) rs) (hx : Row .u64 w (.slice co N eap) xs) (hd : Digs 18446744073709551616 ms) (hdx : Digs 18446744073709551616 xs) (hL : L ≤ 1000000) :
    Calls Try.prog 11 #[.agg #[.slice ao L cap, .int .u64 (K : Nat), .slice bo M dap], .slice co N eap] w fun e w' => ∃ v', e = .returned (.tuple #[v', .int .i64 (E : Nat)]) ∧ Row .u64 w' v' RL ∧ Kept Nought w w' := by
  have k0 : Kept Nought w (w.alloc (.cells #[.slice ao L cap, .int .u64 (K : Nat), .slice bo M dap] 26)) := (Kept.refl Nought w).alloc _
  have hx0 : (w.alloc (.cells #[.slice ao L cap, .int .u64 (K : Nat), .slice bo M dap] 26)).heap[w.heap.size]? = some (.cells #[.slice ao L cap, .int .u64 (K : Nat), .slice bo M dap] 26 (0, 0)) := heap_alloc_new _ _
  have hMs := fun (R : Bool) hR => q7Members ao bo L M cap dap K ms rs none 0 0 (fun _ => none) (fun _ => 0) (fun _ => 0) (fun _ => []) R hR _ (hu.grew k0) (hv.grew k0) hd hL (fun i hi => by omega) (fun i hi => by omega) (fun i hi => by omega) (by omega)
  have lm : ms.length = L := by obtain ⟨_, _, _, e, h, _⟩ := hu.open; cases e; exact h.out
  have lx : xs.length = N := by obtain ⟨_, _, _, e, h, _⟩ := hx.open; cases e; exact h.out
  rcases hE with ⟨rfl, hok, hN⟩ | ⟨rfl, hok, hN⟩ | ⟨rfl, hbad⟩
  · have hMs1 := hMs true ⟨fun _ => ⟨hok, fun i hi => by omega⟩, fun _ => rfl⟩
    rw [if_pos rfl] at hRL
    obtain ⟨o1, o2, o3, o4⟩ := hok.len
    rw [lm] at o1
    have dx := dlen_val6 hdx
    have dx' : dlen (val 18446744073709551616 xs) ≤ 2 * N := by omega
    have hOx0 := fun W (k : Kept Nought w W) => rOf _ xs W (hx.grew k) hdx (by omega)
    have hOm0 := fun W (k : Kept Nought w W) => rOf _ ms W (hu.grew k) hd (by omega)
    have g1 : ¬ (N : Int) > 300 := by omega
    clear hMs hu hv hx hd hdx hok lm lx o2 o4 dx
    generalize val 18446744073709551616 ms = V at *
    generalize val 18446744073709551616 xs = X at *
    have HRL := toHid hRL
    clear hRL
    go_enter Try.func11, Try.ntmps11
    go_wp2_with fail
    refine hMs1.mono ?_
    rintro e w1 ⟨rfl, k1⟩
    have hx1 := (k1.block _ (lt_of_block hx0) (fun f => f)).trans hx0
    obtain ⟨p0, _, _⟩ := box3 hx1
    have kw := k0.trans k1
    have hOx : ∀ W, Kept Nought w1 W → Calls Try.prog 35 #[.slice co N eap] W fun e w' => ∃ v', e = .returned v' ∧ IsBig w' v' X ∧ Kept Nought w1 w' ∧ Kept Nought W w' := fun W k => by
      refine (hOx0 W (kw.trans k)).mono ?_
      rintro e w' ⟨v', rfl, hb, _, kk⟩
      exact ⟨v', rfl, hb, k.trans kk, kk⟩
    have hOm : ∀ W, Kept Nought w1 W → Calls Try.prog 35 #[.slice ao L cap] W fun e w' => ∃ v', e = .returned v' ∧ IsBig w' v' V ∧ Kept Nought w1 w' ∧ Kept Nought W w' := fun W k => by
      refine (hOm0 W (kw.trans k)).mono ?_
      rintro e w' ⟨v', rfl, hb, _, kk⟩
      exact ⟨v', rfl, hb, k.trans kk, kk⟩
    have hOp : ∀ W u m, Kept Nought w1 W → IsBig W u X → IsBig W m V → Calls Try.prog 34 #[u, m] W fun e w' => ∃ v', e = .returned v' ∧ IsBig w' v' (X % V) ∧ Kept Nought w1 w' := fun W u m k h1 h3 => by
      refine (rMod u m X V W h1 h3 (by omega) (by omega)).mono ?_
      rintro e w' ⟨v', rfl, hb, _, kk⟩
      exact ⟨v', rfl, hb, k.trans kk⟩
    have hNa : ∀ W v, Kept Nought w1 W → IsBig W v (X % V) → Calls Try.prog 33 #[v, .int .i64 (L : Nat)] W fun e w' => ∃ v', e = .returned v' ∧ Row .u64 w' v' (digs 18446744073709551616 (X % V) L) ∧ Kept Nought w1 w' ∧ Kept Nought w w' := fun W v k h => by
      refine (rNat v _ L W h (by omega)).mono ?_
      rintro e w' ⟨v', rfl, hr, _, kk⟩
      exact ⟨v', rfl, hr, k.trans kk, (kw.trans k).trans kk⟩
    clear hMs1 k0 k1 hx0 hx1 hOx0 hOm0 kw
    go_wp2_with fail
    go_region_held3 (fun w' => w'.cell? ⟨w.heap.size, 0, none⟩ = some (.slice ao L cap))
      (first | (go_keep; done) | assumption)
      (first
      | (go_at_call_of 35 (Value.slice co N eap); refine (hOx _ ?_).mono ?_; (exact kdrew (kself _)); rintro e w2 ⟨v2, rfl, hb2, k2, k2'⟩; have q2 := k2.cellN p0)
      | (go_at_call_of 35 (Value.slice ao L cap); refine (hOm _ ?_).mono ?_; (exact k2); rintro e w4 ⟨v4, rfl, hb4, k4, k4'⟩; have q4 := k4.cellN p0)
      | (go_at_call 34; refine (hOp _ _ _ ?_ ?_ ?_).mono ?_; (exact k4); (exact hb2.grew k4'); (exact hb4); rintro e w5 ⟨v5, rfl, hb5, k5⟩; have q5 := k5.cellN p0)
      | (go_at_call 33; refine (hNa _ _ ?_ ?_).mono ?_; (exact k5); (exact hb5); rintro e w6 ⟨v6, rfl, hr6, k6, k6'⟩; have q6 := k6.cellN p0))
    all_goals
      go_wp2
      go_ret2
      rw [HRL.out]
      exact ⟨_, rfl, hr6, k6'⟩
  · have hMs1 := hMs true ⟨fun _ => ⟨hok, fun i hi => by omega⟩, fun _ => rfl⟩
    rw [if_neg (by omega)] at hRL
    subst hRL
    have g1 : (N : Int) > 300 := by omega
    clear hMs hu hv hx hd hdx hok
    go_enter Try.func11, Try.ntmps11
    go_wp2_with fail
    refine hMs1.mono ?_
    rintro e w1 ⟨rfl, k1⟩
    go_wp2_with fail
    go_ret2
    exact ⟨_, rfl, Row.nil _ _, k0.trans k1⟩
  · have hMs1 := hMs false ⟨fun h => absurd h (by decide), fun h => absurd h.1 hbad⟩
    rw [if_neg (by omega)] at hRL
    subst hRL
    clear hMs hu hv hx hd hdx hbad
    go_enter Try.func11, Try.ntmps11
    go_wp2_with fail
    refine hMs1.mono ?_
    rintro e w1 ⟨rfl, k1⟩
    go_wp2_with fail
    go_ret2
    exact ⟨_, rfl, Row.nil _ _, k0.trans k1⟩

/-- A half modulo V. -/
def halfM (x V : Nat) : Nat := (if x % 2 = 1 then x + V else x) / 2

set_option maxRecDepth 40000 in
set_option maxHeartbeats 2000000 in
theorem q7Half (ao bo co : Option Addr) (L M N cap dap eap K : Nat) (ms rs xs : List Nat) (E : Nat) (hE : (E = 0 ∧ okMod ms K rs ∧ (N = L ∧ val 18446744073709551616 xs < val 18446744073709551616 ms)) ∨ (E = 1 ∧ ¬ (okMod ms K rs ∧ (N = L ∧ val 18446744073709551616 xs < val 18446744073709551616 ms)))) (RL : List Nat) (hRL : RL = if E = 0 then digs 18446744073709551616 (halfM (val 18446744073709551616 xs) (val 18446744073709551616 ms)) L else []) (w : World)
    (hu : Row .u64 w (.slice ao L cap) ms) (hv : Row .u64 w (.slice bo M dap) rs) (hx : Row .u64 w (.slice co N eap) xs) (hd : Digs 18446744073709551616 ms) (hdx : Digs 18446744073709551616 xs) (hL : L ≤ 1000000) :
    Calls Try.prog 21 #[.agg #[.slice ao L cap, .int .u64 (K : Nat), .slice bo M dap], .slice co N eap] w fun e w' => ∃ v', e = .returned (.tuple #[v', .int .i64 (E : Nat)]) ∧ Row .u64 w' v' RL ∧ Kept Nought w w' := by
  have k0 : Kept Nought w (w.alloc (.cells #[.slice ao L cap, .int .u64 (K : Nat), .slice bo M dap] 26)) := (Kept.refl Nought w).alloc _
  have hx0 : (w.alloc (.cells #[.slice ao L cap, .int .u64 (K : Nat), .slice bo M dap] 26)).heap[w.heap.size]? = some (.cells #[.slice ao L cap, .int .u64 (K : Nat), .slice bo M dap] 26 (0, 0)) := heap_alloc_new _ _
  have hsl := slot1_new (w.alloc (.cells #[.slice ao L cap, .int .u64 (K : Nat), .slice bo M dap] 26)) _ co N eap rfl
  have k0' := k0.alloc (.cells #[.slice co N eap] 23)
  have hx0' := (((Kept.refl Nought (w.alloc (.cells #[.slice ao L cap, .int .u64 (K : Nat), .slice bo M dap] 26))).alloc (.cells #[.slice co N eap] 23)).block _ (lt_of_block hx0) (fun f => f)).trans hx0
  have hMs := fun (R : Bool) hR => q7Members ao bo L M cap dap K ms rs _ 1 1 _ _ _ (fun _ => xs) R hR _ (hu.grew k0') (hv.grew k0') hd hL hsl (fun _ _ => hx.grew k0') (fun _ _ => hdx) (by omega)
  have hsz : (w.alloc (.cells #[.slice ao L cap, .int .u64 (K : Nat), .slice bo M dap] 26)).heap.size = w.heap.size + 1 := by simp
  rw [hsz] at hMs
  have lm : ms.length = L := by obtain ⟨_, _, _, e, h, _⟩ := hu.open; cases e; exact h.out
  have lx : xs.length = N := by obtain ⟨_, _, _, e, h, _⟩ := hx.open; cases e; exact h.out
  rcases hE with ⟨rfl, hok, h1⟩ | ⟨rfl, hbad⟩
  · have hMs1 := hMs true ⟨fun _ => ⟨hok, fun _ _ => h1⟩, fun _ => rfl⟩
    rw [if_pos rfl] at hRL
    obtain ⟨o1, o2, o3, o4⟩ := hok.len
    rw [lm] at o1
    have dV := dlen_val6 hd
    have dx := dlen_val6 hdx
    have hl1 := h1.1
    have dx' : dlen (val 18446744073709551616 xs) ≤ 2 * L := by omega
    have dV' : dlen (val 18446744073709551616 ms) ≤ 2 * L := by omega
    have hOx0 := fun W (k : Kept Nought w W) => rOf _ xs W (hx.grew k) hdx (by omega)
    have hOm0 := fun W (k : Kept Nought w W) => rOf _ ms W (hu.grew k) hd (by omega)
    clear hMs hu hv hx hd hdx hsl hok h1 lm lx o2 o4 dV dx hl1 hsz
    generalize val 18446744073709551616 ms = V at *
    generalize val 18446744073709551616 xs = X at *
    have HRL := toHid hRL
    clear hRL
    go_enter Try.func21, Try.ntmps21
    go_wp2_with fail
    refine hMs1.mono ?_
    rintro e w1 ⟨rfl, k1⟩
    have hx1 := (k1.block _ (lt_of_block hx0') (fun f => f)).trans hx0'
    obtain ⟨p0, _, _⟩ := box3 hx1
    have kw := k0'.trans k1
    clear hMs1 k0 k0' k1 hx0 hx0' hx1
    go_wp2_with fail
    refine (hOx0 w1 kw).mono ?_
    rintro e w2 ⟨v2, rfl, hb2, _, k2⟩
    have hBi := rBit v2 X 0 w2 hb2 (by omega)
    have q0 := k2.cellN p0
    have kw2 := kw.trans k2
    have hNa : ∀ W v Z, Kept Nought w2 W → IsBig W v Z → Calls Try.prog 33 #[v, .int .i64 (L : Nat)] W fun e w' => ∃ v', e = .returned v' ∧ Row .u64 w' v' (digs 18446744073709551616 Z L) ∧ Kept Nought w2 w' ∧ Kept Nought w w' := fun W v Z k h => by
      refine (rNat v _ L W h (by omega)).mono ?_
      rintro e w' ⟨v', rfl, hr, _, kk⟩
      exact ⟨v', rfl, hr, k.trans kk, (kw2.trans k).trans kk⟩
    have hSr : ∀ W v Z, Kept Nought w2 W → IsBig W v Z → Calls Try.prog 47 #[v, .int .i64 1] W fun e w' => ∃ v', e = .returned v' ∧ IsBig w' v' (Z / 2) ∧ Kept Nought w2 w' := fun W v Z k h => by
      refine (rShr v Z 1 W h (by omega)).mono ?_
      rintro e w' ⟨v', rfl, hb, _, kk⟩
      rw [Nat.pow_one] at hb
      exact ⟨v', rfl, hb, k.trans kk⟩
    clear hOx0 p0 kw
    have hpar : X % 2 = 0 ∨ X % 2 = 1 := by omega
    rcases hpar with hp | hp
    · have hb0 : bitN X 0 = 0 := by rw [bitN, if_neg (by omega)]; simpa using hp
      rw [hb0] at hBi
      have HH : Hid (halfM X V = X / 2) := by unfold Hid halfM; rw [if_neg (by omega)]
      clear hb0 hp
      go_wp2_with fail
      refine hBi.mono ?_
      rintro e w3 ⟨rfl, rfl⟩
      go_wp2_with fail
      go_region_held3 (fun w' => w'.cell? ⟨w.heap.size, 0, none⟩ = some (.slice ao L cap))
        (first | (go_keep; done) | assumption)
        (first
        | (go_at_call 47; refine (hSr _ _ X ?_ ?_).mono ?_; (exact kdrew (kself _)); (exact hb2.grew (kdrew (kself _))); rintro e w5 ⟨v5, rfl, hb5, k5⟩; have q5 := k5.cellN q0)
        | (go_at_call 33; refine (hNa _ _ (X / 2) ?_ ?_).mono ?_; (exact k5); (exact hb5); rintro e w6 ⟨v6, rfl, hr6, k6, k6'⟩; have q6 := k6.cellN q0))
      all_goals
        go_wp2
        go_ret2
        rw [HRL.out, HH.out]
        exact ⟨_, rfl, hr6, k6'⟩
    · have hb0 : bitN X 0 = 1 := by rw [bitN, if_neg (by omega)]; simpa using hp
      rw [hb0] at hBi
      have HH : Hid (halfM X V = (X + V) / 2) := by unfold Hid halfM; rw [if_pos hp]
      clear hb0 hp
      go_wp2_with fail
      refine hBi.mono ?_
      rintro e w3 ⟨rfl, rfl⟩
      go_wp2_with fail
      refine (hOm0 _ kw2).mono ?_
      rintro e w4 ⟨v4, rfl, hb4, _, k4⟩
      have hAd := rAdd v2 v4 X V w4 (hb2.grew k4) hb4 (by omega) (by omega)
      have q4 := k4.cellN q0
      go_wp2_with fail
      refine hAd.mono ?_
      rintro e w7 ⟨v7, rfl, hb7, _, k7⟩
      have q7 := k7.cellN q4
      have k47 := k4.trans k7
      clear hAd hBi
      go_wp2_with fail
      go_region_held3 (fun w' => w'.cell? ⟨w.heap.size, 0, none⟩ = some (.slice ao L cap))
        (first | (go_keep; done) | assumption)
        (first
        | (go_at_call 47; refine (hSr _ _ (X + V) ?_ ?_).mono ?_; (exact kdrew k47); (exact hb7.grew (kdrew (kself _))); rintro e w5 ⟨v5, rfl, hb5, k5⟩; have q5 := k5.cellN q0)
        | (go_at_call 33; refine (hNa _ _ ((X + V) / 2) ?_ ?_).mono ?_; (exact k5); (exact hb5); rintro e w6 ⟨v6, rfl, hr6, k6, k6'⟩; have q6 := k6.cellN q0))
      all_goals
        go_wp2
        go_ret2
        rw [HRL.out, HH.out]
        exact ⟨_, rfl, hr6, k6'⟩
  · have hMs1 := hMs false ⟨fun h => absurd h (by decide), fun h => absurd ⟨h.1, h.2 0 (by omega)⟩ hbad⟩
    rw [if_neg (by omega)] at hRL
    subst hRL
    clear hMs hu hv hx hd hdx hsl hbad hsz
    go_enter Try.func21, Try.ntmps21
    go_wp2_with fail
    refine hMs1.mono ?_
    rintro e w1 ⟨rfl, k1⟩
    go_wp2_with fail
    go_ret2
    exact ⟨_, rfl, Row.nil _ _, k0'.trans k1⟩

end Go.Proofs.Ytaehphckkmbbnaa
