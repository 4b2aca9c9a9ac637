/- The plain side of layer 7: sums, differences, products. -/
import Derived.Test.YtamkkmifbajdfaaGreatRef7A
namespace Go.Proofs.YtamkkmifbajdfaaGreat
open Go.RowKit

/-- A difference modulo V, of numbers below V. -/
def subM (x y V : Nat) : Nat := if y ≤ x then x - y else x + V - y

theorem dlen_add (A B n : Nat) (hA : dlen A ≤ n) (hB : dlen B ≤ n) : dlen (A + B) ≤ n + 1 := by
  have h1 := (dlen_le A n).1 hA
  have h2 := (dlen_le B n).1 hB
  rw [dlen_le, Nat.pow_succ]
  omega

set_option maxRecDepth 40000 in
set_option maxHeartbeats 2000000 in
theorem q7Mul (ao bo co fo : Option Addr) (L M N1 N2 cap dap eap1 eap2 K : Nat) (ms rs xs ys : List Nat) (E : Nat) (hE : (E = 0 ∧ okMod ms K rs ∧ (N1 = L ∧ val 18446744073709551616 xs < val 18446744073709551616 ms) ∧ (N2 = L ∧ val 18446744073709551616 ys < val 18446744073709551616 ms)) ∨ (E = 1 ∧ ¬ (okMod ms K rs ∧ (N1 = L ∧ val 18446744073709551616 xs < val 18446744073709551616 ms) ∧ (N2 = L ∧ val 18446744073709551616 ys < val 18446744073709551616 ms)))) (RL : List Nat) (hRL : RL = if E = 0 then digs 18446744073709551616 (val 18446744073709551616 xs * val 18446744073709551616 ys % val 18446744073709551616 ms) L else []) (w : World)
    (hu : Row .u64 w (.slice ao L cap) ms) (hv : Row .u64 w (.slice bo M dap) rs) (hx : Row .u64 w (.slice co N1 eap1) xs) (hy : Row .u64 w (.slice fo N2 eap2) ys) (hd : Digs 18446744073709551616 ms) (hdx : Digs 18446744073709551616 xs) (hdy : Digs 18446744073709551616 ys) (hL : L ≤ 1000000) :
    Calls Tryz.prog 15 #[.agg #[.slice ao L cap, .int .u64 (K : Nat), .slice bo M dap], .slice co N1 eap1, .slice fo N2 eap2] w fun e w' => ∃ v', e = .returned (.tuple #[v', .int .i64 (E : Nat)]) ∧ Row .u64 w' v' RL ∧ NewIn w v' ∧ Kept Nought w w' := by
  have k0 : Kept Nought w (w.alloc (.cells #[.slice ao L cap, .int .u64 (K : Nat), .slice bo M dap] 34)) := (Kept.refl Nought w).alloc _
  have hx0 : (w.alloc (.cells #[.slice ao L cap, .int .u64 (K : Nat), .slice bo M dap] 34)).heap[w.heap.size]? = some (.cells #[.slice ao L cap, .int .u64 (K : Nat), .slice bo M dap] 34 (0, 0)) := heap_alloc_new _ _
  have hsl := slot2_new (w.alloc (.cells #[.slice ao L cap, .int .u64 (K : Nat), .slice bo M dap] 34)) co fo N1 N2 eap1 eap2
  have k0' := k0.alloc (.cells #[.slice co N1 eap1, .slice fo N2 eap2] 23)
  have hx0' := (((Kept.refl Nought (w.alloc (.cells #[.slice ao L cap, .int .u64 (K : Nat), .slice bo M dap] 34))).alloc (.cells #[.slice co N1 eap1, .slice fo N2 eap2] 23)).block _ (lt_of_block hx0) (fun f => f)).trans hx0
  have hMs := fun (R : Bool) hR => q7Members ao bo L M cap dap K ms rs _ 2 2 _ _ _ (fun i => if i = 0 then xs else ys) R hR _ (hu.grew k0') (hv.grew k0') hd hL hsl (fun i hi => by
      by_cases e : i = 0
      · subst e; exact hx.grew k0'
      · obtain rfl : i = 1 := by omega
        exact hy.grew k0') (fun i hi => by
      by_cases e : i = 0
      · subst e; exact hdx
      · obtain rfl : i = 1 := by omega
        exact hdy) (by omega)
  have hsz : (w.alloc (.cells #[.slice ao L cap, .int .u64 (K : Nat), .slice bo M dap] 34)).heap.size = w.heap.size + 1 := by simp
  rw [hsz] at hMs
  rcases hE with ⟨rfl, hok, h1, h2⟩ | ⟨rfl, hbad⟩
  · have hMs1 := hMs true ⟨fun _ => ⟨hok, fun i hi => by
      by_cases e : i = 0
      · subst e; exact h1
      · obtain rfl : i = 1 := by omega
        exact h2⟩, fun _ => rfl⟩
    rw [if_pos rfl] at hRL
    obtain ⟨o1, o2, o3, o4⟩ := hok.len
    have lm : ms.length = L := by obtain ⟨_, _, _, e, h, _⟩ := hu.open; cases e; exact h.out
    have lx : xs.length = N1 := by obtain ⟨_, _, _, e, h, _⟩ := hx.open; cases e; exact h.out
    have ly : ys.length = N2 := by obtain ⟨_, _, _, e, h, _⟩ := hy.open; cases e; exact h.out
    rw [lm] at o1
    have dV := dlen_val6 hd
    have dx := dlen_val6 hdx
    have dy := dlen_val6 hdy
    have hl1 := h1.1
    have hl2 := h2.1
    have hv1 := h1.2
    have hv2 := h2.2
    have dx' : dlen (val 18446744073709551616 xs) ≤ 2 * L := by omega
    have dy' : dlen (val 18446744073709551616 ys) ≤ 2 * L := by omega
    have dV' : dlen (val 18446744073709551616 ms) ≤ 2 * L := by omega
    have hOx0 := fun W (k : Kept Nought w W) => rOf _ xs W (hx.grew k) hdx (by omega)
    have hOy0 := fun W (k : Kept Nought w W) => rOf _ ys W (hy.grew k) hdy (by omega)
    have hOm0 := fun W (k : Kept Nought w W) => rOf _ ms W (hu.grew k) hd (by omega)
    clear hMs hu hv hx hy hd hdx hdy hsl hok h1 h2 lm lx ly o2 o4 dV dx dy hl1 hl2 hsz
    generalize val 18446744073709551616 ms = V at *
    generalize val 18446744073709551616 xs = X at *
    generalize val 18446744073709551616 ys = Y at *
    have HRL := toHid hRL
    clear hRL
    go_enter Tryz.func15, Tryz.ntmps15
    go_wp2_with fail
    refine hMs1.mono ?_
    rintro e w1 ⟨rfl, k1⟩
    have hx1 := (k1.block _ (lt_of_block hx0') (fun f => f)).trans hx0'
    obtain ⟨p0, _, _⟩ := box3 hx1
    have kw := k0'.trans k1
    have hOx : ∀ W, Kept Nought w1 W → Calls Tryz.prog 17 #[.slice co N1 eap1] W fun e w' => ∃ v', e = .returned v' ∧ IsBig w' v' X ∧ Kept Nought w1 w' ∧ Kept Nought W w' := fun W k => by
      refine (hOx0 W (kw.trans k)).mono ?_
      rintro e w' ⟨v', rfl, hb, _, kk⟩
      exact ⟨v', rfl, hb, k.trans kk, kk⟩
    have hOy : ∀ W, Kept Nought w1 W → Calls Tryz.prog 17 #[.slice fo N2 eap2] W fun e w' => ∃ v', e = .returned v' ∧ IsBig w' v' Y ∧ Kept Nought w1 w' ∧ Kept Nought W w' := fun W k => by
      refine (hOy0 W (kw.trans k)).mono ?_
      rintro e w' ⟨v', rfl, hb, _, kk⟩
      exact ⟨v', rfl, hb, k.trans kk, kk⟩
    have hOm : ∀ W, Kept Nought w1 W → Calls Tryz.prog 17 #[.slice ao L cap] W fun e w' => ∃ v', e = .returned v' ∧ IsBig w' v' V ∧ Kept Nought w1 w' ∧ Kept Nought W w' := fun W k => by
      refine (hOm0 W (kw.trans k)).mono ?_
      rintro e w' ⟨v', rfl, hb, _, kk⟩
      exact ⟨v', rfl, hb, k.trans kk, kk⟩
    have hOp : ∀ W u v m, Kept Nought w1 W → IsBig W u X → IsBig W v Y → IsBig W m V → Calls Tryz.prog 33 #[u, v, m] W fun e w' => ∃ v', e = .returned v' ∧ IsBig w' v' (X * Y % V) ∧ Kept Nought w1 w' := fun W u v m k h1 h2 h3 => by
      refine (rMulMod u v m X Y V W h1 h2 h3 (by omega) (by omega) (by omega) (by have := dlen_mul X Y; omega)).mono ?_
      rintro e w' ⟨v', rfl, hb, _, kk⟩
      exact ⟨v', rfl, hb, k.trans kk⟩
    have hNa : ∀ W v, Kept Nought w1 W → IsBig W v (X * Y % V) → Calls Tryz.prog 24 #[v, .int .i64 (L : Nat)] W fun e w' => ∃ v', e = .returned v' ∧ Row .u64 w' v' (digs 18446744073709551616 (X * Y % V) L) ∧ NewIn w v' ∧ Kept Nought w1 w' ∧ Kept Nought w w' := fun W v k h => by
      refine (rNat v _ L W h (by omega)).mono ?_
      rintro e w' ⟨v', rfl, hr, hn, kk⟩
      exact ⟨v', rfl, hr, NewIn.of hn (kw.trans k), k.trans kk, (kw.trans k).trans kk⟩
    clear hMs1 k0 k0' k1 hx0 hx0' hx1 hOx0 hOy0 hOm0 kw
    go_wp2_with fail
    go_region_held3 (fun w' => w'.cell? ⟨w.heap.size, 0, none⟩ = some (.slice ao L cap))
      (first | (go_keep; done) | assumption)
      (first
      | (go_at_call_of 17 (Value.slice co N1 eap1); refine (hOx _ ?_).mono ?_; (exact kdrew (kself _)); rintro e w2 ⟨v2, rfl, hb2, k2, k2'⟩; have q2 := k2.cellN p0)
      | (go_at_call_of 17 (Value.slice fo N2 eap2); refine (hOy _ ?_).mono ?_; (exact k2); rintro e w3 ⟨v3, rfl, hb3, k3, k3'⟩; have q3 := k3.cellN p0)
      | (go_at_call_of 17 (Value.slice ao L cap); refine (hOm _ ?_).mono ?_; (exact k3); rintro e w4 ⟨v4, rfl, hb4, k4, k4'⟩; have q4 := k4.cellN p0)
      | (go_at_call 33; refine (hOp _ _ _ _ ?_ ?_ ?_ ?_).mono ?_; (exact k4); (exact (hb2.grew k3').grew k4'); (exact hb3.grew k4'); (exact hb4); rintro e w5 ⟨v5, rfl, hb5, k5⟩; have q5 := k5.cellN p0)
      | (go_at_call 24; refine (hNa _ _ ?_ ?_).mono ?_; (exact k5); (exact hb5); rintro e w6 ⟨v6, rfl, hr6, n6, k6, k6'⟩; have q6 := k6.cellN p0))
    all_goals
      go_wp2
      go_ret2
      rw [HRL.out]
      exact ⟨_, rfl, hr6, n6, k6'⟩
  · have hMs1 := hMs false ⟨fun h => absurd h (by decide), fun h => absurd ⟨h.1, h.2 0 (by omega), h.2 1 (by omega)⟩ hbad⟩
    rw [if_neg (by omega)] at hRL
    subst hRL
    clear hMs hu hv hx hy hd hdx hdy hsl hbad hsz
    go_enter Tryz.func15, Tryz.ntmps15
    go_wp2_with fail
    refine hMs1.mono ?_
    rintro e w1 ⟨rfl, k1⟩
    go_wp2_with fail
    go_ret2
    exact ⟨_, rfl, Row.nil _ _, NewIn.nil _, k0'.trans k1⟩

end Go.Proofs.YtamkkmifbajdfaaGreat
