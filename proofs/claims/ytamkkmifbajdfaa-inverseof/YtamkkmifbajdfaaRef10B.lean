/- The plain side of layer 10: inverses modulo a modulus. -/
import Derived.Test.YtamkkmifbajdfaaRef7A
namespace Go.Proofs.Ytamkkmifbajdfaa
open Go.RowKit

set_option maxRecDepth 40000 in
set_option maxHeartbeats 2000000 in
theorem q10Of (ao bo co : Option Addr) (L M N cap dap eap K : Nat) (ms rs xs : List Nat) (E T F : Nat) (hE : (E = 0 ∧ okMod ms K rs ∧ (N = L ∧ val 18446744073709551616 xs < val 18446744073709551616 ms)) ∨ (E = 1 ∧ ¬ (okMod ms K rs ∧ (N = L ∧ val 18446744073709551616 xs < val 18446744073709551616 ms)))) (hT : E = 0 → (Nat.gcd (val 18446744073709551616 xs) (val 18446744073709551616 ms) = 1 → T < val 18446744073709551616 ms ∧ val 18446744073709551616 xs * T % val 18446744073709551616 ms = 1 ∧ F = 1) ∧ (Nat.gcd (val 18446744073709551616 xs) (val 18446744073709551616 ms) ≠ 1 → T = 0 ∧ F = 0)) (hF : E = 1 → F = 0) (RL : List Nat) (hRL : RL = if E = 0 then digs 18446744073709551616 T L else []) (w : World)
    (hu : Row .u64 w (.slice ao L cap) ms) (hv : Row .u64 w (.slice bo M dap) rs) (hx : Row .u64 w (.slice co N eap) xs) (hd : Digs 18446744073709551616 ms) (hdx : Digs 18446744073709551616 xs) (hL : L ≤ 1000000) :
    Calls Try.prog 12 #[.agg #[.slice ao L cap, .int .u64 (K : Nat), .slice bo M dap], .slice co N eap] w fun e w' => ∃ v', e = .returned (.tuple #[v', .int .u64 (F : Nat), .int .i64 (E : Nat)]) ∧ Row .u64 w' v' RL ∧ Kept Nought w w' := by
  obtain ⟨i0, hi0, hz0, hz1, hz2⟩ := info_parts Try.info27
  have k0 : Kept Nought w (w.alloc (.cells #[.slice ao L cap, .int .u64 (K : Nat), .slice bo M dap] 29)) := (Kept.refl Nought w).alloc _
  have hx0 : (w.alloc (.cells #[.slice ao L cap, .int .u64 (K : Nat), .slice bo M dap] 29)).heap[w.heap.size]? = some (.cells #[.slice ao L cap, .int .u64 (K : Nat), .slice bo M dap] 29 (0, 0)) := heap_alloc_new _ _
  have hsl := slot1_new (w.alloc (.cells #[.slice ao L cap, .int .u64 (K : Nat), .slice bo M dap] 29)) _ co N eap rfl
  have k0' := k0.alloc (.cells #[.slice co N eap] 26)
  have hx0' := (((Kept.refl Nought (w.alloc (.cells #[.slice ao L cap, .int .u64 (K : Nat), .slice bo M dap] 29))).alloc (.cells #[.slice co N eap] 26)).block _ (lt_of_block hx0) (fun f => f)).trans hx0
  have hMs := fun (R : Bool) hR => q7Members ao bo L M cap dap K ms rs _ 1 1 _ _ _ (fun _ => xs) R hR _ (hu.grew k0') (hv.grew k0') hd hL hsl (fun _ _ => hx.grew k0') (fun _ _ => hdx) (by omega)
  have hsz : (w.alloc (.cells #[.slice ao L cap, .int .u64 (K : Nat), .slice bo M dap] 29)).heap.size = w.heap.size + 1 := by simp
  rw [hsz] at hMs
  have lm : ms.length = L := by obtain ⟨_, _, _, e, h, _⟩ := hu.open; cases e; exact h.out
  have lx : xs.length = N := by obtain ⟨_, _, _, e, h, _⟩ := hx.open; cases e; exact h.out
  rcases hE with ⟨rfl, hok, h1⟩ | ⟨rfl, hbad⟩
  · have hMs1 := hMs true ⟨fun _ => ⟨hok, fun _ _ => h1⟩, fun _ => rfl⟩
    rw [if_pos rfl] at hRL
    obtain ⟨t1, t2⟩ := hT rfl
    obtain ⟨o1, o2, o3, o4⟩ := hok.len
    rw [lm] at o1
    have dV := dlen_val6 hd
    have dx := dlen_val6 hdx
    have hl1 := h1.1
    have dx' : dlen (val 18446744073709551616 xs) ≤ 2 * L := by omega
    have dV' : dlen (val 18446744073709551616 ms) ≤ 2 * L := by omega
    have hOx0 := fun W (k : Kept Nought w W) => rOf _ xs W (hx.grew k) hdx (by omega)
    have hOm0 := fun W (k : Kept Nought w W) => rOf _ ms W (hu.grew k) hd (by omega)
    clear hMs hu hv hx hd hdx hsl hok h1 lm lx o2 o4 dV dx hl1 hsz hT hF
    generalize val 18446744073709551616 ms = V at *
    generalize val 18446744073709551616 xs = X at *
    have HRL := toHid hRL
    have T1 := toHid t1
    have T2 := toHid t2
    clear hRL t1 t2
    go_enter Try.func12, Try.ntmps12
    go_wp2_with fail
    refine hMs1.mono ?_
    rintro e w1 ⟨rfl, k1⟩
    have hx1 := (k1.block _ (lt_of_block hx0') (fun f => f)).trans hx0'
    obtain ⟨p0, _, _⟩ := box3 hx1
    have kw := k0'.trans k1
    have hOx : ∀ W, Kept Nought w1 W → Calls Try.prog 25 #[.slice co N eap] W fun e w' => ∃ v', e = .returned v' ∧ IsBig w' v' X ∧ Kept Nought w1 w' ∧ Kept Nought W w' := fun W k => by
      refine (hOx0 W (kw.trans k)).mono ?_
      rintro e w' ⟨v', rfl, hb, _, kk⟩
      exact ⟨v', rfl, hb, k.trans kk, kk⟩
    have hOm : ∀ W, Kept Nought w1 W → Calls Try.prog 25 #[.slice ao L cap] W fun e w' => ∃ v', e = .returned v' ∧ IsBig w' v' V ∧ Kept Nought w1 w' ∧ Kept Nought W w' := fun W k => by
      refine (hOm0 W (kw.trans k)).mono ?_
      rintro e w' ⟨v', rfl, hb, _, kk⟩
      exact ⟨v', rfl, hb, k.trans kk, kk⟩
    clear hMs1 k0 k0' k1 hx0 hx0' hx1 hOx0 hOm0
    by_cases hg : Nat.gcd X V = 1
    · obtain ⟨u1, u2, u3⟩ := T1.out hg
      subst u3
      have hIn : ∀ W u m, Kept Nought w1 W → IsBig W u X → IsBig W m V → Calls Try.prog 24 #[u, m] W fun e w' => ∃ v', e = .returned (.tuple #[v', .bool true]) ∧ IsBig w' v' T ∧ Kept Nought w1 w' := fun W u m k h1 h3 => by
        refine (rInverse u m X V W h1 h3 (by omega) (by omega) (by omega)).mono ?_
        rintro e w' ⟨v', rfl, hb, _, _, kk⟩
        obtain ⟨T', q1, q2, q3⟩ := hb hg
        have e1 : 1 % V = 1 := Nat.mod_eq_of_lt (by omega)
        have eT : T' = T := by
          have := red_uniq (P := X) (T := T) (Y := T') (z := 1) u2 q1 (by rw [q2, e1])
          rw [Nat.mul_one, Nat.mod_eq_of_lt u1] at this
          exact this
        rw [eT] at q3
        refine ⟨v', ?_, q3, k.trans kk⟩
        rw [decide_eq_true hg]
      have U1 := toHid u1
      clear u1 u2 hg T1 T2
      go_wp2_with fail
      go_region_held3 (fun w' => w'.cell? ⟨w.heap.size, 0, none⟩ = some (.slice ao L cap))
        (first | (go_keep; done) | assumption)
        (first
        | (go_at_call_of 25 (Value.slice co N eap); refine (hOx _ ?_).mono ?_; (exact kdrew (kself _)); rintro e w2 ⟨v2, rfl, hb2, k2, k2'⟩; have q2 := k2.cellN p0)
        | (go_at_call_of 25 (Value.slice ao L cap); refine (hOm _ ?_).mono ?_; (exact k2); rintro e w4 ⟨v4, rfl, hb4, k4, k4'⟩; have q4 := k4.cellN p0)
        | (go_at_call 24; refine (hIn _ _ _ ?_ ?_ ?_).mono ?_; (exact k4); (exact hb2.grew k4'); (exact hb4); rintro e w5 ⟨v5, rfl, hb5, k5⟩; have q5 := k5.cellN p0))
      all_goals
        have hN := rNat v5 T L w5 hb5 (by omega)
        have kk := kw.trans k5
        clear hOx hOm hIn hb2 hb4 k2 k2' k4 k4'
        go_wp2_with fail
        refine hN.mono ?_
        rintro e w6 ⟨v6, rfl, hr6, _, k6⟩
        go_wp2_with fail
        go_ret3
        rw [HRL.out]
        exact ⟨_, rfl, hr6, kk.trans k6⟩
    · obtain ⟨u1, u2⟩ := T2.out hg
      subst u1
      subst u2
      have hIn : ∀ W u m, Kept Nought w1 W → IsBig W u X → IsBig W m V → Calls Try.prog 24 #[u, m] W fun e w' => e = .returned (.tuple #[.slice none 0 0, .bool false]) ∧ Kept Nought w1 w' := fun W u m k h1 h3 => by
        refine (rInverse u m X V W h1 h3 (by omega) (by omega) (by omega)).mono ?_
        rintro e w' ⟨v', rfl, _, hb, _, kk⟩
        rw [hb hg, decide_eq_false hg]
        exact ⟨rfl, k.trans kk⟩
      have hz : Hid (digs 18446744073709551616 0 L = List.replicate L 0) := by
        have := fill_digs (ys := []) (V := 0) (m := L) (Digs.nil _) rfl (Nat.zero_le _)
        unfold Hid
        simpa using this
      clear hg T1 T2
      go_wp2_with fail
      go_region_held3 (fun w' => w'.cell? ⟨w.heap.size, 0, none⟩ = some (.slice ao L cap))
        (first | (go_keep; done) | assumption)
        (first
        | (go_at_call_of 25 (Value.slice co N eap); refine (hOx _ ?_).mono ?_; (exact kdrew (kself _)); rintro e w2 ⟨v2, rfl, hb2, k2, k2'⟩; have q2 := k2.cellN p0)
        | (go_at_call_of 25 (Value.slice ao L cap); refine (hOm _ ?_).mono ?_; (exact k2); rintro e w4 ⟨v4, rfl, hb4, k4, k4'⟩; have q4 := k4.cellN p0)
        | (go_at_call 24; refine (hIn _ _ _ ?_ ?_ ?_).mono ?_; (exact k4); (exact hb2.grew k4'); (exact hb4); rintro e w5 ⟨rfl, k5⟩; have q5 := k5.cellN p0))
      all_goals
        have kk := kw.trans k5
        clear hOx hOm hIn hb2 hb4 k2 k2' k4 k4'
        go_wp2_with (at_make; refine wpList_make_full _ rfl _ _ 26 rfl w5.heap.size 27 i0 _ 1 Try.underlying26 hi0 hz0 hz1 _ _ _ _ L rfl rfl rfl rfl (by rw [hz2]; omega) (by unfold maxLen; omega) (Nat.le_refl _) ?_; intro w6 ho6 hg6)
        rw [zeros_map] at ho6
        go_ret3
        rw [HRL.out, hz.out]
        exact ⟨_, rfl, Row.of_own (base := w5.heap.size) (e := 27) (by rw [List.length_replicate]; exact ho6), kk.trans (grown_kept hg6)⟩
  · have hMs1 := hMs false ⟨fun h => absurd h (by decide), fun h => absurd ⟨h.1, h.2 0 (by omega)⟩ hbad⟩
    rw [if_neg (by omega)] at hRL
    subst hRL
    obtain rfl := hF rfl
    clear hMs hu hv hx hd hdx hsl hbad hsz hT
    go_enter Try.func12, Try.ntmps12
    go_wp2_with fail
    refine hMs1.mono ?_
    rintro e w1 ⟨rfl, k1⟩
    go_wp2_with fail
    go_ret3
    exact ⟨_, rfl, Row.nil _ _, k0'.trans k1⟩

end Go.Proofs.Ytamkkmifbajdfaa
