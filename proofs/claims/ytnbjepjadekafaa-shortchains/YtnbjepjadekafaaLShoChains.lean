/- The law ShortChains, walked. -/
import Derived.Test.YtnbjepjadekafaaLaw9
import Derived.Test.YtnbjepjadekafaaRef7A
import Derived.Test.YtnbjepjadekafaaOpenRow
namespace Go.Proofs.Ytnbjepjadekafaa
open Go.RowKit

theorem bool_of9 (P : Prop) : ∃ R : Bool, R = true ↔ P := by
  by_cases h : P
  · exact ⟨true, by simp [h]⟩
  · exact ⟨false, by simp [h]⟩

theorem row_slice9 {w : World} {v : Value} {l : List Nat} {n : Nat} (h : Row .u64 w v l) (hl : l.length = n) : ∃ o c, v = .slice o n c := by
  obtain ⟨xo, xn, xc, rfl, he, _⟩ := h.open
  exact ⟨xo, xc, by rw [← hl, he.out]⟩

theorem pow_chain (X V d e : Nat) : (X ^ d % V) ^ e % V = X ^ (d * e) % V := by
  rw [← Nat.pow_mod, ← Nat.pow_mul]

set_option maxRecDepth 20000 in
set_option maxHeartbeats 4000000 in
theorem walkShortChains (u : Value) (ms : List Nat) (k : Int) (v : Value) (rs : List Nat) (x : Value) (xs : List Nat) (s : Int) (t : Int) (w : World) (hu : Row .u64 w u ms) (hv : Row .u64 w v rs) (hx : Row .u64 w x xs) (hdm : Digs 18446744073709551616 ms) (hdr : Digs 18446744073709551616 rs) (hdx : Digs 18446744073709551616 xs) (hb : (Lit.int .u64 k).wf = true) (hs : (Lit.int .u64 s).wf = true) (ht : (Lit.int .u64 t).wf = true) :
    Calls Try.prog 5 #[.agg #[u, .int .u64 k, v], x, .int .u64 s, .int .u64 t] w fun e w' => e = .returned (.bool true) ∧ Below w.heap.size w w' := by
  obtain ⟨K, rfl, hK⟩ : ∃ D : Nat, k = (D : Int) ∧ D < 18446744073709551616 := by
    have := wf_u64 k hb
    exact ⟨k.toNat, by omega, by omega⟩
  obtain ⟨d, rfl, hd⟩ : ∃ D : Nat, s = (D : Int) ∧ D < 18446744073709551616 := by
    have := wf_u64 s hs
    exact ⟨s.toNat, by omega, by omega⟩
  obtain ⟨f, rfl, hf⟩ : ∃ D : Nat, t = (D : Int) ∧ D < 18446744073709551616 := by
    have := wf_u64 t ht
    exact ⟨t.toNat, by omega, by omega⟩
  obtain ⟨ao, L, cap, rfl, hL, _, _, _, _⟩ := hu.open
  obtain ⟨bo, M, dap, rfl, hM, _, _, _, _⟩ := hv.open
  obtain ⟨xo, N1, xc, rfl, hLN1, _, _, _, _⟩ := hx.open
  obtain ⟨W, hW⟩ : ∃ W, W = w.alloc (.cells #[.slice ao L cap, .int .u64 (K : Nat), .slice bo M dap] 26) := ⟨_, rfl⟩
  have k0 : Kept Nought w W := by rw [hW]; exact (Kept.refl Nought w).alloc _
  have hx0 : W.heap[w.heap.size]? = some (.cells #[.slice ao L cap, .int .u64 (K : Nat), .slice bo M dap] 26 (0, 0)) := by rw [hW]; exact heap_alloc_new _ _
  have hA := f9Awake W
  have JC : Hid (∀ W', Kept Nought W W' → W'.cell? ⟨w.heap.size, 0, none⟩ = some (.slice ao L cap) ∧ W'.cell? ⟨w.heap.size, 1, none⟩ = some (.int .u64 (K : Nat)) ∧ W'.cell? ⟨w.heap.size, 2, none⟩ = some (.slice bo M dap)) := fun W' k => cells3 ((k.block _ (lt_of_block hx0) (fun f => f)).trans hx0)
  have HW := toHid hW
  have HK0 := toHid k0
  obtain ⟨R, hR⟩ : ∃ R : Bool, R = decide (((L ≤ 40 ∧ M ≤ 40) ∧ N1 ≤ 40) ∧ L ≤ 10 ∧ ((0 : Nat) ≤ 6 ∨ (0 : Nat) = 301)) := ⟨_, rfl⟩
  obtain ⟨Q, hQ⟩ := bool_of9 (okMod ms K rs ∧ (N1 = L ∧ val 18446744073709551616 xs < val 18446744073709551616 ms))
  have JF : Hid (∀ W', Kept Nought W W' → Calls Try.prog 7 #[.agg #[.slice ao L cap, .int .u64 (K : Nat), .slice bo M dap], .slice xo N1 xc, .slice none 0 0] W' fun r w' => r = .returned (.bool R) ∧ Kept Nought W w') := fun W' k => by
    refine (f8Few ao bo xo none L M N1 0 cap dap xc 0 (K : Nat) W' R hR).mono ?_
    rintro e w' ⟨rfl, k'⟩
    exact ⟨rfl, k.trans k'⟩
  have JM : Hid (∀ W', Kept Nought W W' → L ≤ 40 → Calls Try.prog 12 #[.agg #[.slice ao L cap, .int .u64 (K : Nat), .slice bo M dap], .slice (some ⟨W'.heap.size, 0, none⟩) 1 1] (W'.alloc (.cells #[.slice xo N1 xc] 23)) fun r w' => r = .returned (.bool Q) ∧ Kept Nought W w') := fun W' k hbd => by
    have kk := k0.trans (k.alloc (.cells #[.slice xo N1 xc] 23))
    refine (q7Members ao bo L M cap dap K ms rs _ 1 1 (fun _ => xo) (fun _ => N1) (fun _ => xc) (fun _ => xs) Q ?_ _ (hu.grew kk) (hv.grew kk) hdm (by omega) (slot1_new W' _ xo N1 xc rfl) (fun _ _ => hx.grew kk) (fun _ _ => hdx) (by omega)).mono ?_
    · rw [hQ]
      exact and_congr_right fun _ => ⟨fun h _ _ => h, fun h => h 0 (by omega)⟩
    · rintro e w' ⟨rfl, k'⟩
      exact ⟨rfl, (k.alloc _).trans k'⟩
  cases R
  · clear hu hv hx hdm hdr hdx hb hs ht hK hd hf hx0 hW k0 hL hM hLN1 hR hQ
    go_enter Try.func5, Try.ntmps5
    go_wp2_with (rw [← HW.out])
    refine hA.mono ?_
    rintro e w1 ⟨rfl, k1⟩
    obtain ⟨p0, p1, p2⟩ := JC.out _ k1
    have hF := JF.out _ k1
    clear hA
    go_wp2_with fail
    refine hF.mono ?_
    rintro e w2 ⟨rfl, k2⟩
    go_wp2_with fail
    go_ret
    exact ⟨rfl, below_kept (HK0.out.trans k2) (Nat.le_refl _)⟩
  · have h1 := of_decide_eq_true hR.symm
    have HL4 : Hid (L ≤ 40) := h1.1.1.1
    cases Q
    · clear hu hv hx hdm hdr hdx hb hs ht hK hd hf hx0 hW k0 hL hM hLN1 hR hQ h1
      go_enter Try.func5, Try.ntmps5
      go_wp2_with (rw [← HW.out])
      refine hA.mono ?_
      rintro e w1 ⟨rfl, k1⟩
      obtain ⟨p0, p1, p2⟩ := JC.out _ k1
      have hF := JF.out _ k1
      clear hA
      go_wp2_with fail
      refine hF.mono ?_
      rintro e w2 ⟨rfl, k2⟩
      obtain ⟨q0, q1, q2⟩ := JC.out _ k2
      have hG := JM.out _ k2 HL4.out
      clear hF p0 p1 p2
      go_wp2_with fail
      refine hG.mono ?_
      rintro e w3 ⟨rfl, k3⟩
      go_wp2_with fail
      go_ret
      exact ⟨rfl, below_kept (HK0.out.trans k3) (Nat.le_refl _)⟩
    · obtain ⟨hok, rfl, hlt⟩ := hQ.1 rfl
      have hl10 := h1.2.1
      obtain ⟨f1, f2, f3, f4⟩ := hok.len
      have hVN : val 18446744073709551616 ms < 18446744073709551616 ^ N1 := by rw [← hL.out]; exact val_lt (by omega) hdm
      obtain ⟨V, hV⟩ : ∃ V, V = val 18446744073709551616 ms := ⟨_, rfl⟩
      obtain ⟨X, hX⟩ : ∃ X, X = val 18446744073709551616 xs := ⟨_, rfl⟩
      have hws : max (wordsN (d * f)) 1 ≤ 300 := by
        have h2 : wordsN (d * f) ≤ 2 := (wordsN_le _ _).2 (by
          have h3 : d * f ≤ 18446744073709551615 * 18446744073709551615 := Nat.mul_le_mul (by omega) (by omega)
          exact Nat.lt_of_le_of_lt h3 (by decide))
        omega
      obtain ⟨NS, hNS⟩ : ∃ NS, NS = max (wordsN (d * f)) 1 := ⟨_, rfl⟩
      have hvs : val 18446744073709551616 (digs 18446744073709551616 (d * f) NS) = d * f := by
        rw [val_digs, Nat.mod_eq_of_lt]
        exact (wordsN_le _ _).1 (by omega)
      have hpw : ∀ P, val 18446744073709551616 (digs 18446744073709551616 (P % V) N1) = P % V := fun P => by
        rw [val_digs, Nat.mod_eq_of_lt]
        exact Nat.lt_trans (Nat.mod_lt _ (by omega)) (by rw [hV]; exact hVN)
      have JX : Hid (∀ W' eo ec es (Z z : Nat), Kept Nought W W' → Row .u64 W' (.slice eo N1 ec) es → Digs 18446744073709551616 es → val 18446744073709551616 es = Z → Z < V → z < 18446744073709551616 → Calls Try.prog 8 #[.agg #[.slice ao N1 cap, .int .u64 (K : Nat), .slice bo M dap], .slice eo N1 ec, .int .u64 (z : Nat)] W' fun e w' => ∃ po pc, e = .returned (.tuple #[.slice po N1 pc, .int .i64 0]) ∧ Row .u64 w' (.slice po N1 pc) (digs 18446744073709551616 (Z ^ z % V) N1) ∧ Kept Nought W' w') := fun W' eo ec es Z z k he hde hZ hZV hz => by
        have kk := k0.trans k
        refine (sExp ao bo eo N1 M K cap dap N1 ec z ms rs es 0 ⟨fun _ => ⟨hok, rfl, by rw [hZ, ← hV]; exact hZV⟩, fun _ => rfl⟩ (by omega) _ rfl W' (hu.grew kk) (hv.grew kk) he hdm hdr hde hz hK (by omega)).mono ?_
        rintro e w' ⟨v', rfl, h3, h4⟩
        rw [if_pos rfl, hZ, ← hV] at h3
        obtain ⟨po, pc, rfl⟩ := row_slice9 h3 (digs_length _ _ _)
        exact ⟨po, pc, rfl, h3, h4⟩
      have JQ : Hid (∀ W' eo ec, Kept Nought W W' → Row .u64 W' (.slice eo NS ec) (digs 18446744073709551616 (d * f) NS) → Calls Try.prog 11 #[.agg #[.slice ao N1 cap, .int .u64 (K : Nat), .slice bo M dap], .slice xo N1 xc, .slice eo NS ec] W' fun e w' => ∃ v', e = .returned (.tuple #[v', .int .i64 0]) ∧ Row .u64 w' v' (digs 18446744073709551616 (X ^ (d * f) % V) N1) ∧ Kept Nought W' w' ∧ Kept Nought W w') := fun W' eo ec k he => by
        have kk := k0.trans k
        refine (sQuick ao bo xo eo N1 M K cap dap N1 xc NS ec ms rs xs _ 0 (.inl ⟨rfl, ⟨hok, rfl, hlt⟩, by omega⟩) _ rfl W' (hu.grew kk) (hv.grew kk) (hx.grew kk) he hdm hdr hdx (digs_digs (by omega) _ _) hK (by omega)).mono ?_
        rintro e w' ⟨v', rfl, h3, h4⟩
        rw [if_pos rfl, hvs, ← hV, ← hX] at h3
        exact ⟨v', rfl, h3, h4, k.trans h4⟩
      have J1 : Hid (∀ W' (z : Nat), Kept Nought W W' → z < 18446744073709551616 → Calls Try.prog 15 #[.int .u64 (z : Nat)] W' fun e w' => ∃ v', e = .returned v' ∧ IsBig w' v' z ∧ Kept Nought W' w' ∧ Kept Nought W w') := fun W' z k hz => by
        refine (rSmall z hz W').mono ?_
        rintro e w' ⟨v', rfl, h3, _, h4⟩
        exact ⟨v', rfl, h3, h4, k.trans h4⟩
      have hdl : ∀ z, z < 18446744073709551616 → dlen z ≤ 100000000 := fun z hz => by
        have h3 := dlen_val6 (Digs.one (B := 18446744073709551616) hz)
        rw [show val 18446744073709551616 [z] = z by simp [val]] at h3
        simp at h3
        omega
      have J3 : Hid (∀ W' (a b : Value), Kept Nought W W' → IsBig W' a d → IsBig W' b f → Calls Try.prog 14 #[a, b] W' fun e w' => ∃ v', e = .returned v' ∧ IsBig w' v' (d * f) ∧ Kept Nought W' w' ∧ Kept Nought W w') := fun W' a b k h3 h4 => by
        refine (rMul a b d f W' h3 h4 (hdl d hd) (hdl f hf)).mono ?_
        rintro e w' ⟨v', rfl, h5, _, h6⟩
        exact ⟨v', rfl, h5, h6, k.trans h6⟩
      have J4 : Hid (∀ W' (a : Value), Kept Nought W W' → IsBig W' a (d * f) → Calls Try.prog 13 #[a] W' fun e w' => ∃ so sc, e = .returned (.slice so NS sc) ∧ Row .u64 w' (.slice so NS sc) (digs 18446744073709551616 (d * f) NS) ∧ Kept Nought W' w' ∧ Kept Nought W w') := fun W' a k h3 => by
        refine (rLeast a (d * f) W' h3).mono ?_
        rintro e w' ⟨v', rfl, h5, _, h6⟩
        rw [← hNS] at h5
        obtain ⟨so, sc, rfl⟩ := row_slice9 h5 (digs_length _ _ _)
        exact ⟨so, sc, rfl, h5, h6, k.trans h6⟩
      have JS : Hid (∀ W' (u v : Value) (l : List Nat), Row .u64 W' u l → Row .u64 W' v l → Calls Try.prog 10 #[u, v] W' fun r w' => r = .returned (.bool true) ∧ Kept Nought W' w') := fun W' u v l h1 h2 => by
        refine (rSame u v l l W' h1 h2).mono ?_
        rintro e w' ⟨rfl, n, rfl⟩
        exact ⟨by rw [decide_eq_true rfl], (Kept.refl Nought W').drewN n⟩
      have HX1 : Hid (∀ W', Kept Nought W W' → Calls Try.prog 8 #[.agg #[.slice ao N1 cap, .int .u64 (K : Nat), .slice bo M dap], .slice xo N1 xc, .int .u64 (d : Nat)] W' fun e w' => ∃ po pc, e = .returned (.tuple #[.slice po N1 pc, .int .i64 0]) ∧ Row .u64 w' (.slice po N1 pc) (digs 18446744073709551616 (X ^ d % V) N1) ∧ Kept Nought W' w') := fun W' k => JX.out W' xo xc xs X d k (hx.grew (k0.trans k)) hdx hX.symm (by rw [hX, hV]; exact hlt) hd
      have HX2 : Hid (∀ W' po pc, Kept Nought W W' → Row .u64 W' (.slice po N1 pc) (digs 18446744073709551616 (X ^ d % V) N1) → Calls Try.prog 8 #[.agg #[.slice ao N1 cap, .int .u64 (K : Nat), .slice bo M dap], .slice po N1 pc, .int .u64 (f : Nat)] W' fun e w' => ∃ po pc, e = .returned (.tuple #[.slice po N1 pc, .int .i64 0]) ∧ Row .u64 w' (.slice po N1 pc) (digs 18446744073709551616 (X ^ (d * f) % V) N1) ∧ Kept Nought W' w') := fun W' po pc k h => by
        have := JX.out W' po pc _ (X ^ d % V) f k h (digs_digs (by omega) _ _) (hpw _) (Nat.mod_lt _ (by rw [hV]; omega)) hf
        rw [pow_chain] at this
        exact this
      have HD := toHid hd
      have HF := toHid hf
      clear hu hv hx hdm hdr hdx hb hs ht hK hd hf hx0 hW k0 hL hM hLN1 hR hQ h1 hok hlt hl10 f1 f2 f3 f4 hVN hV hX hws hNS hvs hpw hdl JX
      go_enter Try.func5, Try.ntmps5
      go_wp2_with (rw [← HW.out])
      refine hA.mono ?_
      rintro e w1 ⟨rfl, k1⟩
      obtain ⟨p0, p1, p2⟩ := JC.out _ k1
      have hF := JF.out _ k1
      clear hA
      go_wp2_with fail
      refine hF.mono ?_
      rintro e w2 ⟨rfl, k2⟩
      obtain ⟨q0, q1, q2⟩ := JC.out _ k2
      have hG := JM.out _ k2 HL4.out
      clear hF p0 p1 p2
      go_wp2_with fail
      refine hG.mono ?_
      rintro e w3 ⟨rfl, k3⟩
      obtain ⟨r0, r1, r2⟩ := JC.out _ k3
      have hX1 := HX1.out _ k3
      clear hG q0 q1 q2
      go_wp2_with fail
      refine hX1.mono ?_
      rintro e w4 ⟨po, pc, rfl, hr4, k4⟩
      have K4 := toHid (k3.trans k4)
      obtain ⟨s0, s1, s2⟩ := JC.out _ K4.out
      have hX2 := HX2.out _ po pc K4.out hr4
      clear hX1 r0 r1 r2 hr4 k4
      go_wp2_with fail
      refine hX2.mono ?_
      rintro e w5 ⟨qo, qc, rfl, hr5, k5⟩
      have K5 := toHid (K4.out.trans k5)
      have kd : Kept Nought W w5.drew := K5.out.drew
      obtain ⟨t0, t1, t2⟩ := JC.out _ K5.out
      have HR5 := toHid hr5
      clear hX2 s0 s1 s2 hr5 k5
      go_wp2_with fail
      go_region_held3 (fun w' => w'.cell? ⟨w.heap.size, 0, none⟩ = some (.slice ao N1 cap) ∧ w'.cell? ⟨w.heap.size, 1, none⟩ = some (.int .u64 (K : Int)) ∧ w'.cell? ⟨w.heap.size, 2, none⟩ = some (.slice bo M dap))
        (((try dsimp only); (repeat' apply And.intro) <;> first | (go_keep; done) | assumption))
        (first
        | (go_at_call 11; refine (JQ.out _ so sc k9 hr9).mono ?_; rintro e w10 ⟨v10, rfl, hr10, k10n, k10⟩; obtain ⟨x0, x1, x2⟩ := JC.out _ k10)
        | (go_at_call 13; refine (J4.out _ v8 k8 hb8).mono ?_; rintro e w9 ⟨so, sc, rfl, hr9, k9n, k9⟩; obtain ⟨x0, x1, x2⟩ := JC.out _ k9)
        | (go_at_call 14; refine (J3.out _ v6 v7 k7 (hb6.grew k7n) hb7).mono ?_; rintro e w8 ⟨v8, rfl, hb8, k8n, k8⟩; obtain ⟨x0, x1, x2⟩ := JC.out _ k8)
        | (go_at_call 15; refine (J1.out _ f k6 HF.out).mono ?_; rintro e w7 ⟨v7, rfl, hb7, k7n, k7⟩; obtain ⟨x0, x1, x2⟩ := JC.out _ k7)
        | (go_at_call 15; refine (J1.out _ d kd HD.out).mono ?_; rintro e w6 ⟨v6, rfl, hb6, k6n, k6⟩; obtain ⟨x0, x1, x2⟩ := JC.out _ k6))
      all_goals
        have hSa := JS.out w10 _ v10 _ (HR5.out.grew ((Kept.refl Nought w5).drew.trans (k6n.trans (k7n.trans (k8n.trans (k9n.trans k10n)))))) hr10
        have K10 := toHid k10
        clear hr10 hb6 hb7 hb8 hr9 k6n k7n k8n k9n k10n k6 k7 k8 k9 k10
        go_wp2_with fail
        refine hSa.mono ?_
        rintro e w11 ⟨rfl, k11⟩
        go_wp2_with fail
        go_ret
        exact ⟨rfl, below_kept (HK0.out.trans (K10.out.trans k11)) (Nat.le_refl _)⟩

end Go.Proofs.Ytnbjepjadekafaa
