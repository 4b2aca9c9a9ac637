/- The law RingLaws, walked. -/
import Derived.Test.YtaehphckkmbbnaaLaw7b
import Derived.Test.YtaehphckkmbbnaaOpenRow
namespace Go.Proofs.Ytaehphckkmbbnaa
open Go.RowKit

theorem law7sub {X Z V : Nat} (hX : X < V) (hZ : Z < V) : subM ((X + Z) % V) Z V = X := by
  unfold subM
  by_cases h : X + Z < V
  · rw [Nat.mod_eq_of_lt h, if_pos (by omega)]
    omega
  · rw [Nat.mod_eq_sub_mod (by omega), Nat.mod_eq_of_lt (by omega), if_neg (by omega)]
    omega

theorem law7mul (X Z C V : Nat) : X * Z % V * C % V = X * (Z * C % V) % V := by
  rw [Nat.mul_mod (X * Z % V), Nat.mod_mod, ← Nat.mul_mod, Nat.mul_mod X (Z * C % V), Nat.mod_mod, ← Nat.mul_mod, Nat.mul_assoc]

theorem law7part (X Z C V : Nat) : (X + Z) % V * C % V = (X * C % V + Z * C % V) % V := by
  rw [← Nat.add_mod, Nat.mul_mod ((X + Z) % V), Nat.mod_mod, ← Nat.mul_mod, Nat.add_mul]

theorem law7add (X Z C V : Nat) : ((X + Z) % V + C) % V = (X + (Z + C) % V) % V := by
  rw [Nat.mod_add_mod, Nat.add_mod_mod, Nat.add_assoc]

def n3l {α : Type} (a b c : α) : Nat → α := fun i => if i = 0 then a else if i = 1 then b else c

theorem three_slots {W : World} {g N1 N2 N3 xc yc zc : Nat} {xo yo zo : Option Addr} {t : TypeId} (h : W.heap[g]? = some (.cells #[.slice xo N1 xc, .slice yo N2 yc, .slice zo N3 zc] t (0, 0))) : Slots W (some ⟨g, 0, none⟩) 3 (n3l xo yo zo) (n3l N1 N2 N3) (n3l xc yc zc) := by
  intro i hi
  refine ⟨g, 0, rfl, ?_⟩
  have h01 : i = 0 ∨ i = 1 ∨ i = 2 := by omega
  rcases h01 with rfl | rfl | rfl
  · exact (cell_of_row W g 0 _ _ _ h).trans rfl
  · exact (cell_of_row W g 1 _ _ _ h).trans rfl
  · exact (cell_of_row W g 2 _ _ _ h).trans rfl

set_option maxRecDepth 20000 in
set_option maxHeartbeats 2000000 in
theorem walkRingLaws (u : Value) (ms : List Nat) (k : Int) (v : Value) (rs : List Nat) (x : Value) (xs : List Nat) (y : Value) (ys : List Nat) (z : Value) (zs : List Nat) (w : World) (hu : Row .u64 w u ms) (hv : Row .u64 w v rs) (hx : Row .u64 w x xs) (hy : Row .u64 w y ys) (hz : Row .u64 w z zs) (hdm : Digs 18446744073709551616 ms) (hdr : Digs 18446744073709551616 rs) (hdx : Digs 18446744073709551616 xs) (hdy : Digs 18446744073709551616 ys) (hdz : Digs 18446744073709551616 zs) (hb : (Lit.int .u64 k).wf = true) :
    Calls Try.prog 7 #[.agg #[u, .int .u64 k, v], x, y, z] w fun e w' => e = .returned (.bool true) ∧ Below w.heap.size w w' := by
  obtain ⟨K, rfl, hK⟩ : ∃ D : Nat, k = (D : Int) ∧ D < 18446744073709551616 := by
    have := wf_u64 k hb
    exact ⟨k.toNat, by omega, by omega⟩
  obtain ⟨ao, L, cap, rfl, hL, _, _, _, _⟩ := hu.open
  obtain ⟨bo, M, dap, rfl, hM, _, _, _, _⟩ := hv.open
  obtain ⟨xo, N1, xc, rfl, hLN1, _, _, _, _⟩ := hx.open
  obtain ⟨yo, N2, yc, rfl, hLN2, _, _, _, _⟩ := hy.open
  obtain ⟨zo, N3, zc, rfl, hLN3, _, _, _, _⟩ := hz.open
  obtain ⟨W, hW⟩ : ∃ W, W = w.alloc (.cells #[.slice ao L cap, .int .u64 (K : Nat), .slice bo M dap] 26) := ⟨_, rfl⟩
  have k0 : Kept Nought w W := by rw [hW]; exact (Kept.refl Nought w).alloc _
  have hx0 : W.heap[w.heap.size]? = some (.cells #[.slice ao L cap, .int .u64 (K : Nat), .slice bo M dap] 26 (0, 0)) := by rw [hW]; exact heap_alloc_new _ _
  have hA := f7Awake W
  have JC : Hid (∀ W', Kept Nought W W' → W'.cell? ⟨w.heap.size, 0, none⟩ = some (.slice ao L cap) ∧ W'.cell? ⟨w.heap.size, 1, none⟩ = some (.int .u64 (K : Nat)) ∧ W'.cell? ⟨w.heap.size, 2, none⟩ = some (.slice bo M dap)) := fun W' k => cells3 ((k.block _ (lt_of_block hx0) (fun f => f)).trans hx0)
  have HW := toHid hW
  have HK0 := toHid k0
  obtain ⟨R, hR⟩ : ∃ R : Bool, R = decide ((L ≤ 40 ∧ M ≤ 40) ∧ N1 ≤ 40 ∧ N2 ≤ 40 ∧ N3 ≤ 40) := ⟨_, rfl⟩
  have JF : Hid (∀ W', Kept Nought W W' → Calls Try.prog 13 #[.agg #[.slice ao L cap, .int .u64 (K : Nat), .slice bo M dap], .slice (some ⟨W'.heap.size, 0, none⟩) 3 3] (W'.alloc (.cells #[.slice xo N1 xc, .slice yo N2 yc, .slice zo N3 zc] 23)) fun r w' => r = .returned (.bool R) ∧ Kept Nought W w') := fun W' k => by
    refine (f7Few ao bo L M cap dap K _ 3 3 _ _ _ _ (by omega) R ?_ (three_slots (heap_alloc_new W' _))).mono ?_
    · rw [hR]
      refine decide_eq_decide.2 (and_congr_right fun _ => ⟨fun h i hi => ?_, fun h => ⟨h 0 (by omega), h 1 (by omega), h 2 (by omega)⟩⟩)
      have h01 : i = 0 ∨ i = 1 ∨ i = 2 := by omega
      rcases h01 with rfl | rfl | rfl
      · exact h.1
      · exact h.2.1
      · exact h.2.2
    · rintro e w' ⟨rfl, k'⟩
      exact ⟨rfl, (k.alloc _).trans k'⟩
  by_cases h4 : (L ≤ 40 ∧ M ≤ 40) ∧ N1 ≤ 40 ∧ N2 ≤ 40 ∧ N3 ≤ 40
  · obtain rfl : R = true := by rw [hR]; exact decide_eq_true h4
    have JM : Hid (∀ W' (Q : Bool), (Q = true ↔ okMod ms K rs ∧ (N1 = L ∧ val 18446744073709551616 xs < val 18446744073709551616 ms) ∧ (N2 = L ∧ val 18446744073709551616 ys < val 18446744073709551616 ms) ∧ (N3 = L ∧ val 18446744073709551616 zs < val 18446744073709551616 ms)) → Kept Nought W W' → Calls Try.prog 26 #[.agg #[.slice ao L cap, .int .u64 (K : Nat), .slice bo M dap], .slice (some ⟨W'.heap.size, 0, none⟩) 3 3] (W'.alloc (.cells #[.slice xo N1 xc, .slice yo N2 yc, .slice zo N3 zc] 23)) fun r w' => r = .returned (.bool Q) ∧ Kept Nought W w') := fun W' Q hQ k => by
      have kk := k0.trans (k.alloc (.cells #[.slice xo N1 xc, .slice yo N2 yc, .slice zo N3 zc] 23))
      refine (q7Members ao bo L M cap dap K ms rs _ 3 3 (n3l xo yo zo) (n3l N1 N2 N3) (n3l xc yc zc) (n3l xs ys zs) Q ?_ _ (hu.grew kk) (hv.grew kk) hdm (by omega) (three_slots (heap_alloc_new W' _)) ?_ ?_ (by omega)).mono ?_
      · rw [hQ]
        refine and_congr_right fun _ => ⟨fun h i hi => ?_, fun h => ⟨h 0 (by omega), h 1 (by omega), h 2 (by omega)⟩⟩
        have h01 : i = 0 ∨ i = 1 ∨ i = 2 := by omega
        rcases h01 with rfl | rfl | rfl
        · exact h.1
        · exact h.2.1
        · exact h.2.2
      · intro i hi
        have h01 : i = 0 ∨ i = 1 ∨ i = 2 := by omega
        rcases h01 with rfl | rfl | rfl
        · exact hx.grew kk
        · exact hy.grew kk
        · exact hz.grew kk
      · intro i hi
        have h01 : i = 0 ∨ i = 1 ∨ i = 2 := by omega
        rcases h01 with rfl | rfl | rfl
        · exact hdx
        · exact hdy
        · exact hdz
      · rintro e w' ⟨rfl, k'⟩
        exact ⟨rfl, (k.alloc _).trans k'⟩
    by_cases hP : okMod ms K rs ∧ (N1 = L ∧ val 18446744073709551616 xs < val 18446744073709551616 ms) ∧ (N2 = L ∧ val 18446744073709551616 ys < val 18446744073709551616 ms) ∧ (N3 = L ∧ val 18446744073709551616 zs < val 18446744073709551616 ms)
    · have hMt := JM.out
      have JMt : Hid (∀ W', Kept Nought W W' → Calls Try.prog 26 #[.agg #[.slice ao L cap, .int .u64 (K : Nat), .slice bo M dap], .slice (some ⟨W'.heap.size, 0, none⟩) 3 3] (W'.alloc (.cells #[.slice xo N1 xc, .slice yo N2 yc, .slice zo N3 zc] 23)) fun r w' => r = .returned (.bool true) ∧ Kept Nought W w') := fun W' k => hMt W' true (by simp only [true_iff]; exact hP) k
      have JSum : Hid (∀ W' v1 v2 X Z, Kept Nought W W' → Mem7 L (val 18446744073709551616 ms) W' v1 X → Mem7 L (val 18446744073709551616 ms) W' v2 Z → Calls Try.prog 23 #[.agg #[.slice ao L cap, .int .u64 (K : Nat), .slice bo M dap], v1, v2] W' fun e w' => ∃ v', e = .returned v' ∧ Mem7 L (val 18446744073709551616 ms) w' v' ((X + Z) % val 18446744073709551616 ms) ∧ Kept Nought W' w') := fun W' v1 v2 X Z k h1 h2 => sum7 ao bo L M K cap dap ms rs v1 v2 X Z W' hP.1 (hu.grew (k0.trans k)) (hv.grew (k0.trans k)) hdm hdr hK h1 h2
      have JDif : Hid (∀ W' v1 v2 X Z, Kept Nought W W' → Mem7 L (val 18446744073709551616 ms) W' v1 X → Mem7 L (val 18446744073709551616 ms) W' v2 Z → Calls Try.prog 28 #[.agg #[.slice ao L cap, .int .u64 (K : Nat), .slice bo M dap], v1, v2] W' fun e w' => ∃ v', e = .returned v' ∧ Mem7 L (val 18446744073709551616 ms) w' v' (subM X Z (val 18446744073709551616 ms)) ∧ Kept Nought W' w') := fun W' v1 v2 X Z k h1 h2 => dif7 ao bo L M K cap dap ms rs v1 v2 X Z W' hP.1 (hu.grew (k0.trans k)) (hv.grew (k0.trans k)) hdm hdr hK h1 h2
      have JPro : Hid (∀ W' v1 v2 X Z, Kept Nought W W' → Mem7 L (val 18446744073709551616 ms) W' v1 X → Mem7 L (val 18446744073709551616 ms) W' v2 Z → Calls Try.prog 27 #[.agg #[.slice ao L cap, .int .u64 (K : Nat), .slice bo M dap], v1, v2] W' fun e w' => ∃ v', e = .returned v' ∧ Mem7 L (val 18446744073709551616 ms) w' v' (X * Z % val 18446744073709551616 ms) ∧ Kept Nought W' w') := fun W' v1 v2 X Z k h1 h2 => pro7 ao bo L M K cap dap ms rs v1 v2 X Z W' hP.1 (hu.grew (k0.trans k)) (hv.grew (k0.trans k)) hdm hdr hK h1 h2
      have JX : Hid (∀ W', Kept Nought W W' → Mem7 L (val 18446744073709551616 ms) W' (.slice xo N1 xc) (val 18446744073709551616 xs)) := fun W' k => Mem7.of (hx.grew (k0.trans k)) hdx (hLN1.out.trans hP.2.1.1) hP.2.1.2
      have JY : Hid (∀ W', Kept Nought W W' → Mem7 L (val 18446744073709551616 ms) W' (.slice yo N2 yc) (val 18446744073709551616 ys)) := fun W' k => Mem7.of (hy.grew (k0.trans k)) hdy (hLN2.out.trans hP.2.2.1.1) hP.2.2.1.2
      have JZ : Hid (∀ W', Kept Nought W W' → Mem7 L (val 18446744073709551616 ms) W' (.slice zo N3 zc) (val 18446744073709551616 zs)) := fun W' k => Mem7.of (hz.grew (k0.trans k)) hdz (hLN3.out.trans hP.2.2.2.1) hP.2.2.2.2
      have HSub := toHid (law7sub hP.2.1.2 hP.2.2.1.2)
      clear hu hv hx hy hz hdm hdr hdx hdy hdz hb hK hR hx0 hW k0 hL hM hLN1 hLN2 hLN3 hP JM hMt
      generalize val 18446744073709551616 ms = VV at *
      generalize val 18446744073709551616 xs = X at *
      generalize val 18446744073709551616 ys = Y at *
      generalize val 18446744073709551616 zs = Z at *
      go_enter Try.func7, Try.ntmps7
      go_wp2_with (rw [← HW.out])
      refine hA.mono ?_
      rintro e w1 ⟨rfl, k1⟩
      obtain ⟨p0, p1, p2⟩ := JC.out _ k1
      have hF := JF.out _ k1
      clear hA
      go_wp2_with fail
      refine hF.mono ?_
      rintro e w2 ⟨rfl, k2⟩
      have hMm := JMt.out _ k2
      obtain ⟨p0, p1, p2⟩ := JC.out _ k2
      clear hF
      go_wp2_with fail
      refine hMm.mono ?_
      rintro e w3 ⟨rfl, k3⟩
      obtain ⟨q0, q1, q2⟩ := JC.out _ k3
      have hS := JSum.out _ _ _ _ _ k3 (JX.out _ k3) (JY.out _ k3)
      clear hMm p0 p1 p2
      go_wp2_with fail
      refine hS.mono ?_
      rintro e w4 ⟨v4, rfl, m4, k4'⟩
      have k4 := k3.trans k4'
      have S4 := toHid m4
      have kd : Kept Nought w4 w4.drew := (Kept.refl _ _).drew
      obtain ⟨p0, p1, p2⟩ := JC.out _ k4
      clear hS q0 q1 q2 m4 k4' k3
      go_wp2_with fail
      go_region_held3 (fun w' => w'.cell? ⟨w.heap.size, 0, none⟩ = some (.slice ao L cap) ∧ w'.cell? ⟨w.heap.size, 1, none⟩ = some (.int .u64 (K : Int)) ∧ w'.cell? ⟨w.heap.size, 2, none⟩ = some (.slice bo M dap))
        (((try dsimp only); (repeat' apply And.intro) <;> first | (go_keep; done) | assumption))
        (first
        | (go_at_call 22; refine (same7 _ ma5 (JX.out _ (k4.trans ka5)) HSub.out).mono ?_; rintro e wa6 ⟨rfl, ga6⟩; have ka6 := ka5.trans ga6; obtain ⟨ca6a, ca6b, ca6c⟩ := JC.out _ (k4.trans ka6))
        | (go_at_call 28; refine (JDif.out _ _ _ _ _ (k4.trans ka4) (S4.out.grew (ka4)) (JY.out _ (k4.trans ka4))).mono ?_; rintro e wa5 ⟨va5, rfl, ma5, ga5⟩; have ka5 := ka4.trans ga5; obtain ⟨ca5a, ca5b, ca5c⟩ := JC.out _ (k4.trans ka5))
        | (go_at_call 22; refine (same7 _ (ma2.grew ga3) ma3 (by rw [Nat.mul_comm])).mono ?_; rintro e wa4 ⟨rfl, ga4⟩; have ka4 := ka3.trans ga4; obtain ⟨ca4a, ca4b, ca4c⟩ := JC.out _ (k4.trans ka4))
        | (go_at_call 27; refine (JPro.out _ _ _ _ _ (k4.trans ka2) (JY.out _ (k4.trans ka2)) (JX.out _ (k4.trans ka2))).mono ?_; rintro e wa3 ⟨va3, rfl, ma3, ga3⟩; have ka3 := ka2.trans ga3; obtain ⟨ca3a, ca3b, ca3c⟩ := JC.out _ (k4.trans ka3))
        | (go_at_call 27; refine (JPro.out _ _ _ _ _ (k4.trans ka1) (JX.out _ (k4.trans ka1)) (JY.out _ (k4.trans ka1))).mono ?_; rintro e wa2 ⟨va2, rfl, ma2, ga2⟩; have ka2 := ka1.trans ga2; obtain ⟨ca2a, ca2b, ca2c⟩ := JC.out _ (k4.trans ka2))
        | (go_at_call 22; refine (same7 _ (S4.out.grew (ka0)) ma0 (by rw [Nat.add_comm])).mono ?_; rintro e wa1 ⟨rfl, ga1⟩; have ka1 := ka0.trans ga1; obtain ⟨ca1a, ca1b, ca1c⟩ := JC.out _ (k4.trans ka1))
        | (go_at_call 23; refine (JSum.out _ _ _ _ _ (k4.trans kd) (JY.out _ (k4.trans kd)) (JX.out _ (k4.trans kd))).mono ?_; rintro e wa0 ⟨va0, rfl, ma0, ga0⟩; have ka0 := kd.trans ga0; obtain ⟨ca0a, ca0b, ca0c⟩ := JC.out _ (k4.trans ka0)))
      have K5 := toHid (k4.trans ka6)
      have kS := toHid (S4.out.grew ka6)
      obtain ⟨w5, hw5⟩ : ∃ w5, w5 = wa6 := ⟨_, rfl⟩
      have k5 : Kept Nought W wa6 := K5.out
      have S5 := kS
      obtain ⟨p0, p1, p2⟩ := JC.out _ k5
      have kd5 : Kept Nought wa6 wa6.drew := (Kept.refl _ _).drew
      clear K5 kS hw5 w5
      go_wp2_with fail
      go_region_held3 (fun w' => w'.cell? ⟨w.heap.size, 0, none⟩ = some (.slice ao L cap) ∧ w'.cell? ⟨w.heap.size, 1, none⟩ = some (.int .u64 (K : Int)) ∧ w'.cell? ⟨w.heap.size, 2, none⟩ = some (.slice bo M dap))
        (((try dsimp only); (repeat' apply And.intro) <;> first | (go_keep; done) | assumption))
        (first
        | (go_at_call 22; refine (same7 _ ((mb5.grew gb6).grew gb7) mb7 (law7mul _ _ _ _)).mono ?_; rintro e wb8 ⟨rfl, gb8⟩; have kb8 := kb7.trans gb8; obtain ⟨cb8a, cb8b, cb8c⟩ := JC.out _ (k5.trans kb8))
        | (go_at_call 27; refine (JPro.out _ _ _ _ _ (k5.trans kb6) (JX.out _ (k5.trans kb6)) mb6).mono ?_; rintro e wb7 ⟨vb7, rfl, mb7, gb7⟩; have kb7 := kb6.trans gb7; obtain ⟨cb7a, cb7b, cb7c⟩ := JC.out _ (k5.trans kb7))
        | (go_at_call 27; refine (JPro.out _ _ _ _ _ (k5.trans kb5) (JY.out _ (k5.trans kb5)) (JZ.out _ (k5.trans kb5))).mono ?_; rintro e wb6 ⟨vb6, rfl, mb6, gb6⟩; have kb6 := kb5.trans gb6; obtain ⟨cb6a, cb6b, cb6c⟩ := JC.out _ (k5.trans kb6))
        | (go_at_call 27; refine (JPro.out _ _ _ _ _ (k5.trans kb4) mb4 (JZ.out _ (k5.trans kb4))).mono ?_; rintro e wb5 ⟨vb5, rfl, mb5, gb5⟩; have kb5 := kb4.trans gb5; obtain ⟨cb5a, cb5b, cb5c⟩ := JC.out _ (k5.trans kb5))
        | (go_at_call 27; refine (JPro.out _ _ _ _ _ (k5.trans kb3) (JX.out _ (k5.trans kb3)) (JY.out _ (k5.trans kb3))).mono ?_; rintro e wb4 ⟨vb4, rfl, mb4, gb4⟩; have kb4 := kb3.trans gb4; obtain ⟨cb4a, cb4b, cb4c⟩ := JC.out _ (k5.trans kb4))
        | (go_at_call 22; refine (same7 _ ((mb0.grew gb1).grew gb2) mb2 (law7add _ _ _ _)).mono ?_; rintro e wb3 ⟨rfl, gb3⟩; have kb3 := kb2.trans gb3; obtain ⟨cb3a, cb3b, cb3c⟩ := JC.out _ (k5.trans kb3))
        | (go_at_call 23; refine (JSum.out _ _ _ _ _ (k5.trans kb1) (JX.out _ (k5.trans kb1)) mb1).mono ?_; rintro e wb2 ⟨vb2, rfl, mb2, gb2⟩; have kb2 := kb1.trans gb2; obtain ⟨cb2a, cb2b, cb2c⟩ := JC.out _ (k5.trans kb2))
        | (go_at_call 23; refine (JSum.out _ _ _ _ _ (k5.trans kb0) (JY.out _ (k5.trans kb0)) (JZ.out _ (k5.trans kb0))).mono ?_; rintro e wb1 ⟨vb1, rfl, mb1, gb1⟩; have kb1 := kb0.trans gb1; obtain ⟨cb1a, cb1b, cb1c⟩ := JC.out _ (k5.trans kb1))
        | (go_at_call 23; refine (JSum.out _ _ _ _ _ (k5.trans kd5) (S5.out.grew (kd5)) (JZ.out _ (k5.trans kd5))).mono ?_; rintro e wb0 ⟨vb0, rfl, mb0, gb0⟩; have kb0 := kd5.trans gb0; obtain ⟨cb0a, cb0b, cb0c⟩ := JC.out _ (k5.trans kb0)))
      have k6 : Kept Nought W wb8 := k5.trans kb8
      have S6 := toHid (S5.out.grew kb8)
      have kd6 : Kept Nought wb8 wb8.drew := (Kept.refl _ _).drew
      go_wp2_with fail
      go_region_held3 (fun w' => w'.cell? ⟨w.heap.size, 0, none⟩ = some (.slice ao L cap) ∧ w'.cell? ⟨w.heap.size, 1, none⟩ = some (.int .u64 (K : Int)) ∧ w'.cell? ⟨w.heap.size, 2, none⟩ = some (.slice bo M dap))
        (((try dsimp only); (repeat' apply And.intro) <;> first | (go_keep; done) | assumption))
        (first
        | (go_at_call 22; refine (same7 _ (((mc0.grew gc1).grew gc2).grew gc3) mc3 (law7part _ _ _ _)).mono ?_; rintro e wc4 ⟨rfl, gc4⟩; have kc4 := kc3.trans gc4; obtain ⟨cc4a, cc4b, cc4c⟩ := JC.out _ (k6.trans kc4))
        | (go_at_call 23; refine (JSum.out _ _ _ _ _ (k6.trans kc2) (mc1.grew gc2) mc2).mono ?_; rintro e wc3 ⟨vc3, rfl, mc3, gc3⟩; have kc3 := kc2.trans gc3; obtain ⟨cc3a, cc3b, cc3c⟩ := JC.out _ (k6.trans kc3))
        | (go_at_call 27; refine (JPro.out _ _ _ _ _ (k6.trans kc1) (JY.out _ (k6.trans kc1)) (JZ.out _ (k6.trans kc1))).mono ?_; rintro e wc2 ⟨vc2, rfl, mc2, gc2⟩; have kc2 := kc1.trans gc2; obtain ⟨cc2a, cc2b, cc2c⟩ := JC.out _ (k6.trans kc2))
        | (go_at_call 27; refine (JPro.out _ _ _ _ _ (k6.trans kc0) (JX.out _ (k6.trans kc0)) (JZ.out _ (k6.trans kc0))).mono ?_; rintro e wc1 ⟨vc1, rfl, mc1, gc1⟩; have kc1 := kc0.trans gc1; obtain ⟨cc1a, cc1b, cc1c⟩ := JC.out _ (k6.trans kc1))
        | (go_at_call 27; refine (JPro.out _ _ _ _ _ (k6.trans kd6) (S6.out.grew (kd6)) (JZ.out _ (k6.trans kd6))).mono ?_; rintro e wc0 ⟨vc0, rfl, mc0, gc0⟩; have kc0 := kd6.trans gc0; obtain ⟨cc0a, cc0b, cc0c⟩ := JC.out _ (k6.trans kc0)))
      go_wp2_with fail
      go_ret
      exact ⟨rfl, below_kept (HK0.out.trans (k6.trans kc4)) (Nat.le_refl _)⟩
    · have hMf := JM.out
      have JMf : Hid (∀ W', Kept Nought W W' → Calls Try.prog 26 #[.agg #[.slice ao L cap, .int .u64 (K : Nat), .slice bo M dap], .slice (some ⟨W'.heap.size, 0, none⟩) 3 3] (W'.alloc (.cells #[.slice xo N1 xc, .slice yo N2 yc, .slice zo N3 zc] 23)) fun r w' => r = .returned (.bool false) ∧ Kept Nought W w') := fun W' k => hMf W' false (by simp only [Bool.false_eq_true, false_iff]; exact hP) k
      clear hu hv hx hy hz hdm hdr hdx hdy hdz hb hK hR hx0 hW k0 hL hM hLN1 hLN2 hLN3 hP JM hMf
      go_enter Try.func7, Try.ntmps7
      go_wp2_with (rw [← HW.out])
      refine hA.mono ?_
      rintro e w1 ⟨rfl, k1⟩
      obtain ⟨p0, p1, p2⟩ := JC.out _ k1
      have hF := JF.out _ k1
      clear hA
      go_wp2_with fail
      refine hF.mono ?_
      rintro e w2 ⟨rfl, k2⟩
      have hMm := JMf.out _ k2
      obtain ⟨p0, p1, p2⟩ := JC.out _ k2
      clear hF
      go_wp2_with fail
      refine hMm.mono ?_
      rintro e w3 ⟨rfl, k3⟩
      go_wp2_with fail
      go_ret
      exact ⟨rfl, below_kept (HK0.out.trans k3) (Nat.le_refl _)⟩
  · obtain rfl : R = false := by rw [hR]; exact decide_eq_false h4
    clear hu hv hx hy hz hdm hdr hdx hdy hdz hb hK hL hM hLN1 hLN2 hLN3 hR hx0 hW k0 h4
    go_enter Try.func7, Try.ntmps7
    go_wp2_with (rw [← HW.out])
    refine hA.mono ?_
    rintro e w1 ⟨rfl, k1⟩
    obtain ⟨p0, p1, p2⟩ := JC.out _ k1
    have hF := JF.out _ k1
    clear hA
    go_wp2_with fail
    refine hF.mono ?_
    rintro e w2 ⟨rfl, k2⟩
    go_wp2_with fail
    go_ret
    exact ⟨rfl, below_kept (HK0.out.trans k2) (Nat.le_refl _)⟩

end Go.Proofs.Ytaehphckkmbbnaa
