/- The law RingSeen, walked. -/
import Derived.Test.YtaehphckkmbbnaaGreatL7D
import Derived.Test.YtaehphckkmbbnaaGreatOpenRow
namespace Go.Proofs.YtaehphckkmbbnaaGreat
open Go.RowKit

theorem bool_of (P : Prop) : ∃ R : Bool, R = true ↔ P := by
  by_cases h : P
  · exact ⟨true, by simp [h]⟩
  · exact ⟨false, by simp [h]⟩

set_option maxRecDepth 20000 in
set_option maxHeartbeats 4000000 in
theorem walkRingSeen (u : Value) (ms : List Nat) (k : Int) (v : Value) (rs : List Nat) (u' : Value) (os1 : List Nat) (k' : Int) (v' : Value) (ss : List Nat) (a : Value) (as1 : List Nat) (b : Value) (bs : List Nat) (c : Value) (cs : List Nat) (d : Value) (ds : List Nat) (w : World)
    (hu : Row .u64 w u ms) (hv : Row .u64 w v rs) (hu' : Row .u64 w u' os1) (hv' : Row .u64 w v' ss) (ha : Row .u64 w a as1) (hb : Row .u64 w b bs) (hc : Row .u64 w c cs) (hd : Row .u64 w d ds)
    (gm : Digs 18446744073709551616 ms) (gr : Digs 18446744073709551616 rs) (go : Digs 18446744073709551616 os1) (gs : Digs 18446744073709551616 ss) (ga : Digs 18446744073709551616 as1) (gb : Digs 18446744073709551616 bs) (gc : Digs 18446744073709551616 cs) (gd : Digs 18446744073709551616 ds) (hk : (Lit.int .u64 k).wf = true) (hk' : (Lit.int .u64 k').wf = true) :
    Calls Tryz.prog 3 #[.agg #[u, .int .u64 k, v], .agg #[u', .int .u64 k', v'], a, b, c, d] w fun e w' => e = .returned (.bool true) ∧ Below w.heap.size w w' := by
  obtain ⟨K, rfl, hK⟩ : ∃ D : Nat, k = (D : Int) ∧ D < 18446744073709551616 := by
    have := wf_u64 k hk
    exact ⟨k.toNat, by omega, by omega⟩
  obtain ⟨J, rfl, hJ⟩ : ∃ D : Nat, k' = (D : Int) ∧ D < 18446744073709551616 := by
    have := wf_u64 k' hk'
    exact ⟨k'.toNat, by omega, by omega⟩
  obtain ⟨ao, L, cap, rfl, -, -, -, -, -⟩ := hu.open
  obtain ⟨bo, M, dap, rfl, -, -, -, -, -⟩ := hv.open
  obtain ⟨co, P, eap, rfl, -, -, -, -, -⟩ := hu'.open
  obtain ⟨fo, Q, fap, rfl, -, -, -, -, -⟩ := hv'.open
  obtain ⟨A2, N2, C2, rfl, -, -, -, -, -⟩ := ha.open
  obtain ⟨A3, N3, C3, rfl, -, -, -, -, -⟩ := hb.open
  obtain ⟨A4, N4, C4, rfl, -, -, -, -, -⟩ := hc.open
  obtain ⟨A5, N5, C5, rfl, -, -, -, -, -⟩ := hd.open
  obtain ⟨W, hW⟩ : ∃ W, W = (w.alloc (.cells #[.slice ao L cap, .int .u64 (K : Nat), .slice bo M dap] 26)).alloc (.cells #[.slice co P eap, .int .u64 (J : Nat), .slice fo Q fap] 26) := ⟨_, rfl⟩
  have k0 : Kept Nought w W := by rw [hW]; exact ((Kept.refl Nought w).alloc _).alloc _
  have hx0 : W.heap[w.heap.size]? = some (.cells #[.slice ao L cap, .int .u64 (K : Nat), .slice bo M dap] 26 (0, 0)) := by rw [hW]; exact heapAt_alloc (heap_alloc_new _ _)
  have hx1 : W.heap[w.heap.size + 1]? = some (.cells #[.slice co P eap, .int .u64 (J : Nat), .slice fo Q fap] 26 (0, 0)) := by
    rw [hW]
    have := heap_alloc_new (w.alloc (.cells #[.slice ao L cap, .int .u64 (K : Nat), .slice bo M dap] 26)) (.cells #[.slice co P eap, .int .u64 (J : Nat), .slice fo Q fap] 26)
    rwa [show (w.alloc (.cells #[.slice ao L cap, .int .u64 (K : Nat), .slice bo M dap] 26)).heap.size = w.heap.size + 1 by simp] at this
  have hA := f7Awake W
  have JC : Hid (∀ W', Kept Nought W W' → (W'.cell? ⟨w.heap.size, 0, none⟩ = some (.slice ao L cap) ∧ W'.cell? ⟨w.heap.size, 1, none⟩ = some (.int .u64 (K : Nat)) ∧ W'.cell? ⟨w.heap.size, 2, none⟩ = some (.slice bo M dap)) ∧ (W'.cell? ⟨w.heap.size + 1, 0, none⟩ = some (.slice co P eap) ∧ W'.cell? ⟨w.heap.size + 1, 1, none⟩ = some (.int .u64 (J : Nat)) ∧ W'.cell? ⟨w.heap.size + 1, 2, none⟩ = some (.slice fo Q fap))) := fun W' k => ⟨cells3 ((k.block _ (lt_of_block hx0) (fun f => f)).trans hx0), cells3 ((k.block _ (lt_of_block hx1) (fun f => f)).trans hx1)⟩
  have HW := toHid hW
  have HK0 := toHid k0
  obtain ⟨R, hR⟩ : ∃ R : Bool, R = decide ((L ≤ 40 ∧ M ≤ 40) ∧ N2 ≤ 40 ∧ N3 ≤ 40) := ⟨_, rfl⟩
  obtain ⟨S, hS⟩ : ∃ R : Bool, R = decide ((P ≤ 40 ∧ Q ≤ 40) ∧ N4 ≤ 40 ∧ N5 ≤ 40) := ⟨_, rfl⟩
  obtain ⟨R1, hR1⟩ := bool_of (okMod ms K rs ∧ (N2 = L ∧ val 18446744073709551616 as1 < val 18446744073709551616 ms) ∧ (N3 = L ∧ val 18446744073709551616 bs < val 18446744073709551616 ms))
  obtain ⟨S1, hS1⟩ := bool_of (okMod os1 J ss ∧ (N4 = P ∧ val 18446744073709551616 cs < val 18446744073709551616 os1) ∧ (N5 = P ∧ val 18446744073709551616 ds < val 18446744073709551616 os1))
  have JF : Hid (∀ W', Kept Nought W W' → Calls Tryz.prog 5 #[.agg #[.slice ao L cap, .int .u64 (K : Nat), .slice bo M dap], .slice (some ⟨W'.heap.size, 0, none⟩) 2 2] (W'.alloc (.cells #[.slice A2 N2 C2, .slice A3 N3 C3] 23)) fun r w' => r = .returned (.bool R) ∧ Kept Nought W w') := fun W' k => by
    refine (f7Few ao bo L M cap dap K _ 2 2 _ _ _ _ (by omega) R ?_ (two_slots (heap_alloc_new W' _))).mono ?_
    · rw [hR]
      refine decide_eq_decide.2 (and_congr_right fun _ => ⟨fun h i hi => ?_, fun h => ⟨h 0 (by omega), h 1 (by omega)⟩⟩)
      have h01 : i = 0 ∨ i = 1 := by omega
      rcases h01 with rfl | rfl
      · exact h.1
      · exact h.2
    · rintro e w' ⟨rfl, k'⟩
      exact ⟨rfl, (k.alloc _).trans k'⟩
  have JG : Hid (∀ W', Kept Nought W W' → Calls Tryz.prog 5 #[.agg #[.slice co P eap, .int .u64 (J : Nat), .slice fo Q fap], .slice (some ⟨W'.heap.size, 0, none⟩) 2 2] (W'.alloc (.cells #[.slice A4 N4 C4, .slice A5 N5 C5] 23)) fun r w' => r = .returned (.bool S) ∧ Kept Nought W w') := fun W' k => by
    refine (f7Few co fo P Q eap fap J _ 2 2 _ _ _ _ (by omega) S ?_ (two_slots (heap_alloc_new W' _))).mono ?_
    · rw [hS]
      refine decide_eq_decide.2 (and_congr_right fun _ => ⟨fun h i hi => ?_, fun h => ⟨h 0 (by omega), h 1 (by omega)⟩⟩)
      have h01 : i = 0 ∨ i = 1 := by omega
      rcases h01 with rfl | rfl
      · exact h.1
      · exact h.2
    · rintro e w' ⟨rfl, k'⟩
      exact ⟨rfl, (k.alloc _).trans k'⟩
  have JM : Hid (∀ W', Kept Nought W W' → L ≤ 40 → Calls Tryz.prog 6 #[.agg #[.slice ao L cap, .int .u64 (K : Nat), .slice bo M dap], .slice (some ⟨W'.heap.size, 0, none⟩) 2 2] (W'.alloc (.cells #[.slice A2 N2 C2, .slice A3 N3 C3] 23)) fun r w' => r = .returned (.bool R1) ∧ Kept Nought W w') := fun W' k hbd => by
    have kk := k0.trans (k.alloc (.cells #[.slice A2 N2 C2, .slice A3 N3 C3] 23))
    refine (q7Members ao bo L M cap dap K ms rs _ 2 2 (fun i => if i = 0 then A2 else A3) (fun i => if i = 0 then N2 else N3) (fun i => if i = 0 then C2 else C3) (fun i => if i = 0 then as1 else bs) R1 ?_ _ (hu.grew kk) (hv.grew kk) gm (by omega) (two_slots (heap_alloc_new W' _)) ?_ ?_ (by omega)).mono ?_
    · rw [hR1]
      refine and_congr_right fun _ => ⟨fun h i hi => ?_, fun h => ⟨h 0 (by omega), h 1 (by omega)⟩⟩
      have h01 : i = 0 ∨ i = 1 := by omega
      rcases h01 with rfl | rfl
      · exact h.1
      · exact h.2
    · intro i hi
      have h01 : i = 0 ∨ i = 1 := by omega
      rcases h01 with rfl | rfl
      · exact ha.grew kk
      · exact hb.grew kk
    · intro i hi
      have h01 : i = 0 ∨ i = 1 := by omega
      rcases h01 with rfl | rfl
      · exact ga
      · exact gb
    · rintro e w' ⟨rfl, k'⟩
      exact ⟨rfl, (k.alloc _).trans k'⟩
  have JN : Hid (∀ W', Kept Nought W W' → P ≤ 40 → Calls Tryz.prog 6 #[.agg #[.slice co P eap, .int .u64 (J : Nat), .slice fo Q fap], .slice (some ⟨W'.heap.size, 0, none⟩) 2 2] (W'.alloc (.cells #[.slice A4 N4 C4, .slice A5 N5 C5] 23)) fun r w' => r = .returned (.bool S1) ∧ Kept Nought W w') := fun W' k hbd => by
    have kk := k0.trans (k.alloc (.cells #[.slice A4 N4 C4, .slice A5 N5 C5] 23))
    refine (q7Members co fo P Q eap fap J os1 ss _ 2 2 (fun i => if i = 0 then A4 else A5) (fun i => if i = 0 then N4 else N5) (fun i => if i = 0 then C4 else C5) (fun i => if i = 0 then cs else ds) S1 ?_ _ (hu'.grew kk) (hv'.grew kk) go (by omega) (two_slots (heap_alloc_new W' _)) ?_ ?_ (by omega)).mono ?_
    · rw [hS1]
      refine and_congr_right fun _ => ⟨fun h i hi => ?_, fun h => ⟨h 0 (by omega), h 1 (by omega)⟩⟩
      have h01 : i = 0 ∨ i = 1 := by omega
      rcases h01 with rfl | rfl
      · exact h.1
      · exact h.2
    · intro i hi
      have h01 : i = 0 ∨ i = 1 := by omega
      rcases h01 with rfl | rfl
      · exact hc.grew kk
      · exact hd.grew kk
    · intro i hi
      have h01 : i = 0 ∨ i = 1 := by omega
      rcases h01 with rfl | rfl
      · exact gc
      · exact gd
    · rintro e w' ⟨rfl, k'⟩
      exact ⟨rfl, (k.alloc _).trans k'⟩
  cases R
  · clear hu hv hu' hv' ha hb hc hd gm gr go gs ga gb gc gd hk hk' hx0 hx1 hW k0 hK hJ hR hS hR1 hS1
    go_enter Tryz.func3, Tryz.ntmps3
    go_wp2_with (rw [← HW.out])
    refine hA.mono ?_
    rintro e w1 ⟨rfl, k1⟩
    obtain ⟨⟨p0, p1, p2⟩, p3, p4, p5⟩ := JC.out _ k1
    have hF := JF.out _ k1
    clear hA
    go_wp2_with fail
    refine hF.mono ?_
    rintro e w2 ⟨rfl, k2⟩
    obtain ⟨⟨p0, p1, p2⟩, p3, p4, p5⟩ := JC.out _ k2
    clear hF
    go_wp2_with fail
    go_ret
    exact ⟨rfl, below_kept (HK0.out.trans k2) (Nat.le_refl _)⟩
  have h4 : (L ≤ 40 ∧ M ≤ 40) ∧ N2 ≤ 40 ∧ N3 ≤ 40 := by simpa using hR
  have bL : L ≤ 40 := h4.1.1
  cases S
  · clear hu hv hu' hv' ha hb hc hd gm gr go gs ga gb gc gd hk hk' hx0 hx1 hW k0 hK hJ hR hS hR1 hS1
    go_enter Tryz.func3, Tryz.ntmps3
    go_wp2_with (rw [← HW.out])
    refine hA.mono ?_
    rintro e w1 ⟨rfl, k1⟩
    obtain ⟨⟨p0, p1, p2⟩, p3, p4, p5⟩ := JC.out _ k1
    have hF := JF.out _ k1
    clear hA
    go_wp2_with fail
    refine hF.mono ?_
    rintro e w2 ⟨rfl, k2⟩
    obtain ⟨⟨p0, p1, p2⟩, p3, p4, p5⟩ := JC.out _ k2
    clear hF
    have hG := JG.out _ k2
    go_wp2_with fail
    refine hG.mono ?_
    rintro e w3 ⟨rfl, k3⟩
    obtain ⟨⟨p0, p1, p2⟩, p3, p4, p5⟩ := JC.out _ k3
    clear hG
    go_wp2_with fail
    go_ret
    exact ⟨rfl, below_kept (HK0.out.trans k3) (Nat.le_refl _)⟩
  have h5 : (P ≤ 40 ∧ Q ≤ 40) ∧ N4 ≤ 40 ∧ N5 ≤ 40 := by simpa using hS
  have bP : P ≤ 40 := h5.1.1
  by_cases gLP : L = P
  · subst gLP
    cases R1
    · clear hu hv hu' hv' ha hb hc hd gm gr go gs ga gb gc gd hk hk' hx0 hx1 hW k0 hK hJ hR hS hR1 hS1
      go_enter Tryz.func3, Tryz.ntmps3
      go_wp2_with (rw [← HW.out])
      refine hA.mono ?_
      rintro e w1 ⟨rfl, k1⟩
      obtain ⟨⟨p0, p1, p2⟩, p3, p4, p5⟩ := JC.out _ k1
      have hF := JF.out _ k1
      clear hA
      go_wp2_with fail
      refine hF.mono ?_
      rintro e w2 ⟨rfl, k2⟩
      obtain ⟨⟨p0, p1, p2⟩, p3, p4, p5⟩ := JC.out _ k2
      clear hF
      have hG := JG.out _ k2
      go_wp2_with fail
      refine hG.mono ?_
      rintro e w3 ⟨rfl, k3⟩
      obtain ⟨⟨p0, p1, p2⟩, p3, p4, p5⟩ := JC.out _ k3
      clear hG
      have hMm := JM.out _ k3 bL
      go_wp2_with fail
      refine hMm.mono ?_
      rintro e w4 ⟨rfl, k4⟩
      obtain ⟨⟨p0, p1, p2⟩, p3, p4, p5⟩ := JC.out _ k4
      clear hMm
      go_wp2_with fail
      go_ret
      exact ⟨rfl, below_kept (HK0.out.trans k4) (Nat.le_refl _)⟩
    have hP1 := hR1.1 rfl
    cases S1
    · clear hu hv hu' hv' ha hb hc hd gm gr go gs ga gb gc gd hk hk' hx0 hx1 hW k0 hK hJ hR hS hR1 hS1 hP1
      go_enter Tryz.func3, Tryz.ntmps3
      go_wp2_with (rw [← HW.out])
      refine hA.mono ?_
      rintro e w1 ⟨rfl, k1⟩
      obtain ⟨⟨p0, p1, p2⟩, p3, p4, p5⟩ := JC.out _ k1
      have hF := JF.out _ k1
      clear hA
      go_wp2_with fail
      refine hF.mono ?_
      rintro e w2 ⟨rfl, k2⟩
      obtain ⟨⟨p0, p1, p2⟩, p3, p4, p5⟩ := JC.out _ k2
      clear hF
      have hG := JG.out _ k2
      go_wp2_with fail
      refine hG.mono ?_
      rintro e w3 ⟨rfl, k3⟩
      obtain ⟨⟨p0, p1, p2⟩, p3, p4, p5⟩ := JC.out _ k3
      clear hG
      have hMm := JM.out _ k3 bL
      go_wp2_with fail
      refine hMm.mono ?_
      rintro e w4 ⟨rfl, k4⟩
      obtain ⟨⟨p0, p1, p2⟩, p3, p4, p5⟩ := JC.out _ k4
      clear hMm
      have hMn := JN.out _ k4 bP
      go_wp2_with fail
      refine hMn.mono ?_
      rintro e w5 ⟨rfl, k5⟩
      clear hMn
      go_wp2_with fail
      go_ret
      exact ⟨rfl, below_kept (HK0.out.trans k5) (Nat.le_refl _)⟩
    have hP2 := hS1.1 rfl
    clear hR hS hR1 hS1
    obtain ⟨ok1, ⟨e2, l2⟩, e3, l3⟩ := hP1
    obtain ⟨ok2, ⟨e4, l4⟩, e5, l5⟩ := hP2
    subst e2 e3 e4 e5
    go_enter Tryz.func3, Tryz.ntmps3
    go_wp2_with (rw [← HW.out])
    refine hA.mono ?_
    rintro e w1 ⟨rfl, k1⟩
    obtain ⟨⟨p0, p1, p2⟩, p3, p4, p5⟩ := JC.out _ k1
    have hF := JF.out _ k1
    clear hA
    go_wp2_with fail
    refine hF.mono ?_
    rintro e w2 ⟨rfl, k2⟩
    obtain ⟨⟨p0, p1, p2⟩, p3, p4, p5⟩ := JC.out _ k2
    clear hF
    have hG := JG.out _ k2
    go_wp2_with fail
    refine hG.mono ?_
    rintro e w3 ⟨rfl, k3⟩
    obtain ⟨⟨p0, p1, p2⟩, p3, p4, p5⟩ := JC.out _ k3
    clear hG
    have hMm := JM.out _ k3 bL
    go_wp2_with fail
    refine hMm.mono ?_
    rintro e w4 ⟨rfl, k4⟩
    obtain ⟨⟨p0, p1, p2⟩, p3, p4, p5⟩ := JC.out _ k4
    clear hMm
    have hMn := JN.out _ k4 bP
    go_wp2_with fail
    refine hMn.mono ?_
    rintro e w5 ⟨rfl, k5⟩
    clear hMn
    have RU := toHid (hu.grew (k0.trans k5))
    have RV := toHid (hv.grew (k0.trans k5))
    have RU2 := toHid (hu'.grew (k0.trans k5))
    have RV2 := toHid (hv'.grew (k0.trans k5))
    have RA := toHid (ha.grew (k0.trans k5))
    have RB := toHid (hb.grew (k0.trans k5))
    have RC := toHid (hc.grew (k0.trans k5))
    have RD := toHid (hd.grew (k0.trans k5))
    have D0 := Duo.new w5
    have hN1 := tNew w5
    have hN2 := tNew (w5.alloc newTr)
    have hsz : (w5.alloc newTr).heap.size = w5.heap.size + 1 := by simp
    rw [hsz] at hN2
    have hn : N5 ≤ 130 := by omega
    obtain ⟨z1, z2, z3, z4, z5, z6, z7⟩ := ev7_len hn
    clear hsz hu hv hu' hv' ha hb hc hd hx0 hx1 JF JG JM JN hk hk' hW k0 h4 h5 p0 p1 p2 p3 p4 p5
    go_wp2_with fail
    refine hN1.mono ?_
    rintro e w6 ⟨rfl, rfl⟩
    clear hN1
    go_wp2_with fail
    refine hN2.mono ?_
    rintro e w7 ⟨rfl, rfl⟩
    clear hN2
    generalize (w5.alloc newTr).alloc newTr = Wt at *
    obtain ⟨⟨p0, p1, p2⟩, p3, p4, p5⟩ := JC.out _ (k5.trans D0.1)
    have c1 := D0.add (by simp only [List.length_nil]; omega) ao bo A2 A3 N5 M K cap dap C2 C3 ms rs as1 bs RU.out RV.out RA.out RB.out gm gr ga gb hK hn ok1 l2 l3
    go_wp2_with fail
    refine c1.mono ?_
    rintro e wd1 ⟨xd1, rfl, D1⟩
    obtain ⟨⟨p0, p1, p2⟩, p3, p4, p5⟩ := JC.out _ (k5.trans D1.1)
    clear c1 D0
    have c2 := D1.sub (by simp only [List.length_append, List.length_nil]; omega) ao bo A2 A3 N5 M K cap dap C2 C3 ms rs as1 bs RU.out RV.out RA.out RB.out gm gr ga gb hK hn ok1 l2 l3
    go_wp2_with fail
    refine c2.mono ?_
    rintro e wd2 ⟨xd2, rfl, D2⟩
    obtain ⟨⟨p0, p1, p2⟩, p3, p4, p5⟩ := JC.out _ (k5.trans D2.1)
    clear c2 D1
    have c3 := D2.neg (by simp only [List.length_append, List.length_nil]; omega) ao bo A2 N5 M K cap dap C2 ms rs as1 RU.out RV.out RA.out gm gr ga hK hn ok1 l2
    go_wp2_with fail
    refine c3.mono ?_
    rintro e wd3 ⟨xd3, rfl, D3⟩
    obtain ⟨⟨p0, p1, p2⟩, p3, p4, p5⟩ := JC.out _ (k5.trans D3.1)
    clear c3 D2
    have c4 := D3.half (by simp only [List.length_append, List.length_nil]; omega) ao bo A2 N5 M K cap dap C2 ms rs as1 RU.out RV.out RA.out gm gr ga hK hn ok1 l2
    go_wp2_with fail
    refine c4.mono ?_
    rintro e wd4 ⟨xd4, rfl, D4⟩
    obtain ⟨⟨p0, p1, p2⟩, p3, p4, p5⟩ := JC.out _ (k5.trans D4.1)
    clear c4 D3
    have c5 := D4.pro (by simp only [List.length_append, List.length_nil]; omega) ao bo A2 A3 N5 M K cap dap C2 C3 ms rs as1 bs RU.out RV.out RA.out RB.out gm gr ga gb hK hn ok1 l2 l3
    go_wp2_with fail
    refine c5.mono ?_
    rintro e wd5 ⟨xd5, rfl, D5⟩
    obtain ⟨⟨p0, p1, p2⟩, p3, p4, p5⟩ := JC.out _ (k5.trans D5.1)
    clear c5 D4
    have c6 := D5.red (by simp only [List.length_append, List.length_nil]; omega) ao bo A3 N5 M K cap dap C3 ms rs bs RU.out RV.out RB.out gm gr gb hK hn ok1
    go_wp2_with fail
    refine c6.mono ?_
    rintro e wd6 ⟨xd6, rfl, D6⟩
    obtain ⟨⟨p0, p1, p2⟩, p3, p4, p5⟩ := JC.out _ (k5.trans D6.1)
    clear c6 D5
    have c7 := D6.swap.add (by simp only [List.length_nil]; omega) co fo A4 A5 N5 Q J eap fap C4 C5 os1 ss cs ds RU2.out RV2.out RC.out RD.out go gs gc gd hJ hn ok2 l4 l5
    go_wp2_with fail
    refine c7.mono ?_
    rintro e wd7 ⟨xd7, rfl, D7⟩
    obtain ⟨⟨p0, p1, p2⟩, p3, p4, p5⟩ := JC.out _ (k5.trans D7.1)
    clear c7 D6
    have c8 := D7.sub (by simp only [List.length_append, List.length_nil]; omega) co fo A4 A5 N5 Q J eap fap C4 C5 os1 ss cs ds RU2.out RV2.out RC.out RD.out go gs gc gd hJ hn ok2 l4 l5
    go_wp2_with fail
    refine c8.mono ?_
    rintro e wd8 ⟨xd8, rfl, D8⟩
    obtain ⟨⟨p0, p1, p2⟩, p3, p4, p5⟩ := JC.out _ (k5.trans D8.1)
    clear c8 D7
    have c9 := D8.neg (by simp only [List.length_append, List.length_nil]; omega) co fo A4 N5 Q J eap fap C4 os1 ss cs RU2.out RV2.out RC.out go gs gc hJ hn ok2 l4
    go_wp2_with fail
    refine c9.mono ?_
    rintro e wd9 ⟨xd9, rfl, D9⟩
    obtain ⟨⟨p0, p1, p2⟩, p3, p4, p5⟩ := JC.out _ (k5.trans D9.1)
    clear c9 D8
    have c10 := D9.half (by simp only [List.length_append, List.length_nil]; omega) co fo A4 N5 Q J eap fap C4 os1 ss cs RU2.out RV2.out RC.out go gs gc hJ hn ok2 l4
    go_wp2_with fail
    refine c10.mono ?_
    rintro e wd10 ⟨xd10, rfl, D10⟩
    obtain ⟨⟨p0, p1, p2⟩, p3, p4, p5⟩ := JC.out _ (k5.trans D10.1)
    clear c10 D9
    have c11 := D10.pro (by simp only [List.length_append, List.length_nil]; omega) co fo A4 A5 N5 Q J eap fap C4 C5 os1 ss cs ds RU2.out RV2.out RC.out RD.out go gs gc gd hJ hn ok2 l4 l5
    go_wp2_with fail
    refine c11.mono ?_
    rintro e wd11 ⟨xd11, rfl, D11⟩
    obtain ⟨⟨p0, p1, p2⟩, p3, p4, p5⟩ := JC.out _ (k5.trans D11.1)
    clear c11 D10
    have c12 := D11.red (by simp only [List.length_append, List.length_nil]; omega) co fo A5 N5 Q J eap fap C5 os1 ss ds RU2.out RV2.out RD.out go gs gd hJ hn ok2
    go_wp2_with fail
    refine c12.mono ?_
    rintro e wd12 ⟨xd12, rfl, D12⟩
    obtain ⟨⟨p0, p1, p2⟩, p3, p4, p5⟩ := JC.out _ (k5.trans D12.1)
    clear c12 D11
    have DD := D12.swap
    clear D12
    have hSm := DD.same
    go_wp2_with fail
    refine hSm.mono ?_
    rintro e w18 ⟨rfl, D19⟩
    have hMa := D19.many
    have HDD := toHid D19
    obtain ⟨len, hlen⟩ : ∃ len, len = ([] ++ ev7A N5 ++ ev7S N5 ++ ev7N N5 ++ ev7H N5 ++ ev7M N5 ++ ev7R N5).length := ⟨_, rfl⟩
    have glen : (len : Int) > 0 := by rw [hlen]; simp only [List.length_append, List.length_nil]; omega
    rw [← hlen] at hMa
    have HG : Hid (decide (0 < len) = true) := decide_eq_true (by omega)
    clear hSm DD D19 hlen
    go_wp2_with fail
    refine hMa.mono ?_
    rintro e w19 ⟨rfl, rfl⟩
    go_wp2_with fail
    go_ret
    rw [HG.out]
    exact ⟨rfl, below_kept (HK0.out.trans (k5.trans HDD.out.1)) (Nat.le_refl _)⟩
  · have g1' : ¬ (L : Int) = (P : Int) := by omega
    clear hu hv hu' hv' ha hb hc hd gm gr go gs ga gb gc gd hk hk' hx0 hx1 hW k0 hK hJ hR hS hR1 hS1
    go_enter Tryz.func3, Tryz.ntmps3
    go_wp2_with (rw [← HW.out])
    refine hA.mono ?_
    rintro e w1 ⟨rfl, k1⟩
    obtain ⟨⟨p0, p1, p2⟩, p3, p4, p5⟩ := JC.out _ k1
    have hF := JF.out _ k1
    clear hA
    go_wp2_with fail
    refine hF.mono ?_
    rintro e w2 ⟨rfl, k2⟩
    obtain ⟨⟨p0, p1, p2⟩, p3, p4, p5⟩ := JC.out _ k2
    clear hF
    have hG := JG.out _ k2
    go_wp2_with fail
    refine hG.mono ?_
    rintro e w3 ⟨rfl, k3⟩
    obtain ⟨⟨p0, p1, p2⟩, p3, p4, p5⟩ := JC.out _ k3
    clear hG
    go_wp2_with fail
    go_ret
    exact ⟨rfl, below_kept (HK0.out.trans k3) (Nat.le_refl _)⟩

end Go.Proofs.YtaehphckkmbbnaaGreat
