/- The law MontSeen, walked: whatever the six numbers. -/
import Derived.Test.YtpgccioblgcjaaaL6D
import Derived.Test.YtpgccioblgcjaaaOpenRow
import Derived.Test.YtpgccioblgcjaaaLMonRing
namespace Go.Proofs.Ytpgccioblgcjaaa
open Go.RowKit

def n6 {α : Type} (a b c d e f : α) : Nat → α := fun i => if i = 0 then a else if i = 1 then b else if i = 2 then c else if i = 3 then d else if i = 4 then e else f

theorem six_slots {W : World} {g : Nat} {A : Nat → Option Addr} {N C : Nat → Nat} {t : TypeId} (h : W.heap[g]? = some (.cells #[.slice (A 0) (N 0) (C 0), .slice (A 1) (N 1) (C 1), .slice (A 2) (N 2) (C 2), .slice (A 3) (N 3) (C 3), .slice (A 4) (N 4) (C 4), .slice (A 5) (N 5) (C 5)] t (0, 0))) : Slots W (some ⟨g, 0, none⟩) 6 A N C := by
  intro i hi
  refine ⟨g, 0, rfl, ?_⟩
  have h6 : i = 0 ∨ i = 1 ∨ i = 2 ∨ i = 3 ∨ i = 4 ∨ i = 5 := by omega
  rcases h6 with rfl | rfl | rfl | rfl | rfl | rfl
  · exact (cell_of_row W g 0 _ _ _ h).trans rfl
  · exact (cell_of_row W g 1 _ _ _ h).trans rfl
  · exact (cell_of_row W g 2 _ _ _ h).trans rfl
  · exact (cell_of_row W g 3 _ _ _ h).trans rfl
  · exact (cell_of_row W g 4 _ _ _ h).trans rfl
  · exact (cell_of_row W g 5 _ _ _ h).trans rfl

theorem few6 (A : Nat → Option Addr) (N C : Nat → Nat) (W : World) (R : Bool) (hR : R = decide (N 0 ≤ 40 ∧ N 1 ≤ 40 ∧ N 2 ≤ 40 ∧ N 3 ≤ 40 ∧ N 4 ≤ 40 ∧ N 5 ≤ 40)) :
    Calls Try.prog 10 #[.slice (some ⟨W.heap.size, 0, none⟩) 6 6] (W.alloc (.cells #[.slice (A 0) (N 0) (C 0), .slice (A 1) (N 1) (C 1), .slice (A 2) (N 2) (C 2), .slice (A 3) (N 3) (C 3), .slice (A 4) (N 4) (C 4), .slice (A 5) (N 5) (C 5)] 23)) fun r w' => r = .returned (.bool R) ∧ w' = W.alloc (.cells #[.slice (A 0) (N 0) (C 0), .slice (A 1) (N 1) (C 1), .slice (A 2) (N 2) (C 2), .slice (A 3) (N 3) (C 3), .slice (A 4) (N 4) (C 4), .slice (A 5) (N 5) (C 5)] 23) := by
  refine f5Few (some ⟨W.heap.size, 0, none⟩) 6 6 A N C _ (by omega) R ?_ (six_slots (heap_alloc_new W _))
  rw [hR]
  refine decide_eq_decide.2 ⟨fun h i hi => ?_, fun h => ⟨h 0 (by omega), h 1 (by omega), h 2 (by omega), h 3 (by omega), h 4 (by omega), h 5 (by omega)⟩⟩
  have h6 : i = 0 ∨ i = 1 ∨ i = 2 ∨ i = 3 ∨ i = 4 ∨ i = 5 := by omega
  rcases h6 with rfl | rfl | rfl | rfl | rfl | rfl
  · exact h.1
  · exact h.2.1
  · exact h.2.2.1
  · exact h.2.2.2.1
  · exact h.2.2.2.2.1
  · exact h.2.2.2.2.2

set_option maxRecDepth 20000 in
set_option maxHeartbeats 4000000 in
theorem walkMontSeen (m : Value) (ms : List Nat) (o : Value) (os1 : List Nat) (a : Value) (as1 : List Nat) (b : Value) (bs : List Nat) (c : Value) (cs : List Nat) (d : Value) (ds : List Nat) (w : World) (hm : Row .u64 w m ms) (ho : Row .u64 w o os1) (ha : Row .u64 w a as1) (hb : Row .u64 w b bs) (hc : Row .u64 w c cs) (hd : Row .u64 w d ds) (gm : Digs 18446744073709551616 ms) (go : Digs 18446744073709551616 os1) (ga : Digs 18446744073709551616 as1) (gb : Digs 18446744073709551616 bs) (gc : Digs 18446744073709551616 cs) (gd : Digs 18446744073709551616 ds) :
    Calls Try.prog 8 #[m, o, a, b, c, d] w fun e w' => e = .returned (.bool true) ∧ Below w.heap.size w w' := by
  have hA := f6Awake w
  obtain ⟨A0, N0, C0, rfl, hL0, -, -, -, -⟩ := hm.open
  obtain ⟨A1, N1, C1, rfl, hL1, -, -, -, -⟩ := ho.open
  obtain ⟨A2, N2, C2, rfl, hL2, -, -, -, -⟩ := ha.open
  obtain ⟨A3, N3, C3, rfl, hL3, -, -, -, -⟩ := hb.open
  obtain ⟨A4, N4, C4, rfl, hL4, -, -, -, -⟩ := hc.open
  obtain ⟨A5, N5, C5, rfl, hL5, -, -, -, -⟩ := hd.open
  have hF := fun W (R : Bool) h => few6 (n6 A0 A1 A2 A3 A4 A5) (n6 N0 N1 N2 N3 N4 N5) (n6 C0 C1 C2 C3 C4 C5) W R h
  by_cases h4 : N0 ≤ 40 ∧ N1 ≤ 40 ∧ N2 ≤ 40 ∧ N3 ≤ 40 ∧ N4 ≤ 40 ∧ N5 ≤ 40
  · have hF' := fun W => hF W true (decide_eq_true h4).symm
    have b0 : N0 ≤ 40 := h4.1
    have b1 : N1 ≤ 40 := h4.2.1
    clear hF h4
    obtain ⟨V, hV⟩ : ∃ V, V = val 18446744073709551616 ms := ⟨_, rfl⟩
    obtain ⟨U, hU⟩ : ∃ U, U = val 18446744073709551616 os1 := ⟨_, rfl⟩
    obtain ⟨E, hE⟩ : ∃ E, E = montE V := ⟨_, rfl⟩
    obtain ⟨F, hFF⟩ : ∃ F, F = montE U := ⟨_, rfl⟩
    have JS : Hid (∀ W, Kept Nought w W → Calls Try.prog 11 #[.slice A0 N0 C0] W fun e w' => ∃ a K b, e = .returned (.tuple #[.agg (modCells a K b), .int .i64 (E : Nat)]) ∧ Row .u64 w' a (modM V) ∧ Row .u64 w' b (modR V) ∧ isKf V K ∧ Kept Nought W w') := fun W k => mSetup A0 N0 C0 ms V E hV hE W (hm.grew k) gm (by omega)
    have JU : Hid (∀ W, Kept Nought w W → Calls Try.prog 11 #[.slice A1 N1 C1] W fun e w' => ∃ a K b, e = .returned (.tuple #[.agg (modCells a K b), .int .i64 (F : Nat)]) ∧ Row .u64 w' a (modM U) ∧ Row .u64 w' b (modR U) ∧ isKf U K ∧ Kept Nought W w') := fun W k => mSetup A1 N1 C1 os1 U F hU hFF W (ho.grew k) go (by omega)
    unfold modCells at JS JU
    have HE := toHid hE
    have HF := toHid hFF
    have HA := toHid ha
    have HB := toHid hb
    have HC := toHid hc
    have HD := toHid hd
    have GA := toHid ga
    have GB := toHid gb
    have GC := toHid gc
    have GD := toHid gd
    clear hm ho ha hb hc hd gm go ga gb gc gd hV hU hE hFF hL0 hL1 hL2 hL3 hL4 hL5
    go_enter Try.func8, Try.ntmps8
    go_wp2_with fail
    refine hA.mono ?_
    rintro e w1 ⟨rfl, k1⟩
    go_wp2_with fail
    refine (hF' w1).mono ?_
    rintro e w1' ⟨rfl, rfl⟩
    have k2 := k1.alloc (.cells #[.slice A0 N0 C0, .slice A1 N1 C1, .slice A2 N2 C2, .slice A3 N3 C3, .slice A4 N4 C4, .slice A5 N5 C5] 23)
    change Kept Nought w (w1.alloc (.cells #[.slice (n6 A0 A1 A2 A3 A4 A5 0) (n6 N0 N1 N2 N3 N4 N5 0) (n6 C0 C1 C2 C3 C4 C5 0), .slice (n6 A0 A1 A2 A3 A4 A5 1) (n6 N0 N1 N2 N3 N4 N5 1) (n6 C0 C1 C2 C3 C4 C5 1), .slice (n6 A0 A1 A2 A3 A4 A5 2) (n6 N0 N1 N2 N3 N4 N5 2) (n6 C0 C1 C2 C3 C4 C5 2), .slice (n6 A0 A1 A2 A3 A4 A5 3) (n6 N0 N1 N2 N3 N4 N5 3) (n6 C0 C1 C2 C3 C4 C5 3), .slice (n6 A0 A1 A2 A3 A4 A5 4) (n6 N0 N1 N2 N3 N4 N5 4) (n6 C0 C1 C2 C3 C4 C5 4), .slice (n6 A0 A1 A2 A3 A4 A5 5) (n6 N0 N1 N2 N3 N4 N5 5) (n6 C0 C1 C2 C3 C4 C5 5)] 23)) at k2
    generalize w1.alloc (.cells #[.slice (n6 A0 A1 A2 A3 A4 A5 0) (n6 N0 N1 N2 N3 N4 N5 0) (n6 C0 C1 C2 C3 C4 C5 0), .slice (n6 A0 A1 A2 A3 A4 A5 1) (n6 N0 N1 N2 N3 N4 N5 1) (n6 C0 C1 C2 C3 C4 C5 1), .slice (n6 A0 A1 A2 A3 A4 A5 2) (n6 N0 N1 N2 N3 N4 N5 2) (n6 C0 C1 C2 C3 C4 C5 2), .slice (n6 A0 A1 A2 A3 A4 A5 3) (n6 N0 N1 N2 N3 N4 N5 3) (n6 C0 C1 C2 C3 C4 C5 3), .slice (n6 A0 A1 A2 A3 A4 A5 4) (n6 N0 N1 N2 N3 N4 N5 4) (n6 C0 C1 C2 C3 C4 C5 4), .slice (n6 A0 A1 A2 A3 A4 A5 5) (n6 N0 N1 N2 N3 N4 N5 5) (n6 C0 C1 C2 C3 C4 C5 5)] 23) = w2 at *
    have hS := JS.out w2 k2
    clear hA hF' k1
    go_wp2_with fail
    refine hS.mono ?_
    rintro e w3 ⟨a, K, b, rfl, ha, hb, hK, k3⟩
    obtain ⟨a1, n1, c1, rfl, hLa, -, -, -, -⟩ := ha.open
    obtain ⟨b1', m1, d1, rfl, hLb, -, -, -, -⟩ := hb.open
    have kb := (Kept.refl Nought w3).alloc (.cells #[.slice a1 n1 c1, .int .u64 (K : Nat), .slice b1' m1 d1] 28)
    have hx4 : (w3.alloc (.cells #[.slice a1 n1 c1, .int .u64 (K : Nat), .slice b1' m1 d1] 28)).heap[w3.heap.size]? = some (.cells #[.slice a1 n1 c1, .int .u64 (K : Nat), .slice b1' m1 d1] 28 (0, 0)) := heap_alloc_new _ _
    have K4 := (k2.trans k3).trans kb
    have hA4 := ha.grew kb
    have hB4 := hb.grew kb
    have hS2 := JU.out _ K4
    have HX4 := toHid hx4
    clear hS JS JU ha hb k2 k3 kb hx4
    go_wp2_with fail
    refine hS2.mono ?_
    rintro e w5 ⟨a', J, b', rfl, ha', hb', hJ, k5⟩
    obtain ⟨a2, n2, c2, rfl, hLa2, -, -, -, -⟩ := ha'.open
    obtain ⟨b2, m2, d2, rfl, hLb2, -, -, -, -⟩ := hb'.open
    have kb := (Kept.refl Nought w5).alloc (.cells #[.slice a2 n2 c2, .int .u64 (J : Nat), .slice b2 m2 d2] 28)
    have hx6 : (w5.alloc (.cells #[.slice a2 n2 c2, .int .u64 (J : Nat), .slice b2 m2 d2] 28)).heap[w5.heap.size]? = some (.cells #[.slice a2 n2 c2, .int .u64 (J : Nat), .slice b2 m2 d2] 28 (0, 0)) := heap_alloc_new _ _
    have hx4' := ((k5.trans kb).block _ (lt_of_block HX4.out) (fun f => f)).trans HX4.out
    have K6 := K4.trans (k5.trans kb)
    have RM := toHid (hA4.grew (k5.trans kb))
    have RR := toHid (hB4.grew (k5.trans kb))
    have RO := toHid (ha'.grew kb)
    have RS := toHid (hb'.grew kb)
    obtain ⟨W, hW⟩ : ∃ W, W = w5.alloc (.cells #[.slice a2 n2 c2, .int .u64 (J : Nat), .slice b2 m2 d2] 28) := ⟨_, rfl⟩
    rw [← hW] at hx6 hx4' K6 RM RR RO RS
    have JC : Hid (∀ W', Kept Nought W W' → (W'.cell? ⟨w3.heap.size, 0, none⟩ = some (.slice a1 n1 c1) ∧ W'.cell? ⟨w3.heap.size, 1, none⟩ = some (.int .u64 (K : Nat)) ∧ W'.cell? ⟨w3.heap.size, 2, none⟩ = some (.slice b1' m1 d1)) ∧ (W'.cell? ⟨w5.heap.size, 0, none⟩ = some (.slice a2 n2 c2) ∧ W'.cell? ⟨w5.heap.size, 1, none⟩ = some (.int .u64 (J : Nat)) ∧ W'.cell? ⟨w5.heap.size, 2, none⟩ = some (.slice b2 m2 d2))) := fun W' k => ⟨cells3 ((k.block _ (lt_of_block hx4') (fun f => f)).trans hx4'), cells3 ((k.block _ (lt_of_block hx6) (fun f => f)).trans hx6)⟩
    have HW := toHid hW
    have HK6 := toHid K6
    have hD0 := Duo.new W
    have hN1 := tNew W
    have hN2 := tNew (W.alloc newTr)
    have HKF := toHid hK
    have HJF := toHid hJ
    have HLA := toHid hLa
    have HLB := toHid hLb
    have HLA2 := toHid hLa2
    have HLB2 := toHid hLb2
    have hsz : (W.alloc newTr).heap.size = W.heap.size + 1 := by simp
    rw [hsz] at hN2
    clear hS2 hA4 hB4 ha' hb' k5 kb hx6 hx4' K6 K4 HX4 hW hK hJ hLa hLb hLa2 hLb2 hsz
    go_wp2_with (rw [← HW.out])
    refine hN1.mono ?_
    rintro e w6 ⟨rfl, rfl⟩
    clear hN1
    go_wp2_with fail
    refine hN2.mono ?_
    rintro e w7 ⟨rfl, rfl⟩
    clear hN2
    generalize (W.alloc newTr).alloc newTr = Wt at *
    obtain ⟨⟨p0, p1, p2⟩, q0, q1, q2⟩ := JC.out _ hD0.1
    by_cases e0 : E = 0
    · subst e0
      by_cases f0 : F = 0
      · subst f0
        obtain ⟨_, l1, l2, hval, hd1, hd2⟩ := setup_ok HE.out.symm HKF.out
        obtain ⟨_, l3, l4, hval', hd3, hd4⟩ := setup_ok HF.out.symm HJF.out
        have hmo := montE_ok HE.out.symm
        have hn1 : n1 ≤ 130 := by
          have h1 := HLA.out.out
          rw [l1] at h1
          omega
        have HD1 := toHid hd1
        have HD2 := toHid hd2
        have HD3 := toHid hd3
        have HD4 := toHid hd4
        clear hmo l1 l2 l3 l4 hval hval' hd1 hd2 hd3 hd4 HLA HLB HLA2 HLB2 HE HF
        have hKb := HKF.out.1
        have hJb := HJF.out.1
        by_cases g1 : n1 = n2
        · subst g1
          by_cases g2 : N2 = n1
          · have g3 := g2.symm
            subst g3
            obtain ⟨Ra, hRa⟩ : ∃ R : Bool, R = decide (n1 = n1 ∧ val 18446744073709551616 as1 < val 18446744073709551616 (modM V)) := ⟨_, rfl⟩
            obtain ⟨Rb, hRb⟩ : ∃ R : Bool, R = decide (N3 = n1 ∧ val 18446744073709551616 bs < val 18446744073709551616 (modM V)) := ⟨_, rfl⟩
            obtain ⟨Rc, hRc⟩ : ∃ R : Bool, R = decide (N4 = n1 ∧ val 18446744073709551616 cs < val 18446744073709551616 (modM U)) := ⟨_, rfl⟩
            obtain ⟨Rd, hRd⟩ : ∃ R : Bool, R = decide (N5 = n1 ∧ val 18446744073709551616 ds < val 18446744073709551616 (modM U)) := ⟨_, rfl⟩
            have Ja : Hid (∀ W', Kept Nought W W' → Calls Try.prog 30 #[.agg #[.slice a1 n1 c1, .int .u64 (K : Nat), .slice b1' m1 d1], .slice A2 n1 C2] W' fun e w' => e = .returned (.bool Ra) ∧ Kept Nought W' w') := fun W' k => q6Member a1 A2 n1 n1 c1 C2 _ _ (modM V) as1 Ra hRa W' (RM.out.grew k) (HA.out.grew (HK6.out.trans k)) HD1.out GA.out (by omega)
            have Jb : Hid (∀ W', Kept Nought W W' → Calls Try.prog 30 #[.agg #[.slice a1 n1 c1, .int .u64 (K : Nat), .slice b1' m1 d1], .slice A3 N3 C3] W' fun e w' => e = .returned (.bool Rb) ∧ Kept Nought W' w') := fun W' k => q6Member a1 A3 n1 N3 c1 C3 _ _ (modM V) bs Rb hRb W' (RM.out.grew k) (HB.out.grew (HK6.out.trans k)) HD1.out GB.out (by omega)
            have Jc : Hid (∀ W', Kept Nought W W' → Calls Try.prog 30 #[.agg #[.slice a2 n1 c2, .int .u64 (J : Nat), .slice b2 m2 d2], .slice A4 N4 C4] W' fun e w' => e = .returned (.bool Rc) ∧ Kept Nought W' w') := fun W' k => q6Member a2 A4 n1 N4 c2 C4 _ _ (modM U) cs Rc hRc W' (RO.out.grew k) (HC.out.grew (HK6.out.trans k)) HD3.out GC.out (by omega)
            have Jd : Hid (∀ W', Kept Nought W W' → Calls Try.prog 30 #[.agg #[.slice a2 n1 c2, .int .u64 (J : Nat), .slice b2 m2 d2], .slice A5 N5 C5] W' fun e w' => e = .returned (.bool Rd) ∧ Kept Nought W' w') := fun W' k => q6Member a2 A5 n1 N5 c2 C5 _ _ (modM U) ds Rd hRd W' (RO.out.grew k) (HD.out.grew (HK6.out.trans k)) HD3.out GD.out (by omega)
            clear hRa hRb hRc hRd
            have h1 := Ja.out _ hD0.1
            go_wp2_with fail
            refine h1.mono ?_
            rintro e w8 ⟨rfl, k8⟩
            have D8 := hD0.grew k8
            obtain ⟨⟨r0, r1, r2⟩, r3, r4, r5⟩ := JC.out _ D8.1
            clear h1 hD0 k8 p0 p1 p2 q0 q1 q2
            cases Ra
            · go_wp2_with fail
              go_ret
              exact ⟨rfl, below_kept (HK6.out.trans D8.1) (Nat.le_refl _)⟩
            have h2 := Jb.out _ D8.1
            go_wp2_with fail
            refine h2.mono ?_
            rintro e w9 ⟨rfl, k9⟩
            have D9 := D8.grew k9
            obtain ⟨⟨s0, s1, s2⟩, s3, s4, s5⟩ := JC.out _ D9.1
            clear h2 D8 k9 r0 r1 r2 r3 r4 r5
            cases Rb
            · go_wp2_with fail
              go_ret
              exact ⟨rfl, below_kept (HK6.out.trans D9.1) (Nat.le_refl _)⟩
            have h3 := Jc.out _ D9.1
            go_wp2_with fail
            refine h3.mono ?_
            rintro e w10 ⟨rfl, k10⟩
            have D10 := D9.grew k10
            obtain ⟨⟨t0, t1, t2⟩, t3, t4, t5⟩ := JC.out _ D10.1
            clear h3 D9 k10 s0 s1 s2 s3 s4 s5
            cases Rc
            · go_wp2_with fail
              go_ret
              exact ⟨rfl, below_kept (HK6.out.trans D10.1) (Nat.le_refl _)⟩
            have h4 := Jd.out _ D10.1
            go_wp2_with fail
            refine h4.mono ?_
            rintro e w11 ⟨rfl, k11⟩
            have D11 := D10.grew k11
            obtain ⟨⟨u0, u1, u2⟩, u3, u4, u5⟩ := JC.out _ D11.1
            clear h4 D10 k11 t0 t1 t2 t3 t4 t5 Ja Jb Jc Jd
            cases Rd
            · go_wp2_with fail
              go_ret
              exact ⟨rfl, below_kept (HK6.out.trans D11.1) (Nat.le_refl _)⟩
            obtain ⟨e1, e2, e3, e4⟩ := ev_len n1
            have e4' := e4 hn1
            have HAW := toHid (HA.out.grew HK6.out)
            have HBW := toHid (HB.out.grew HK6.out)
            have HCW := toHid (HC.out.grew HK6.out)
            have HDW := toHid (HD.out.grew HK6.out)
            have c1' := D11.mul (by simp) a1 b1' A2 A3 n1 m1 K c1 d1 n1 N3 C2 C3 (modM V) (modR V) as1 bs RM.out RR.out HAW.out HBW.out HD1.out HD2.out GA.out GB.out hKb (by omega)
            go_wp2_with fail
            refine c1'.mono ?_
            rintro e w12 ⟨x12, rfl, D12⟩
            obtain ⟨⟨u0, u1, u2⟩, u3, u4, u5⟩ := JC.out _ D12.1
            have c2' := D12.enter (by simp; omega) a1 b1' A2 n1 m1 K c1 d1 n1 C2 (modM V) (modR V) as1 RM.out RR.out HAW.out HD1.out HD2.out GA.out hKb (by omega)
            clear c1' D11
            go_wp2_with fail
            refine c2'.mono ?_
            rintro e w13 ⟨x13, rfl, D13⟩
            obtain ⟨⟨u0, u1, u2⟩, u3, u4, u5⟩ := JC.out _ D13.1
            have c3' := D13.leave (by simp; omega) a1 b1' A3 n1 m1 K c1 d1 N3 C3 (modM V) (modR V) bs RM.out RR.out HBW.out HD1.out HD2.out GB.out hKb (by omega)
            clear c2' D12
            go_wp2_with fail
            refine c3'.mono ?_
            rintro e w14 ⟨x14, rfl, D14⟩
            obtain ⟨⟨u0, u1, u2⟩, u3, u4, u5⟩ := JC.out _ D14.1
            have c4' := D14.swap.mul (by simp) a2 b2 A4 A5 n1 m2 J c2 d2 N4 N5 C4 C5 (modM U) (modR U) cs ds RO.out RS.out HCW.out HDW.out HD3.out HD4.out GC.out GD.out hJb (by omega)
            clear c3' D13
            go_wp2_with fail
            refine c4'.mono ?_
            rintro e w15 ⟨x15, rfl, D15⟩
            obtain ⟨⟨u0, u1, u2⟩, u3, u4, u5⟩ := JC.out _ D15.1
            have c5' := D15.enter (by simp; omega) a2 b2 A4 n1 m2 J c2 d2 N4 C4 (modM U) (modR U) cs RO.out RS.out HCW.out HD3.out HD4.out GC.out hJb (by omega)
            clear c4' D14
            go_wp2_with fail
            refine c5'.mono ?_
            rintro e w16 ⟨x16, rfl, D16⟩
            obtain ⟨⟨u0, u1, u2⟩, u3, u4, u5⟩ := JC.out _ D16.1
            have c6' := D16.leave (by simp; omega) a2 b2 A5 n1 m2 J c2 d2 N5 C5 (modM U) (modR U) ds RO.out RS.out HDW.out HD3.out HD4.out GD.out hJb (by omega)
            clear c5' D15
            go_wp2_with fail
            refine c6'.mono ?_
            rintro e w17 ⟨x17, rfl, D17⟩
            have D18 := D17.swap
            clear c6' D16 D17
            have hSm := D18.same
            go_wp2_with fail
            refine hSm.mono ?_
            rintro e w18 ⟨rfl, D19⟩
            have hMa := D19.many
            have HDD := toHid D19
            have glen : ((([] ++ evM n1 ++ evE n1 ++ evL n1).length : Nat) : Int) > 0 := by simp; omega
            generalize ([] ++ evM n1 ++ evE n1 ++ evL n1).length = len at *
            have HG : Hid (decide (0 < len) = true) := decide_eq_true (by omega)
            clear hSm D18 D19
            go_wp2_with fail
            refine hMa.mono ?_
            rintro e w19 ⟨rfl, rfl⟩
            go_wp2_with fail
            go_ret
            rw [HG.out]
            exact ⟨rfl, below_kept (HK6.out.trans HDD.out.1) (Nat.le_refl _)⟩
          · have g2' : ¬ (N2 : Int) = (n1 : Int) := by omega
            go_wp2_with fail
            go_ret
            exact ⟨rfl, below_kept (HK6.out.trans hD0.1) (Nat.le_refl _)⟩
        · have g1' : ¬ (n1 : Int) = (n2 : Int) := by omega
          go_wp2_with fail
          go_ret
          exact ⟨rfl, below_kept (HK6.out.trans hD0.1) (Nat.le_refl _)⟩
      · have f0' : ¬ (F : Int) = 0 := by omega
        go_wp2_with fail
        go_ret
        exact ⟨rfl, below_kept (HK6.out.trans hD0.1) (Nat.le_refl _)⟩
    · have e0' : ¬ (E : Int) = 0 := by omega
      go_wp2_with fail
      go_ret
      exact ⟨rfl, below_kept (HK6.out.trans hD0.1) (Nat.le_refl _)⟩
  · have hF' := fun W => hF W false (decide_eq_false h4).symm
    clear hm ho ha hb hc hd h4 hF
    go_enter Try.func8, Try.ntmps8
    go_wp2_with fail
    refine hA.mono ?_
    rintro e w1 ⟨rfl, k1⟩
    go_wp2_with fail
    refine (hF' w1).mono ?_
    rintro e w1' ⟨rfl, rfl⟩
    go_wp2_with fail
    go_ret
    exact ⟨rfl, below_kept (k1.alloc _) (Nat.le_refl _)⟩

end Go.Proofs.Ytpgccioblgcjaaa
