/- Put together of: Shx4. -/
import Derived.Test.YthnkganmccgaeaaDoorPk15

/- Package sha256: mix: the rounds. -/
namespace Go.Proofs.YthnkganmccgaeaaDoor
open Go.RowKit

theorem rnd_next {ws s : List Nat} {t A B C D E F G H q1 q2 q3 T1 T2 nE nA kk wt : Nat} (h : [A, B, C, D, E, F, G, H] = rndsN ws s t) (hk : kk = K256.getD t 0) (hw : wt = ws.getD t 0) (h1 : q1 = (H + S1N E) % 4294967296) (h2 : q2 = (q1 + chN E F G) % 4294967296) (h3 : q3 = (q2 + kk) % 4294967296) (h4 : T1 = (q3 + wt) % 4294967296) (h5 : T2 = (S0N A + majN A B C) % 4294967296) (h6 : nE = (D + T1) % 4294967296) (h7 : nA = (T1 + T2) % 4294967296) :
    [nA, A, B, C, nE, E, F, G] = rndsN ws s (t + 1) := by
  show _ = rndN (rndsN ws s t) (K256.getD t 0) (ws.getD t 0)
  rw [← h, ← hk, ← hw]
  show _ = [(H + S1N E + chN E F G + kk + wt + (S0N A + majN A B C)) % 4294967296, A, B, C, (D + (H + S1N E + chN E F G + kk + wt)) % 4294967296, E, F, G]
  rw [show nA = (H + S1N E + chN E F G + kk + wt + (S0N A + majN A B C)) % 4294967296 by omega, show nE = (D + (H + S1N E + chN E F G + kk + wt)) % 4294967296 by omega]

set_option maxRecDepth 40000 in
set_option maxHeartbeats 4000000 in
/-- mix: all rounds. -/
theorem hMix (s ws : List Nat) (sv wv : Array Value) (hsv : sv = (s.map fun z => Value.int .u32 (z : Nat)).toArray) (hwv : wv = (ws.map fun z => Value.int .u32 (z : Nat)).toArray) (w : World) (hT : Tab11 w) (hs : s.length = 8) (hsd : Digs 4294967296 s) (hwl : ws.length = 64) (hwd : Digs 4294967296 ws) :
    Calls Tryd.prog 51 #[.agg sv, .agg wv] w fun e w' => e = .returned (.agg ((rndsN ws s 64).map fun z => Value.int .u32 (z : Nat)).toArray) ∧ Kept Nought w w' := by
  obtain ⟨s0, s1, s2, s3, s4, s5, s6, s7, rfl⟩ : ∃ s0 s1 s2 s3 s4 s5 s6 s7, s = [s0, s1, s2, s3, s4, s5, s6, s7] := by
    match s, hs with
    | [a, b, c, d, e, f, g, h], _ => exact ⟨a, b, c, d, e, f, g, h, rfl⟩
  have e0 : sv = #[.int .u32 (s0 : Nat), .int .u32 (s1 : Nat), .int .u32 (s2 : Nat), .int .u32 (s3 : Nat), .int .u32 (s4 : Nat), .int .u32 (s5 : Nat), .int .u32 (s6 : Nat), .int .u32 (s7 : Nat)] := by rw [hsv]; rfl
  subst e0
  clear hsv
  obtain ⟨W, hW⟩ : ∃ W, W = ((w.alloc (.cells #[.int .u32 (s0 : Nat), .int .u32 (s1 : Nat), .int .u32 (s2 : Nat), .int .u32 (s3 : Nat), .int .u32 (s4 : Nat), .int .u32 (s5 : Nat), .int .u32 (s6 : Nat), .int .u32 (s7 : Nat)] 45)).alloc (.cells wv 65)).alloc (.cells #[.int .u32 0, .int .u32 0, .int .u32 0, .int .u32 0, .int .u32 0, .int .u32 0, .int .u32 0, .int .u32 0] 45) := ⟨_, rfl⟩
  have k0 : Kept Nought w W := by rw [hW]; exact (((Kept.refl Nought w).alloc _).alloc _).alloc _
  have hS0 : Arr .u32 45 W w.heap.size [s0, s1, s2, s3, s4, s5, s6, s7] := by
    rw [hW]
    exact heapAt_alloc (heapAt_alloc (heap_alloc_new w _))
  have hA0 : Arr .u32 65 W (w.heap.size + 1) ws := by
    rw [hW]
    refine heapAt_alloc ?_
    have := heap_alloc_new (w.alloc (.cells #[.int .u32 (s0 : Nat), .int .u32 (s1 : Nat), .int .u32 (s2 : Nat), .int .u32 (s3 : Nat), .int .u32 (s4 : Nat), .int .u32 (s5 : Nat), .int .u32 (s6 : Nat), .int .u32 (s7 : Nat)] 45)) (.cells wv 65)
    rw [show (w.alloc (.cells #[.int .u32 (s0 : Nat), .int .u32 (s1 : Nat), .int .u32 (s2 : Nat), .int .u32 (s3 : Nat), .int .u32 (s4 : Nat), .int .u32 (s5 : Nat), .int .u32 (s6 : Nat), .int .u32 (s7 : Nat)] 45)).heap.size = w.heap.size + 1 by simp] at this
    rw [hwv] at this ⊢
    exact this
  have hO0 : Arr .u32 45 W (w.heap.size + 1 + 1) [0, 0, 0, 0, 0, 0, 0, 0] := by
    rw [hW]
    have := heap_alloc_new ((w.alloc (.cells #[.int .u32 (s0 : Nat), .int .u32 (s1 : Nat), .int .u32 (s2 : Nat), .int .u32 (s3 : Nat), .int .u32 (s4 : Nat), .int .u32 (s5 : Nat), .int .u32 (s6 : Nat), .int .u32 (s7 : Nat)] 45)).alloc (.cells wv 65)) (.cells #[.int .u32 0, .int .u32 0, .int .u32 0, .int .u32 0, .int .u32 0, .int .u32 0, .int .u32 0, .int .u32 0] 45)
    rwa [show ((w.alloc (.cells #[.int .u32 (s0 : Nat), .int .u32 (s1 : Nat), .int .u32 (s2 : Nat), .int .u32 (s3 : Nat), .int .u32 (s4 : Nat), .int .u32 (s5 : Nat), .int .u32 (s6 : Nat), .int .u32 (s7 : Nat)] 45)).alloc (.cells wv 65)).heap.size = w.heap.size + 1 + 1 by simp] at this
  have HS0 := toHid hS0
  have HA0 := toHid hA0
  have HO0 := toHid hO0
  have HK0 := toHid k0
  have HT := toHid hT
  have HW := toHid hW
  have HSD := toHid hsd
  have HWL := toHid hwl
  have HWD := toHid hwd
  have J1 : Hid (∀ w, Calls Tryd.prog 54 #[.int .i64 2, .int .i64 13, .int .i64 22] w fun e w' => e = .returned (.func (.func 58) #[] #[.pointer (some ⟨w.heap.size, 0, none⟩), .pointer (some ⟨w.heap.size + 1, 0, none⟩), .pointer (some ⟨w.heap.size + 1 + 1, 0, none⟩)]) ∧ Cnt3 w' w.heap.size 2 13 22 ∧ Kept Nought w w') := fun w => hTurner 2 13 22 w
  have J2 : Hid (∀ w, Calls Tryd.prog 54 #[.int .i64 6, .int .i64 11, .int .i64 25] w fun e w' => e = .returned (.func (.func 58) #[] #[.pointer (some ⟨w.heap.size, 0, none⟩), .pointer (some ⟨w.heap.size + 1, 0, none⟩), .pointer (some ⟨w.heap.size + 1 + 1, 0, none⟩)]) ∧ Cnt3 w' w.heap.size 6 11 25 ∧ Kept Nought w w') := fun w => hTurner 6 11 25 w
  clear hS0 hA0 hO0 k0 hT hW hsd hwl hwd hwv hs
  go_enter Tryd.func51, Tryd.ntmps51
  go_wp2_with (rw [← HW.out])
  refine (J1.out _).mono ?_
  rintro e w1 ⟨rfl, n1, k1⟩
  obtain ⟨B1, hB1⟩ : ∃ B1, B1 = W.heap.size := ⟨_, rfl⟩
  rw [← hB1] at n1 ⊢
  clear hB1
  go_wp2_with fail
  refine (J2.out _).mono ?_
  rintro e w2 ⟨rfl, n2, k2⟩
  obtain ⟨B2, hB2⟩ : ∃ B2, B2 = w1.heap.size := ⟨_, rfl⟩
  rw [← hB2] at n2 ⊢
  clear hB2
  have k12 := k1.trans k2
  have N1 := toHid (n1.grew k2)
  have N2 := toHid n2
  have hS := HS0.out.grew k12
  have HA := toHid (HA0.out.grew k12)
  have HO := toHid (HO0.out.grew k12)
  have HK := toHid (HK0.out.trans k12)
  have a0 := hS.cell 0 (by simp)
  have a1 := hS.cell 1 (by simp)
  have a2 := hS.cell 2 (by simp)
  have a3 := hS.cell 3 (by simp)
  have a4 := hS.cell 4 (by simp)
  have a5 := hS.cell 5 (by simp)
  have a6 := hS.cell 6 (by simp)
  have a7 := hS.cell 7 (by simp)
  clear J1 J2 n1 n2 k1 k2 k12 HS0 HA0 HO0 HK0 HW hS
  go_wp2_with fail
  go_quiet (fail)
  have kq : Kept Nought w2 (w2.drewN nq) := (Kept.refl _ _).drewN nq
  have M1 := toHid (N1.out.grew kq)
  have M2 := toHid (N2.out.grew kq)
  have MA := toHid (HA.out.grew kq)
  have MO := toHid (HO.out.grew kq)
  have MK := toHid (HK.out.trans kq)
  clear a0 a1 a2 a3 a4 a5 a6 a7 N1 N2 HA HO HK kq
  generalize w2.drewN nq = w3 at *
  have MT := toHid (HT.out.grew MK.out)
  go_wp2_with fail
  go_loopw [7, 8, 9, 10, 11, 12, 13, 14, 36] (fun va vb vc vd ve vf vg vh i wr => ∃ (t A B C D E F G H : Nat), t ≤ 64 ∧ i = .int .i64 (t : Int) ∧ va = .int .u32 (A : Int) ∧ vb = .int .u32 (B : Int) ∧ vc = .int .u32 (C : Int) ∧ vd = .int .u32 (D : Int) ∧ ve = .int .u32 (E : Int) ∧ vf = .int .u32 (F : Int) ∧ vg = .int .u32 (G : Int) ∧ vh = .int .u32 (H : Int) ∧ Hid ([A, B, C, D, E, F, G, H] = rndsN ws [s0, s1, s2, s3, s4, s5, s6, s7] t) ∧ Hid (Kept Nought w3 wr)) (fun _ _ _ _ _ _ _ _ i _ => 64 - (intOf i).toNat)
  case atStart => exact ⟨0, s0, s1, s2, s3, s4, s5, s6, s7, by omega, rfl, rfl, rfl, rfl, rfl, rfl, rfl, rfl, rfl, rfl, Kept.refl _ _⟩
  case round =>
    obtain ⟨t, A, B, C, D, E, F, G, H, ht, rfl, rfl, rfl, rfl, rfl, rfl, rfl, rfl, rfl, HR, HKr⟩ := hrel
    by_cases ht6 : t < 64
    · have g1 : (t : Int) < 64 := by omega
      have g0 : (0 : Int) ≤ (t : Int) := by omega
      have hdr : Digs 4294967296 [A, B, C, D, E, F, G, H] := by rw [HR.out]; exact rndsN_digs HSD.out t
      have lA : A < 4294967296 := hdr A (by simp)
      have lB : B < 4294967296 := hdr B (by simp)
      have lC : C < 4294967296 := hdr C (by simp)
      have lD : D < 4294967296 := hdr D (by simp)
      have lE : E < 4294967296 := hdr E (by simp)
      have lF : F < 4294967296 := hdr F (by simp)
      have lG : G < 4294967296 := hdr G (by simp)
      have lH : H < 4294967296 := hdr H (by simp)
      obtain ⟨kk, hk⟩ : ∃ kk, kk = K256.getD t 0 := ⟨_, rfl⟩
      obtain ⟨wt, hwt⟩ : ∃ wt, wt = ws.getD t 0 := ⟨_, rfl⟩
      have lk : kk < 4294967296 := by rw [hk]; exact K256_lt.getD (by omega) _
      have lw : wt < 4294967296 := by rw [hwt]; exact HWD.out.getD (by omega) _
      have JC : Hid (∀ w', Kept Nought wr w' → w'.cell? ⟨4, t, none⟩ = some (.int .u32 (kk : Int)) ∧ w'.cell? ⟨w.heap.size + 1, t, none⟩ = some (.int .u32 (wt : Int))) := fun w' k => by
        rw [hk, hwt]
        exact ⟨((MT.out.grew HKr.out).grew k).words t ht6, ((MA.out.grew HKr.out).grew k).cell t (by rw [HWL.out]; exact ht6)⟩
      have JT1 : Hid (∀ w', Kept Nought wr w' → Calls Tryd.prog 58 #[.int .u32 (E : Int), .pointer (some ⟨B2, 0, none⟩), .pointer (some ⟨B2 + 1, 0, none⟩), .pointer (some ⟨B2 + 1 + 1, 0, none⟩)] w' fun e w'' => e = .returned (.int .u32 ((S1N E : Nat) : Int)) ∧ Kept Nought wr w'') := fun w' k => by
        refine (hTurn E 6 11 25 B2 lE (by omega) (by omega) (by omega) w' ((M2.out.grew HKr.out).grew k)).mono ?_
        rintro e w'' ⟨rfl, k'⟩
        exact ⟨rfl, k.trans k'⟩
      have JT0 : Hid (∀ w', Kept Nought wr w' → Calls Tryd.prog 58 #[.int .u32 (A : Int), .pointer (some ⟨B1, 0, none⟩), .pointer (some ⟨B1 + 1, 0, none⟩), .pointer (some ⟨B1 + 1 + 1, 0, none⟩)] w' fun e w'' => e = .returned (.int .u32 ((S0N A : Nat) : Int)) ∧ Kept Nought wr w'') := fun w' k => by
        refine (hTurn A 2 13 22 B1 lA (by omega) (by omega) (by omega) w' ((M1.out.grew HKr.out).grew k)).mono ?_
        rintro e w'' ⟨rfl, k'⟩
        exact ⟨rfl, k.trans k'⟩
      have hch := ch_bitsO lE lF lG
      have hmj := maj_bitsO lA lB lC
      have lch := chN_lt (e := E) lF lG
      have lmj := majN_lt (a := A) lB lC
      have l1 := S1N_lt lE
      have l0 := S0N_lt lA
      obtain ⟨q1, h1⟩ : ∃ q, q = (H + S1N E) % 4294967296 := ⟨_, rfl⟩
      obtain ⟨q2, h2⟩ : ∃ q, q = (q1 + chN E F G) % 4294967296 := ⟨_, rfl⟩
      obtain ⟨q3, h3⟩ : ∃ q, q = (q2 + kk) % 4294967296 := ⟨_, rfl⟩
      obtain ⟨T1, h4⟩ : ∃ q, q = (q3 + wt) % 4294967296 := ⟨_, rfl⟩
      obtain ⟨T2, h5⟩ : ∃ q, q = (S0N A + majN A B C) % 4294967296 := ⟨_, rfl⟩
      obtain ⟨nE, h6⟩ : ∃ q, q = (D + T1) % 4294967296 := ⟨_, rfl⟩
      obtain ⟨nA, h7⟩ : ∃ q, q = (T1 + T2) % 4294967296 := ⟨_, rfl⟩
      have HNX := toHid (rnd_next HR.out hk hwt h1 h2 h3 h4 h5 h6 h7)
      generalize S1N E = a1 at *
      generalize S0N A = a0 at *
      generalize chN E F G = ch at *
      generalize majN A B C = mj at *
      have e1 : IntKind.u32.wrap ((H : Int) + (a1 : Int)) = (q1 : Int) := by rw [IntKind.wrap_u32]; omega
      have e2 : IntKind.u32.wrap ((q1 : Int) + (ch : Int)) = (q2 : Int) := by rw [IntKind.wrap_u32]; omega
      have e3 : IntKind.u32.wrap ((q2 : Int) + (kk : Int)) = (q3 : Int) := by rw [IntKind.wrap_u32]; omega
      have e4 : IntKind.u32.wrap ((q3 : Int) + (wt : Int)) = (T1 : Int) := by rw [IntKind.wrap_u32]; omega
      have e5 : IntKind.u32.wrap ((a0 : Int) + (mj : Int)) = (T2 : Int) := by rw [IntKind.wrap_u32]; omega
      have e6 : IntKind.u32.wrap ((D : Int) + (T1 : Int)) = (nE : Int) := by rw [IntKind.wrap_u32]; omega
      have e7 : IntKind.u32.wrap ((T1 : Int) + (T2 : Int)) = (nA : Int) := by rw [IntKind.wrap_u32]; omega
      obtain ⟨dk, dw⟩ := JC.out wr (Kept.refl _ _)
      clear h1 h2 h3 h4 h5 h6 h7 hk hwt hdr HR
      go_wp2_with fail
      go_region_held3 (fun w' => w'.cell? ⟨4, t, none⟩ = some (.int .u32 (kk : Int)) ∧ w'.cell? ⟨w.heap.size + 1, t, none⟩ = some (.int .u32 (wt : Int)))
        (((try dsimp only); (repeat' apply And.intro) <;> first | (with_reducible assumption) | (with_reducible refine keepDr ?_; (with_reducible assumption)) | (go_keep; done)))
        (first
        | (go_at_call 58; refine (JT1.out _ ((Kept.refl Nought wr).drew)).mono ?_; rintro e w8 ⟨rfl, ks0⟩; obtain ⟨pk, pw⟩ := JC.out w8 ks0))
      all_goals
        go_wp2_with fail
        refine (JT0.out _ ks0).mono ?_
        rintro e w9 ⟨rfl, ks1⟩
        go_wp2_with fail
        go_roundw
        case rel => exact ⟨t + 1, nA, A, B, C, nE, E, F, G, by omega, by go_num, rfl, rfl, rfl, rfl, rfl, rfl, rfl, rfl, HNX.out, HKr.out.trans ks1⟩
        case measure => simp [intOf]; omega
    · have g1 : ¬ (t : Int) < 64 := by omega
      have hR := HR.out
      rw [show t = 64 by omega] at hR
      have hOO := MO.out.grew HKr.out
      have p0 := hOO.cell 0 (by simp)
      have o0 := hOO.free 0
      have p1 := hOO.cell 1 (by simp)
      have o1 := hOO.free 1
      have p2 := hOO.cell 2 (by simp)
      have o2 := hOO.free 2
      have p3 := hOO.cell 3 (by simp)
      have o3 := hOO.free 3
      have p4 := hOO.cell 4 (by simp)
      have o4 := hOO.free 4
      have p5 := hOO.cell 5 (by simp)
      have o5 := hOO.free 5
      have p6 := hOO.cell 6 (by simp)
      have o6 := hOO.free 6
      have p7 := hOO.cell 7 (by simp)
      have o7 := hOO.free 7
      have hF := hOO.put8 rfl A B C D E F G H
      have x0 := hF.cell 0 (by simp)
      have x1 := hF.cell 1 (by simp)
      have x2 := hF.cell 2 (by simp)
      have x3 := hF.cell 3 (by simp)
      have x4 := hF.cell 4 (by simp)
      have x5 := hF.cell 5 (by simp)
      have x6 := hF.cell 6 (by simp)
      have x7 := hF.cell 7 (by simp)
      have KF := toHid ((MK.out.trans HKr.out).next (kept8 wr (w.heap.size + 1 + 1) (.int .u32 (A : Nat)) (.int .u32 (B : Nat)) (.int .u32 (C : Nat)) (.int .u32 (D : Nat)) (.int .u32 (E : Nat)) (.int .u32 (F : Nat)) (.int .u32 (G : Nat)) (.int .u32 (H : Nat))) (fun x hx e => by have e' : x = w.heap.size + 1 + 1 := e; omega))
      have HRR := toHid hR
      clear hR hOO hF HR HKr MO MA M1 M2 MK MT
      go_wp2_with fail
      rw [← HRR.out]
      exact bodyPost_ret (v := .agg #[.int .u32 (A : Nat), .int .u32 (B : Nat), .int .u32 (C : Nat), .int .u32 (D : Nat), .int .u32 (E : Nat), .int .u32 (F : Nat), .int .u32 (G : Nat), .int .u32 (H : Nat)]) (by simp [results, Tryd.results51, go_sem, x0, x1, x2, x3, x4, x5, x6, x7]) rfl ⟨rfl, KF.out⟩

end Go.Proofs.YthnkganmccgaeaaDoor

