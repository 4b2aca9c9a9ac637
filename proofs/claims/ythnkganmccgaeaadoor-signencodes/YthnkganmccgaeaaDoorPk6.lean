/- Put together of: Shc4. -/
import Derived.Test.YthnkganmccgaeaaDoorPk5

/- Package sha512: mix: the rounds. -/
namespace Go.Proofs.YthnkganmccgaeaaDoor
open Go.RowKit

theorem rnd_nextM {ws s : List Nat} {t A B C D E F G H q1 q2 q3 T1 T2 nE nA kk wt : Nat} (h : [A, B, C, D, E, F, G, H] = rndsM ws s t) (hk : kk = K512.getD t 0) (hw : wt = ws.getD t 0) (h1 : q1 = (H + S1M E) % 18446744073709551616) (h2 : q2 = (q1 + chM E F G) % 18446744073709551616) (h3 : q3 = (q2 + kk) % 18446744073709551616) (h4 : T1 = (q3 + wt) % 18446744073709551616) (h5 : T2 = (S0M A + majM A B C) % 18446744073709551616) (h6 : nE = (D + T1) % 18446744073709551616) (h7 : nA = (T1 + T2) % 18446744073709551616) :
    [nA, A, B, C, nE, E, F, G] = rndsM ws s (t + 1) := by
  show _ = rndM (rndsM ws s t) (K512.getD t 0) (ws.getD t 0)
  rw [← h, ← hk, ← hw]
  show _ = [(H + S1M E + chM E F G + kk + wt + (S0M A + majM A B C)) % 18446744073709551616, A, B, C, (D + (H + S1M E + chM E F G + kk + wt)) % 18446744073709551616, E, F, G]
  rw [show nA = (H + S1M E + chM E F G + kk + wt + (S0M A + majM A B C)) % 18446744073709551616 by omega, show nE = (D + (H + S1M E + chM E F G + kk + wt)) % 18446744073709551616 by omega]

set_option maxRecDepth 40000 in
set_option maxHeartbeats 4000000 in
/-- mix: all rounds. -/
theorem mMix (s ws : List Nat) (sv wv : Array Value) (hsv : sv = (s.map fun z => Value.int .u64 (z : Nat)).toArray) (hwv : wv = (ws.map fun z => Value.int .u64 (z : Nat)).toArray) (w : World) (hT : Tab12 w) (hs : s.length = 8) (hsd : Digs 18446744073709551616 s) (hwl : ws.length = 80) (hwd : Digs 18446744073709551616 ws) :
    Calls Tryd.prog 56 #[.agg sv, .agg wv] w fun e w' => e = .returned (.agg ((rndsM ws s 80).map fun z => Value.int .u64 (z : Nat)).toArray) ∧ Kept Nought w w' := by
  obtain ⟨s0, s1, s2, s3, s4, s5, s6, s7, rfl⟩ : ∃ s0 s1 s2 s3 s4 s5 s6 s7, s = [s0, s1, s2, s3, s4, s5, s6, s7] := by
    match s, hs with
    | [a, b, c, d, e, f, g, h], _ => exact ⟨a, b, c, d, e, f, g, h, rfl⟩
  have e0 : sv = #[.int .u64 (s0 : Nat), .int .u64 (s1 : Nat), .int .u64 (s2 : Nat), .int .u64 (s3 : Nat), .int .u64 (s4 : Nat), .int .u64 (s5 : Nat), .int .u64 (s6 : Nat), .int .u64 (s7 : Nat)] := by rw [hsv]; rfl
  subst e0
  clear hsv
  obtain ⟨W, hW⟩ : ∃ W, W = ((w.alloc (.cells #[.int .u64 (s0 : Nat), .int .u64 (s1 : Nat), .int .u64 (s2 : Nat), .int .u64 (s3 : Nat), .int .u64 (s4 : Nat), .int .u64 (s5 : Nat), .int .u64 (s6 : Nat), .int .u64 (s7 : Nat)] 50)).alloc (.cells wv 68)).alloc (.cells #[.int .u64 0, .int .u64 0, .int .u64 0, .int .u64 0, .int .u64 0, .int .u64 0, .int .u64 0, .int .u64 0] 50) := ⟨_, rfl⟩
  have k0 : Kept Nought w W := by rw [hW]; exact (((Kept.refl Nought w).alloc _).alloc _).alloc _
  have hS0 : Arr .u64 50 W w.heap.size [s0, s1, s2, s3, s4, s5, s6, s7] := by
    rw [hW]
    exact heapAt_alloc (heapAt_alloc (heap_alloc_new w _))
  have hA0 : Arr .u64 68 W (w.heap.size + 1) ws := by
    rw [hW]
    refine heapAt_alloc ?_
    have := heap_alloc_new (w.alloc (.cells #[.int .u64 (s0 : Nat), .int .u64 (s1 : Nat), .int .u64 (s2 : Nat), .int .u64 (s3 : Nat), .int .u64 (s4 : Nat), .int .u64 (s5 : Nat), .int .u64 (s6 : Nat), .int .u64 (s7 : Nat)] 50)) (.cells wv 68)
    rw [show (w.alloc (.cells #[.int .u64 (s0 : Nat), .int .u64 (s1 : Nat), .int .u64 (s2 : Nat), .int .u64 (s3 : Nat), .int .u64 (s4 : Nat), .int .u64 (s5 : Nat), .int .u64 (s6 : Nat), .int .u64 (s7 : Nat)] 50)).heap.size = w.heap.size + 1 by simp] at this
    rw [hwv] at this ⊢
    exact this
  have hO0 : Arr .u64 50 W (w.heap.size + 1 + 1) [0, 0, 0, 0, 0, 0, 0, 0] := by
    rw [hW]
    have := heap_alloc_new ((w.alloc (.cells #[.int .u64 (s0 : Nat), .int .u64 (s1 : Nat), .int .u64 (s2 : Nat), .int .u64 (s3 : Nat), .int .u64 (s4 : Nat), .int .u64 (s5 : Nat), .int .u64 (s6 : Nat), .int .u64 (s7 : Nat)] 50)).alloc (.cells wv 68)) (.cells #[.int .u64 0, .int .u64 0, .int .u64 0, .int .u64 0, .int .u64 0, .int .u64 0, .int .u64 0, .int .u64 0] 50)
    rwa [show ((w.alloc (.cells #[.int .u64 (s0 : Nat), .int .u64 (s1 : Nat), .int .u64 (s2 : Nat), .int .u64 (s3 : Nat), .int .u64 (s4 : Nat), .int .u64 (s5 : Nat), .int .u64 (s6 : Nat), .int .u64 (s7 : Nat)] 50)).alloc (.cells wv 68)).heap.size = w.heap.size + 1 + 1 by simp] at this
  have hS := hS0
  have a0 := hS.cell 0 (by simp)
  have a1 := hS.cell 1 (by simp)
  have a2 := hS.cell 2 (by simp)
  have a3 := hS.cell 3 (by simp)
  have a4 := hS.cell 4 (by simp)
  have a5 := hS.cell 5 (by simp)
  have a6 := hS.cell 6 (by simp)
  have a7 := hS.cell 7 (by simp)
  have HA := toHid hA0
  have HO := toHid hO0
  have HK := toHid k0
  have HT := toHid hT
  have HW := toHid hW
  have HSD := toHid hsd
  have HWL := toHid hwl
  have HWD := toHid hwd
  clear hS0 hA0 hO0 k0 hT hW hsd hwl hwd hwv hs hS
  go_enter Tryd.func56, Tryd.ntmps56
  go_wp2_with (rw [← HW.out])
  go_quiet (fail)
  have kq : Kept Nought W (W.drewN nq) := (Kept.refl _ _).drewN nq
  have MA := toHid (HA.out.grew kq)
  have MO := toHid (HO.out.grew kq)
  have MK := toHid (HK.out.trans kq)
  clear a0 a1 a2 a3 a4 a5 a6 a7 HA HO HK HW kq
  generalize W.drewN nq = w3 at *
  have MT := toHid (HT.out.grew MK.out)
  go_wp2_with fail
  go_loopw [5, 6, 7, 8, 9, 10, 11, 12, 34] (fun va vb vc vd ve vf vg vh i wr => ∃ (t A B C D E F G H : Nat), t ≤ 80 ∧ i = .int .i64 (t : Int) ∧ va = .int .u64 (A : Int) ∧ vb = .int .u64 (B : Int) ∧ vc = .int .u64 (C : Int) ∧ vd = .int .u64 (D : Int) ∧ ve = .int .u64 (E : Int) ∧ vf = .int .u64 (F : Int) ∧ vg = .int .u64 (G : Int) ∧ vh = .int .u64 (H : Int) ∧ Hid ([A, B, C, D, E, F, G, H] = rndsM ws [s0, s1, s2, s3, s4, s5, s6, s7] t) ∧ Hid (Kept Nought w3 wr)) (fun _ _ _ _ _ _ _ _ i _ => 80 - (intOf i).toNat)
  case atStart => exact ⟨0, s0, s1, s2, s3, s4, s5, s6, s7, by omega, rfl, rfl, rfl, rfl, rfl, rfl, rfl, rfl, rfl, rfl, Kept.refl _ _⟩
  case round =>
    obtain ⟨t, A, B, C, D, E, F, G, H, ht, rfl, rfl, rfl, rfl, rfl, rfl, rfl, rfl, rfl, HR, HKr⟩ := hrel
    by_cases ht6 : t < 80
    · have g1 : (t : Int) < 80 := by omega
      have g0 : (0 : Int) ≤ (t : Int) := by omega
      have hdr : Digs 18446744073709551616 [A, B, C, D, E, F, G, H] := by rw [HR.out]; exact rndsM_digs HSD.out t
      have lA : A < 18446744073709551616 := hdr A (by simp)
      have lB : B < 18446744073709551616 := hdr B (by simp)
      have lC : C < 18446744073709551616 := hdr C (by simp)
      have lD : D < 18446744073709551616 := hdr D (by simp)
      have lE : E < 18446744073709551616 := hdr E (by simp)
      have lF : F < 18446744073709551616 := hdr F (by simp)
      have lG : G < 18446744073709551616 := hdr G (by simp)
      have lH : H < 18446744073709551616 := hdr H (by simp)
      obtain ⟨kk, hk⟩ : ∃ kk, kk = K512.getD t 0 := ⟨_, rfl⟩
      obtain ⟨wt, hwt⟩ : ∃ wt, wt = ws.getD t 0 := ⟨_, rfl⟩
      have lk : kk < 18446744073709551616 := by rw [hk]; exact K512_lt.getD (by omega) _
      have lw : wt < 18446744073709551616 := by rw [hwt]; exact HWD.out.getD (by omega) _
      have dk : wr.cell? ⟨5, t, none⟩ = some (.int .u64 (kk : Int)) := by rw [hk]; exact (MT.out.grew HKr.out).words t ht6
      have dw : wr.cell? ⟨w.heap.size + 1, t, none⟩ = some (.int .u64 (wt : Int)) := by rw [hwt]; exact (MA.out.grew HKr.out).cell t (by rw [HWL.out]; exact ht6)
      have J0 : Hid (∀ W, Calls Tryd.prog 61 #[.int .u64 (E : Nat), .int .i64 14] W fun e w' => e = .returned (.int .u64 (rot64 E 14 : Nat)) ∧ w' = W) := fun W => mRight E 14 lE (by omega) (by omega) W
      have J1 : Hid (∀ W, Calls Tryd.prog 61 #[.int .u64 (E : Nat), .int .i64 18] W fun e w' => e = .returned (.int .u64 (rot64 E 18 : Nat)) ∧ w' = W) := fun W => mRight E 18 lE (by omega) (by omega) W
      have J2 : Hid (∀ W, Calls Tryd.prog 61 #[.int .u64 (E : Nat), .int .i64 41] W fun e w' => e = .returned (.int .u64 (rot64 E 41 : Nat)) ∧ w' = W) := fun W => mRight E 41 lE (by omega) (by omega) W
      have J3 : Hid (∀ W, Calls Tryd.prog 61 #[.int .u64 (A : Nat), .int .i64 28] W fun e w' => e = .returned (.int .u64 (rot64 A 28 : Nat)) ∧ w' = W) := fun W => mRight A 28 lA (by omega) (by omega) W
      have J4 : Hid (∀ W, Calls Tryd.prog 61 #[.int .u64 (A : Nat), .int .i64 34] W fun e w' => e = .returned (.int .u64 (rot64 A 34 : Nat)) ∧ w' = W) := fun W => mRight A 34 lA (by omega) (by omega) W
      have J5 : Hid (∀ W, Calls Tryd.prog 61 #[.int .u64 (A : Nat), .int .i64 39] W fun e w' => e = .returned (.int .u64 (rot64 A 39 : Nat)) ∧ w' = W) := fun W => mRight A 39 lA (by omega) (by omega) W
      have hxE := xor3M (rot64_lt E 14 lE) (rot64_lt E 18 lE) (rot64_lt E 41 lE)
      have hxA := xor3M (rot64_lt A 28 lA) (rot64_lt A 34 lA) (rot64_lt A 39 lA)
      rw [show rot64 E 14 ^^^ rot64 E 18 ^^^ rot64 E 41 = S1M E from rfl] at hxE
      rw [show rot64 A 28 ^^^ rot64 A 34 ^^^ rot64 A 39 = S0M A from rfl] at hxA
      have hch := ch_bitsO64 lE lF lG
      have hmj := maj_bitsO64 lA lB lC
      have lch := chM_lt (e := E) lF lG
      have lmj := majM_lt (a := A) lB lC
      have l1 := S1M_lt lE
      have l0 := S0M_lt lA
      obtain ⟨q1, h1⟩ : ∃ q, q = (H + S1M E) % 18446744073709551616 := ⟨_, rfl⟩
      obtain ⟨q2, h2⟩ : ∃ q, q = (q1 + chM E F G) % 18446744073709551616 := ⟨_, rfl⟩
      obtain ⟨q3, h3⟩ : ∃ q, q = (q2 + kk) % 18446744073709551616 := ⟨_, rfl⟩
      obtain ⟨T1, h4⟩ : ∃ q, q = (q3 + wt) % 18446744073709551616 := ⟨_, rfl⟩
      obtain ⟨T2, h5⟩ : ∃ q, q = (S0M A + majM A B C) % 18446744073709551616 := ⟨_, rfl⟩
      obtain ⟨nE, h6⟩ : ∃ q, q = (D + T1) % 18446744073709551616 := ⟨_, rfl⟩
      obtain ⟨nA, h7⟩ : ∃ q, q = (T1 + T2) % 18446744073709551616 := ⟨_, rfl⟩
      have HNX := toHid (rnd_nextM HR.out hk hwt h1 h2 h3 h4 h5 h6 h7)
      generalize rot64 E 14 = r0 at *
      generalize rot64 E 18 = r1 at *
      generalize rot64 E 41 = r2 at *
      generalize rot64 A 28 = r3 at *
      generalize rot64 A 34 = r4 at *
      generalize rot64 A 39 = r5 at *
      generalize S1M E = a1 at *
      generalize S0M A = a0 at *
      generalize chM E F G = ch at *
      generalize majM A B C = mj at *
      have e1 : IntKind.u64.wrap ((H : Int) + (a1 : Int)) = (q1 : Int) := by rw [IntKind.wrap_u64]; omega
      have e2 : IntKind.u64.wrap ((q1 : Int) + (ch : Int)) = (q2 : Int) := by rw [IntKind.wrap_u64]; omega
      have e3 : IntKind.u64.wrap ((q2 : Int) + (kk : Int)) = (q3 : Int) := by rw [IntKind.wrap_u64]; omega
      have e4 : IntKind.u64.wrap ((q3 : Int) + (wt : Int)) = (T1 : Int) := by rw [IntKind.wrap_u64]; omega
      have e5 : IntKind.u64.wrap ((a0 : Int) + (mj : Int)) = (T2 : Int) := by rw [IntKind.wrap_u64]; omega
      have e6 : IntKind.u64.wrap ((D : Int) + (T1 : Int)) = (nE : Int) := by rw [IntKind.wrap_u64]; omega
      have e7 : IntKind.u64.wrap ((T1 : Int) + (T2 : Int)) = (nA : Int) := by rw [IntKind.wrap_u64]; omega
      clear h1 h2 h3 h4 h5 h6 h7 hk hwt hdr HR
      go_wp2_with fail
      refine (J0.out _).mono ?_
      rintro e w4 ⟨rfl, rfl⟩
      go_wp2_with fail
      refine (J1.out _).mono ?_
      rintro e w4 ⟨rfl, rfl⟩
      go_wp2_with fail
      refine (J2.out _).mono ?_
      rintro e w4 ⟨rfl, rfl⟩
      go_wp2_with fail
      refine (J3.out _).mono ?_
      rintro e w4 ⟨rfl, rfl⟩
      go_wp2_with fail
      refine (J4.out _).mono ?_
      rintro e w4 ⟨rfl, rfl⟩
      go_wp2_with fail
      refine (J5.out _).mono ?_
      rintro e w4 ⟨rfl, rfl⟩
      have hch' : bits .or .u64 (bits .and .u64 (E : Int) (F : Int)) (bits .and .u64 (bits .xor .u64 (if IntKind.u64.signed = true then -1 else IntKind.u64.max) (E : Int)) (G : Int)) = (ch : Int) := hch
      go_wp2_with fail
      go_quiet (fail)
      have HK5 := toHid (HKr.out.trans ((Kept.refl Nought _).drewN nq))
      go_wp2_with fail
      go_roundw
      case rel => exact ⟨t + 1, nA, A, B, C, nE, E, F, G, by omega, by go_num, rfl, rfl, rfl, rfl, rfl, rfl, rfl, rfl, HNX.out, HK5.out⟩
      case measure => simp [intOf]; omega
    · have g1 : ¬ (t : Int) < 80 := by omega
      have hR := HR.out
      rw [show t = 80 by omega] at hR
      have hOO := MO.out.grew HKr.out
      have p0 := hOO.cell 0 (by simp)
      have o0 := hOO.free 0
      have p1 := hOO.cell 1 (by simp)
      have o1 := hOO.free 1
      have p2 := hOO.cell 2 (by simp)
      have o2 := hOO.free 2
      have p3 := hOO.cell 3 (by simp)
      have o3 := hOO.free 3
      have p4 := hOO.cell 4 (by simp)
      have o4 := hOO.free 4
      have p5 := hOO.cell 5 (by simp)
      have o5 := hOO.free 5
      have p6 := hOO.cell 6 (by simp)
      have o6 := hOO.free 6
      have p7 := hOO.cell 7 (by simp)
      have o7 := hOO.free 7
      have hF := hOO.put8 rfl A B C D E F G H
      have x0 := hF.cell 0 (by simp)
      have x1 := hF.cell 1 (by simp)
      have x2 := hF.cell 2 (by simp)
      have x3 := hF.cell 3 (by simp)
      have x4 := hF.cell 4 (by simp)
      have x5 := hF.cell 5 (by simp)
      have x6 := hF.cell 6 (by simp)
      have x7 := hF.cell 7 (by simp)
      have KF := toHid ((MK.out.trans HKr.out).next (kept8 wr (w.heap.size + 1 + 1) (.int .u64 (A : Nat)) (.int .u64 (B : Nat)) (.int .u64 (C : Nat)) (.int .u64 (D : Nat)) (.int .u64 (E : Nat)) (.int .u64 (F : Nat)) (.int .u64 (G : Nat)) (.int .u64 (H : Nat))) (fun x hx e => by have e' : x = w.heap.size + 1 + 1 := e; omega))
      have HRR := toHid hR
      clear hR hOO hF HR HKr MO MA MK MT
      go_wp2_with fail
      rw [← HRR.out]
      exact bodyPost_ret (v := .agg #[.int .u64 (A : Nat), .int .u64 (B : Nat), .int .u64 (C : Nat), .int .u64 (D : Nat), .int .u64 (E : Nat), .int .u64 (F : Nat), .int .u64 (G : Nat), .int .u64 (H : Nat)]) (by simp [results, Tryd.results56, go_sem, x0, x1, x2, x3, x4, x5, x6, x7]) rfl ⟨rfl, KF.out⟩

end Go.Proofs.YthnkganmccgaeaaDoor

