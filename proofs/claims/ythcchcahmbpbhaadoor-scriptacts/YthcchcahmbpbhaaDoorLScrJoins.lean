/- The walk of the statement on a script behind bytes that are read: it returns true for any bytes and any calls. -/
import Derived.Test.YthcchcahmbpbhaaDoorLScrNone
namespace Go.Proofs.YthcchcahmbpbhaaDoor
open Go.RowKit

theorem readL_digs {bs : List Nat} (h : Digs 256 bs) (n : Int) : Digs 256 (readL bs n) ∧ Digs 256 (readR bs n) := by
  constructor
  · unfold readL
    split
    · exact h.take _
    · exact Digs.nil _
  · unfold readR
    split
    · exact h
    · exact h.drop _

theorem filL_digs {bs : List Nat} (h : Digs 256 bs) (n : Int) : Digs 256 (filL bs n) ∧ Digs 256 (filR bs n) := by
  constructor
  · unfold filL
    split
    · exact (filN_digs h).1
    · exact Digs.nil _
  · unfold filR
    split
    · exact h
    · exact (filN_digs h).2

/-- A call of a slice of them, laid into a box. -/
theorem ActsIn.box {w w' : World} {v : Value} {n : Nat} {D M : Nat → Int} {V : Nat → Value} {xss : Nat → List Nat} (h : ActsIn w v n D M V xss) (k : Kept Nought w w') {i : Nat} (hi : i < n) : ActBox (w'.alloc (.cells #[.int .i64 (D i), .int .i64 (M i), V i] 34)) w'.heap.size (D i) (M i) (V i) (xss i) := by
  obtain ⟨_, _, _, _, _, h3⟩ := h
  exact ⟨World.alloc_heap_new w' _, (h3 i hi).2.1.grew (k.alloc _)⟩

/-- What stands between two rounds: both scripts have the same bytes left. -/
structure BtwJ (w W : World) (s t S T : Nat) (r : List Nat) : Prop where
  sc : Lsc W (some ⟨s, 0, none⟩) S r
  tc : Lsc W (some ⟨t, 0, none⟩) T r
  dg : Digs 256 r
  old : Kept Nought w W
  ls : S ≤ W.heap.size
  lt : T ≤ W.heap.size

theorem BtwJ.grew {w W W' : World} {s t S T : Nat} {r : List Nat} (b : BtwJ w W s t S T r) (k : Kept Nought W W') : BtwJ w W' s t S T r :=
  ⟨b.sc.grew k, b.tc.grew k, b.dg, b.old.trans k, Nat.le_trans b.ls k.size, Nat.le_trans b.lt k.size⟩

set_option maxRecDepth 100000 in
set_option maxHeartbeats 4000000 in
theorem walkScriptJoins (u : Value) (xa : List Nat) (v : Value) (bs : List Nat) (l : Value) (n : Nat) (D M : Nat → Int) (V : Nat → Value) (xss : Nat → List Nat) (w : World) (hu : Row .u8 w u xa) (hv : Row .u8 w v bs) (da : Digs 256 xa) (db : Digs 256 bs) (hA : ActsIn w l n D M V xss) (_ : NoTab w) :
    Calls Tryd.prog 7 #[u, v, l] w fun e w' => e = .returned (.bool true) ∧ Below w.heap.size w w' := by
  have HU := toHid hu
  have HV := toHid hv
  have HA := toHid hA
  have HDA := toHid da
  have HDB := toHid db
  obtain ⟨uo, un, uc, rfl, hul, _⟩ := hu.open
  obtain ⟨vo, vn, vc, rfl, hvl, _⟩ := hv.open
  have HUL := toHid hul.out
  obtain ⟨lo, lc, rfl, hlc, hlm, _⟩ := hA
  have hlm' : lc ≤ 9223372036854775807 := by unfold maxLen at hlm; omega
  have J0 := f15Awake w
  clear hu hv da db hul hvl hlm
  go_enter Tryd.func7, Tryd.ntmps7
  go_wp2_with fail
  refine J0.mono ?_
  rintro e w1 ⟨rfl, k1⟩
  have HK1 := toHid k1
  have J1 := f15Few (.slice uo un uc) _ xa n _ _ _ _ w1 (HU.out.grew k1) (HA.out.grew k1)
  clear J0 k1
  go_wp2_with fail
  refine J1.mono ?_
  rintro e w2 ⟨b1, rfl, hF1, k2⟩
  have HK2 := toHid (HK1.out.trans k2)
  clear J1 k2 HK1
  cases b1 with
  | false =>
    go_wp2_with fail
    go_ret
    exact ⟨rfl, below_kept HK2.out (Nat.le_refl _)⟩
  | true =>
    obtain ⟨h1, h2, _⟩ := hF1 rfl
    have J2 := f15Few (.slice vo vn vc) _ bs n _ _ _ _ w2 (HV.out.grew HK2.out) (HA.out.grew HK2.out)
    clear hF1
    go_wp2_with fail
    refine J2.mono ?_
    rintro e w3 ⟨b2, rfl, hF2, k3⟩
    have HK3 := toHid (HK2.out.trans k3)
    clear J2 k3 HK2
    cases b2 with
    | false =>
      go_wp2_with fail
      go_ret
      exact ⟨rfl, below_kept HK3.out (Nat.le_refl _)⟩
    | true =>
      obtain ⟨h3, _, _⟩ := hF2 rfl
      clear hF2
      go_wp2_with (at_builtin; refine wpList_append_row rfl _ _ rfl w3.heap.size _ [] rfl (OwnB.nil _ _) _ rfl xa (HU.out.grew HK3.out) (by simp; omega) (Nat.le_refl _) ?_)
      intro v4 w4 ho4 hg4
      have k4 : Kept Nought w3 w4 := (Kept.refl Nought w3).grown hg4 (fun y hy hlt => by cases hy)
      have HK4 := toHid (HK3.out.trans k4)
      have HO4 := toHid ho4
      obtain ⟨ao, an, ac, rfl, _⟩ := ho4.row.open
      have hs4 := k4.size
      clear ho4 hg4 k4
      go_wp2_with (at_builtin; refine wpList_append_row rfl _ _ rfl w3.heap.size _ xa rfl HO4.out _ rfl bs (HV.out.grew HK4.out) (by omega) hs4 ?_)
      intro v5 w5 ho5 hg5
      have hs3 := HK3.out.size
      have HK5 : Hid (Kept Nought w w5) := HK4.out.grown hg5 (fun y hy hlt => by
        have := (HO4.out.lt y hy).1
        omega)
      have J5 := xNew v5 (xa ++ bs) w5 ho5.row (by rw [List.length_append]; omega)
      obtain ⟨bo, bn, bc, rfl, _⟩ := ho5.row.open
      clear ho5 hg5
      go_wp2_with fail
      refine J5.mono ?_
      rintro e w6 ⟨s, rfl, hs, hS6, k6⟩
      have HK6 := toHid (HK5.out.trans k6)
      have HS6 := toHid hS6
      have J6 := xNew _ _ w6 (HV.out.grew HK6.out) (by omega)
      have hws : w.heap.size ≤ s := Nat.le_trans HK5.out.size hs
      clear J5 k6 hS6
      go_wp2_with fail
      refine J6.mono ?_
      rintro e w7 ⟨t, rfl, ht, hT7, k7⟩
      have hst : s < t := Nat.lt_of_lt_of_le (HS6.out.inP (x := s) rfl).2 ht
      have HK7 := toHid (HK6.out.trans k7)
      have HS7 := toHid (HS6.out.grew k7)
      have HT7 := toHid hT7
      have hs7 := k7.size
      have J7 := xRead _ _ _ (un : Int) w7 HS7.out
      have t1 : readE (xa ++ bs) (un : Int) = 0 := by unfold readE; rw [if_neg (by omega), if_neg (by rw [List.length_append, HUL.out]; omega)]
      have t2 : readL (xa ++ bs) (un : Int) = xa := by unfold readL; rw [t1, if_pos rfl]; show (xa ++ bs).take un = xa; rw [← HUL.out]; exact List.take_left
      have t3 : readR (xa ++ bs) (un : Int) = bs := by unfold readR; rw [if_neg (by omega)]; show (xa ++ bs).drop un = bs; rw [← HUL.out]; exact List.drop_left
      rw [t1, t2, t3] at J7
      clear J6 k7 hT7 t1 t2 t3
      go_wp2_with fail
      refine J7.mono ?_
      rintro e w8 ⟨x, rfl, hx, hS8, k8⟩
      have HB8 : Hid (BtwJ w w8 s t w6.heap.size w7.heap.size bs) := ⟨hS8, HT7.out.other HS7.out k8 (fun y f1 f2 => by have := ofP_some f1; have := ofP_some f2; omega), HDB.out, HK7.out.next k8 (fun y hy f => by have := ofP_some f; omega), Nat.le_trans hs7 k8.size, k8.size⟩
      have J8 := r13Same x _ xa xa w8 hx.row (HU.out.grew HB8.out.old) HDA.out HDA.out
      rw [decide_eq_true rfl] at J8
      obtain ⟨xo, xn, xc, rfl, _⟩ := hx.row.open
      clear J7 hx hS8 k8
      go_wp2_with fail
      refine J8.mono ?_
      rintro e w9 ⟨rfl, rfl⟩
      clear J8
      obtain ⟨S, hS⟩ : ∃ S, S = w6.heap.size := ⟨_, rfl⟩
      obtain ⟨T, hT⟩ : ∃ T, T = w7.heap.size := ⟨_, rfl⟩
      rw [← hS, ← hT] at HB8
      have HLT : Hid (s < S ∧ t < T ∧ s < t ∧ w.heap.size ≤ s) := by
        refine ⟨?_, ?_, hst, hws⟩
        · rw [hS]; exact (HS6.out.inP (x := s) rfl).1
        · rw [hT]; exact (HT7.out.inP (x := t) rfl).1
      clear hS hT HS6 HS7 HT7 HK3 HK4 HK5 HK6 HK7 HO4
      go_wp2_with fail
      go_loopw [63] (fun iv wr => ∃ (k : Nat) (r : List Nat), k ≤ n ∧ iv = .int .i64 (k : Int) ∧ Hid (BtwJ w wr s t S T r)) (fun iv _ => n - (intOf iv).toNat)
      case atStart => exact ⟨0, bs, Nat.zero_le _, rfl, HB8.out⟩
      case round =>
        clear HB8
        obtain ⟨k, r, hk, rfl, HB⟩ := hrel
        by_cases hkn : k < n
        · have g3 : (k : Int) < (n : Int) := by omega
          have g0 : (0 : Int) ≤ (k : Int) := by omega
          have HX0 := toHid (HA.out.box HB.out.old hkn)
          obtain ⟨_, _, e, _, _, hel⟩ := HA.out.grew HB.out.old
          cases e
          obtain ⟨⟨cb, off, rfl, c0, c1, c2⟩, hr, _⟩ := hel k hkn
          obtain ⟨qo, qn, qc, hVk, _⟩ := hr.open
          rw [hVk] at c2 HX0
          rw [← Nat.add_assoc] at c1 c2
          have k10 : Kept Nought wr (wr.alloc (.cells #[.int .i64 (D k), .int .i64 (M k), .slice qo qn qc] 34)) := (Kept.refl _ _).alloc _
          obtain ⟨w10, hw10⟩ : ∃ w10, w10 = wr.alloc (.cells #[.int .i64 (D k), .int .i64 (M k), .slice qo qn qc] 34) := ⟨_, rfl⟩
          obtain ⟨ab, hab⟩ : ∃ ab, ab = wr.heap.size := ⟨_, rfl⟩
          obtain ⟨d0, d1, d2⟩ := HX0.out.cells
          have HW10 := toHid hw10
          have HAB := toHid hab
          rw [← hw10] at k10
          rw [← hw10, ← hab] at HX0
          have HB10 := toHid (HB.out.grew k10)
          have J10 := xRead _ _ _ (M k) w10 HB10.out.sc
          obtain ⟨Dk, hDk⟩ : ∃ Dk, Dk = D k := ⟨_, rfl⟩
          obtain ⟨Mk, hMk⟩ : ∃ Mk, Mk = M k := ⟨_, rfl⟩
          rw [← hDk] at c0 d0 d1 d2 HX0 HW10
          rw [← hMk] at c1 d0 d1 d2 HX0 HW10 J10
          clear hel hr hVk k10 hw10 hab hDk hMk HB
          go_wp2_with fail
          rw [← HW10.out, ← HAB.out]
          clear HW10 HAB d0 d1 d2 c0 c1 c2
          refine J10.mono ?_
          rintro e w11 ⟨y1, rfl, hy1, hS11, k11⟩
          have hL := HLT.out
          have hT11 := HB10.out.tc.other HB10.out.sc k11 (fun y f1 f2 => by have := ofP_some f1; have := ofP_some f2; omega)
          have K11 : Kept Nought w w11 := HB10.out.old.next k11 (fun y hy f => by have := ofP_some f; omega)
          have HX1 := toHid (HX0.out.other HB10.out.sc k11)
          obtain ⟨d0, d1, _⟩ := HX1.out.cells
          have J11 := xRead _ _ _ Mk w11 hT11
          have HS11 := toHid hS11
          have HT11 := toHid hT11
          have HK11 := toHid K11
          have hz11 := k11.size
          have hl10 := HB10.out.ls
          have hl10' := HB10.out.lt
          have HY1 := toHid hy1
          have HDR := toHid (readL_digs HB10.out.dg Mk)
          obtain ⟨y1o, y1n, y1c, rfl, _⟩ := hy1.row.open
          generalize readL r Mk = L1 at *
          generalize readR r Mk = r1 at *
          generalize readE r Mk = E1 at *
          clear J10 k11 hS11 hT11 K11 hy1 HX0 HB10
          go_wp2_with fail
          refine J11.mono ?_
          rintro e w12 ⟨z1, rfl, hz1, hT12, k12⟩
          have hS12 := HS11.out.other HT11.out k12 (fun y f1 f2 => by have := ofP_some f1; have := ofP_some f2; omega)
          have K12 : Kept Nought w w12 := HK11.out.next k12 (fun y hy f => by have := ofP_some f; omega)
          have HX2 := toHid (HX1.out.other HT11.out k12)
          obtain ⟨d0, d1, _⟩ := HX2.out.cells
          have HY2 := toHid (HY1.out.kept k12 (fun y hy f => by have := ofP_some f; omega))
          have hz12 := k12.size
          have J12 := xFilled _ _ _ Dk w12 hS12 (by omega)
          have HS12 := toHid hS12
          have HT12 := toHid hT12
          have HK12 := toHid K12
          have HZ2 := toHid hz1
          obtain ⟨z1o, z1n, z1c, rfl, _⟩ := hz1.row.open
          clear J11 k12 hS12 hT12 K12 hz1 HX1 HS11 HT11 HK11 HY1
          go_wp2_with fail
          refine J12.mono ?_
          rintro e w13 ⟨u1, rfl, hu1, hS13, k13⟩
          have hT13 := HT12.out.other HS12.out k13 (fun y f1 f2 => by have := ofP_some f1; have := ofP_some f2; omega)
          have K13 : Kept Nought w w13 := HK12.out.next k13 (fun y hy f => by have := ofP_some f; omega)
          have HX3 := toHid (HX2.out.other HS12.out k13)
          obtain ⟨d0, d1, _⟩ := HX3.out.cells
          have HY3 := toHid (HY2.out.kept k13 (fun y hy f => by have := ofP_some f; omega))
          have HZ3 := toHid (HZ2.out.kept k13 (fun y hy f => by have := ofP_some f; omega))
          have hz13 := k13.size
          have J13 := xFilled _ _ _ Dk w13 hT13 (by omega)
          have HS13 := toHid hS13
          have HT13 := toHid hT13
          have HK13 := toHid K13
          have HU3 := toHid hu1
          have HDF := toHid (filL_digs HDR.out.2 Dk)
          obtain ⟨u1o, u1n, u1c, rfl, _⟩ := hu1.row.open
          generalize filL r1 Dk = L2 at *
          generalize filR r1 Dk = r2 at *
          generalize filE r1 Dk = E2 at *
          clear J12 k13 hS13 hT13 K13 hu1 HX2 HS12 HT12 HK12 HY2 HZ2
          go_wp2_with fail
          refine J13.mono ?_
          rintro e w14 ⟨v1, rfl, hv1, hT14, k14⟩
          have hS14 := HS13.out.other HT13.out k14 (fun y f1 f2 => by have := ofP_some f1; have := ofP_some f2; omega)
          have K14 : Kept Nought w w14 := HK13.out.next k14 (fun y hy f => by have := ofP_some f; omega)
          have HY4 := HY3.out.kept k14 (fun y hy f => by have := ofP_some f; omega)
          have HZ4 := HZ3.out.kept k14 (fun y hy f => by have := ofP_some f; omega)
          have HU4 := HU3.out.kept k14 (fun y hy f => by have := ofP_some f; omega)
          have HEnd : Hid (BtwJ w w14 s t S T r2) := ⟨hS14, hT14, HDF.out.2, K14, by have := k14.size; omega, by have := k14.size; omega⟩
          have J14 := r13Same _ _ L1 L1 w14 HY4.row HZ4.row HDR.out.1 HDR.out.1
          have J15 := r13Same _ _ L2 L2 w14 HU4.row hv1.row HDF.out.1 HDF.out.1
          rw [decide_eq_true rfl] at J14 J15
          obtain ⟨v1o, v1n, v1c, rfl, _⟩ := hv1.row.open
          clear J13 k14 hS14 hT14 K14 hv1 HX3 HS13 HT13 HK13 HY3 HZ3 HU3 HY4 HZ4 HU4
          go_wp2_with fail
          refine J14.mono ?_
          rintro e w15 ⟨rfl, rfl⟩
          clear J14
          go_wp2_with fail
          refine J15.mono ?_
          rintro e w16 ⟨rfl, rfl⟩
          clear J15
          have J16 := xLeft _ _ _ w16 HEnd.out.sc
          generalize hrl : r2.length = rl at J16
          go_wp2_with fail
          refine J16.mono ?_
          rintro e w17 ⟨rfl, k17⟩
          have HEnd2 := toHid (HEnd.out.grew k17)
          have J17 := xLeft _ _ _ w17 HEnd2.out.tc
          rw [hrl] at J17
          clear J16 k17 HEnd
          go_wp2_with fail
          refine J17.mono ?_
          rintro e w18 ⟨rfl, k18⟩
          have HEnd3 := toHid (HEnd2.out.grew k18)
          clear J17 k18 HEnd2
          go_wp2_with fail
          go_roundw
          case rel => exact ⟨k + 1, r2, by omega, by go_num, HEnd3.out⟩
          case measure => simp [intOf]; omega
        · have g3 : ¬ (k : Int) < (n : Int) := by omega
          go_wp2_with fail
          go_ret
          exact ⟨rfl, below_kept HB.out.old (Nat.le_refl _)⟩

end Go.Proofs.YthcchcahmbpbhaaDoor
