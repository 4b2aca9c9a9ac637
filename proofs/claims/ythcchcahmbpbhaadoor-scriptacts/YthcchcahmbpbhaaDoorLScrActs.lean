/- The walk of the statement on whatever is drawn, in any order: it returns true for any bytes and any calls. -/
import Derived.Test.YthcchcahmbpbhaaDoorLScrJoins
namespace Go.Proofs.YthcchcahmbpbhaaDoor
open Go.RowKit

set_option maxRecDepth 20000 in
set_option maxHeartbeats 1000000 in
/-- Left, as a region that draws asks it. -/
theorem xLeftQ (p : Option Addr) (B : Nat) (bs : List Nat) (w : World) (h : Lsc w p B bs) :
    Calls Tryd.prog 19 #[.pointer p] w fun e w' => e = .returned (.int .i64 (bs.length : Nat)) ∧ ∃ m, w' = w.drewN m := by
  rcases h with ⟨rfl, rfl⟩ | ⟨b, v, ps, k, rfl, rfl, h⟩
  · go_enter Tryd.func19, Tryd.ntmps19
    go_wp2_with fail
    go_ret
    exact ⟨rfl, 0, rfl⟩
  · obtain ⟨c0, c1⟩ := h.cells
    obtain ⟨ao, L, cap, rfl, hL, hLc, hcm, hnn, hnum⟩ := h.2.1.open
    have hk : k ≤ L := by rw [← hL.out]; exact h.2.2.1
    have hLb : L ≤ 1000000 := by rw [← hL.out]; exact h.2.2.2.1
    have e1 : (ps.drop k).length = L - k := by rw [List.length_drop, hL.out]
    rw [e1]
    obtain ⟨d, hd⟩ : ∃ d, d = L - k := ⟨_, rfl⟩
    rw [← hd]
    have g1 : (L : Int) - (k : Int) = (d : Int) := by omega
    clear hd e1 hnum h hnn
    go_enter Tryd.func19, Tryd.ntmps19
    go_wp2_with fail
    go_quiet (fail)
    go_wp2_with fail
    go_ret
    exact ⟨rfl, _, rfl⟩

theorem bel_digs {xs bs : List Nat} (h : Digs 256 bs) : Digs 256 (belR xs bs) := by
  unfold belR
  split
  · exact h
  · obtain ⟨n, e⟩ := belF_rest (val 18446744073709551616 xs) (blen (val 18446744073709551616 xs)) ((blen (val 18446744073709551616 xs) + 7) / 8) (bs.length + 1) bs 1
    unfold belN
    rw [e]
    exact h.drop _

/-- What stands between two rounds: the script and the plain one have the same bytes left. -/
structure BtwA (w W : World) (s br S T : Nat) (r : List Nat) : Prop where
  sc : Lsc W (some ⟨s, 0, none⟩) S r
  rc : ScrAt W br T r
  dg : Digs 256 r
  old : Kept Nought w W
  ls : S ≤ W.heap.size
  lr : T ≤ W.heap.size

theorem BtwA.grew {w W W' : World} {s t S T : Nat} {r : List Nat} (b : BtwA w W s t S T r) (k : Kept Nought W W') : BtwA w W' s t S T r :=
  ⟨b.sc.grew k, b.rc.grew k, b.dg, b.old.trans k, Nat.le_trans b.ls k.size, Nat.le_trans b.lr k.size⟩

set_option maxRecDepth 100000 in
set_option maxHeartbeats 4000000 in
theorem walkScriptActs (u : Value) (bs : List Nat) (l : Value) (n : Nat) (D M : Nat → Int) (V : Nat → Value) (xss : Nat → List Nat) (w : World) (hu : Row .u8 w u bs) (db : Digs 256 bs) (hA : ActsIn w l n D M V xss) (_ : NoTab w) :
    Calls Tryd.prog 3 #[u, l] w fun e w' => e = .returned (.bool true) ∧ Below w.heap.size w w' := by
  have HU := toHid hu
  have HA := toHid hA
  have HDB := toHid db
  obtain ⟨uo, un, uc, rfl, hul, _⟩ := hu.open
  obtain ⟨lo, lc, rfl, hlc, hlm, _⟩ := hA
  have hlm' : lc ≤ 9223372036854775807 := by unfold maxLen at hlm; omega
  have J0 := f15Awake w
  clear hu db hul hlm
  go_enter Tryd.func3, Tryd.ntmps3
  go_wp2_with fail
  refine J0.mono ?_
  rintro e w1 ⟨rfl, k1⟩
  have HK1 := toHid k1
  have J1 := f15Few (.slice uo un uc) _ bs n _ _ _ _ w1 (HU.out.grew k1) (HA.out.grew k1)
  clear J0 k1
  go_wp2_with fail
  refine J1.mono ?_
  rintro e w2 ⟨b1, rfl, hF1, k2⟩
  have HK2 := toHid (HK1.out.trans k2)
  clear J1 k2 HK1
  cases b1 with
  | false =>
    go_wp2_with fail
    go_ret
    exact ⟨rfl, below_kept HK2.out (Nat.le_refl _)⟩
  | true =>
    obtain ⟨h1, h2, h3⟩ := hF1 rfl
    have HF3 := toHid h3
    have J2 := xNew _ _ w2 (HU.out.grew HK2.out) (by omega)
    clear hF1 h3
    go_wp2_with fail
    refine J2.mono ?_
    rintro e w3 ⟨s, rfl, hs, hS3, k3⟩
    have HK3 := toHid (HK2.out.trans k3)
    have hws : w.heap.size ≤ s := Nat.le_trans HK2.out.size hs
    have hs3 : s < w3.heap.size := (hS3.inP (x := s) rfl).2
    have k4 : Kept Nought w3 (w3.alloc (.cells #[.slice uo un uc] 30)) := (Kept.refl _ _).alloc _
    have hw3 := HK3.out.size
    have hR4 : ScrAt (w3.alloc (.cells #[.slice uo un uc] 30)) w3.heap.size (w3.heap.size + 1) bs := by
      have hlt := HU.out.lt
      refine ⟨_, ⟨World.alloc_heap_new w3 _, HU.out.grew (HK3.out.trans k4), fun e x hx => ?_⟩, by omega, fun e x hx => ?_⟩
      · have := hlt e x hx
        omega
      · have := hlt e x hx
        omega
    have HB4 : Hid (BtwA w (w3.alloc (.cells #[.slice uo un uc] 30)) s w3.heap.size w3.heap.size (w3.heap.size + 1) bs) := ⟨hS3.grew k4, hR4, HDB.out, HK3.out.trans k4, k4.size, by simp⟩
    obtain ⟨br, hbr⟩ : ∃ br, br = w3.heap.size := ⟨_, rfl⟩
    obtain ⟨S, hS⟩ : ∃ S, S = w3.heap.size := ⟨_, rfl⟩
    obtain ⟨T, hT⟩ : ∃ T, T = w3.heap.size + 1 := ⟨_, rfl⟩
    obtain ⟨w4, hw4⟩ : ∃ w4, w4 = w3.alloc (.cells #[.slice uo un uc] 30) := ⟨_, rfl⟩
    have HLT : Hid (s < S ∧ br < T ∧ s < br ∧ w.heap.size ≤ s) := by refine ⟨?_, ?_, ?_, ?_⟩ <;> omega
    rw [← hw4, ← hbr] at HB4
    have HB5 : Hid (BtwA w w4 s br S T bs) := by rw [hS, hT, ← hbr]; exact HB4.out
    have HW4 := toHid hw4
    have HBR := toHid hbr
    clear J2 k3 k4 hR4 hS3 HB4 hS hT hw4 hbr HK2 HK3
    go_wp2_with fail
    rw [← HW4.out, ← HBR.out]
    clear HW4 HBR
    go_loopw [38] (fun iv wr => ∃ (k : Nat) (r : List Nat), k ≤ n ∧ iv = .int .i64 (k : Int) ∧ Hid (BtwA w wr s br S T r)) (fun iv _ => n - (intOf iv).toNat)
    case atStart => exact ⟨0, bs, Nat.zero_le _, rfl, HB5.out⟩
    case round =>
      clear HB5
      obtain ⟨k, r, hk, rfl, HB0⟩ := hrel
      by_cases hkn : k < n
      · have g3 : (k : Int) < (n : Int) := by omega
        have g0 : (0 : Int) ≤ (k : Int) := by omega
        have HXL := toHid (HF3.out k hkn)
        have HX0 := toHid (HA.out.box HB0.out.old hkn)
        obtain ⟨_, _, e, _, _, hel⟩ := HA.out.grew HB0.out.old
        cases e
        obtain ⟨⟨cb, off, rfl, c0, c1, c2⟩, hr, hdx⟩ := hel k hkn
        have HDX := toHid hdx
        obtain ⟨qo, qn, qc, hVk, _⟩ := hr.open
        rw [hVk] at c2 HX0
        rw [← Nat.add_assoc] at c1 c2
        have k10 : Kept Nought wr (wr.alloc (.cells #[.int .i64 (D k), .int .i64 (M k), .slice qo qn qc] 34)) := (Kept.refl _ _).alloc _
        obtain ⟨w10, hw10⟩ : ∃ w10, w10 = wr.alloc (.cells #[.int .i64 (D k), .int .i64 (M k), .slice qo qn qc] 34) := ⟨_, rfl⟩
        obtain ⟨ab, hab⟩ : ∃ ab, ab = wr.heap.size := ⟨_, rfl⟩
        obtain ⟨d0, d1, d2⟩ := HX0.out.cells
        have HW10 := toHid hw10
        have HAB := toHid hab
        rw [← hw10] at k10
        rw [← hw10, ← hab] at HX0
        have HB10 := toHid (HB0.out.grew k10)
        have HKW := toHid k10
        obtain ⟨Dk, hDk⟩ : ∃ Dk, Dk = D k := ⟨_, rfl⟩
        obtain ⟨Mk, hMk⟩ : ∃ Mk, Mk = M k := ⟨_, rfl⟩
        rw [← hDk] at c0 d0 d1 d2 HX0 HW10
        rw [← hMk] at c1 d0 d1 d2 HX0 HW10
        clear hel hr hVk k10 hw10 hab hDk hMk hdx
        by_cases hD0 : Dk = 0
        · subst hD0
          go_wp2_with fail
          rw [← HW10.out, ← HAB.out]
          have J10 := xRead _ _ _ Mk w10 HB10.out.sc
          clear HB0 HW10 HAB d0 d1 d2 c0 c1 c2 HKW
          refine J10.mono ?_
          rintro e w11 ⟨y1, rfl, hy1, hS11, k11⟩
          have hL := HLT.out
          have hR11 := HB10.out.rc.other HB10.out.sc k11
          have K11 : Kept Nought w w11 := HB10.out.old.next k11 (fun y hy f => by have := ofP_some f; omega)
          have HX1 := toHid (HX0.out.other HB10.out.sc k11)
          obtain ⟨d0, d1, _⟩ := HX1.out.cells
          have hl10 := HB10.out.ls
          have hl10' := HB10.out.lr
          have hz11 := k11.size
          have hrl := HB10.out.sc.len
          have J11 := r15Read br T r Mk w11 hR11 (by omega)
          have HY1 := toHid hy1
          have HS11 := toHid hS11
          have HR11 := toHid hR11
          have HK11 := toHid K11
          have HDR := toHid (readL_digs HB10.out.dg Mk)
          obtain ⟨y1o, y1n, y1c, rfl, _⟩ := hy1.row.open
          generalize readL r Mk = L1 at *
          generalize readR r Mk = r2 at *
          generalize readE r Mk = E1 at *
          clear J10 k11 hS11 hR11 K11 hy1 HX0 HB10
          go_wp2_with fail
          refine J11.mono ?_
          rintro e w12 ⟨z1, rfl, hz1, hR12, k12⟩
          have hS12 := HS11.out.plain HR11.out k12
          have K12 : Kept Nought w w12 := HK11.out.next k12 (fun y hy f => by
            have f' : y = br := f
            omega)
          have hY2 := HY1.out.kept k12 (fun y hy f => by
            have f' : y = br := f
            omega)
          have J14 := r13Same _ _ L1 L1 w12 hY2.row hz1.row HDR.out.1 HDR.out.1
          rw [decide_eq_true rfl] at J14
          have HEnd : Hid (BtwA w w12 s br S T r2) := ⟨hS12, hR12, HDR.out.2, K12, by have := k12.size; omega, by have := k12.size; omega⟩
          obtain ⟨z1o, z1n, z1c, rfl, _⟩ := hz1.row.open
          clear J11 k12 hS12 hR12 K12 hz1 HX1 HS11 HR11 HK11 HY1 hY2
          go_wp2_with fail
          refine J14.mono ?_
          rintro e w15 ⟨rfl, rfl⟩
          clear J14
          have JL := toHid fun nq => xLeftQ (some ⟨s, 0, none⟩) S r2 (w15.drewN nq) (HEnd.out.sc.grew ((Kept.refl _ _).drewN nq))
          obtain ⟨rv, hrv, _⟩ := HEnd.out.rc
          have cr := hrv.cell
          obtain ⟨ro, rn, rc', rfl, hrn, _⟩ := hrv.2.1.open
          have hrn' := hrn.out
          rw [hrn'] at JL
          clear hrv hrn hrn'
          go_wp2_with fail
          go_quiet ((go_at_call 19; exact Calls.quiet_of (JL.out _)))
          go_wp2_with fail
          go_roundw
          case rel => exact ⟨k + 1, r2, by omega, by go_num, HEnd.out.grew ((Kept.refl _ _).drewN _)⟩
          case measure => simp [intOf]; omega
        · by_cases hD1 : Dk = 1
          · subst hD1
            go_wp2_with fail
            rw [← HW10.out, ← HAB.out]
            have J10 := xFilled _ _ _ Mk w10 HB10.out.sc (by have := HB10.out.ls; omega)
            clear HB0 HW10 HAB d0 d1 d2 c0 c1 c2 HKW
            refine J10.mono ?_
            rintro e w11 ⟨y1, rfl, hy1, hS11, k11⟩
            have hL := HLT.out
            have hR11 := HB10.out.rc.other HB10.out.sc k11
            have K11 : Kept Nought w w11 := HB10.out.old.next k11 (fun y hy f => by have := ofP_some f; omega)
            have HX1 := toHid (HX0.out.other HB10.out.sc k11)
            obtain ⟨d0, d1, _⟩ := HX1.out.cells
            have hl10 := HB10.out.ls
            have hl10' := HB10.out.lr
            have hz11 := k11.size
            have hrl := HB10.out.sc.len
            have J11 := r15Filled br T r Mk w11 hR11 hrl (by omega)
            have HY1 := toHid hy1
            have HS11 := toHid hS11
            have HR11 := toHid hR11
            have HK11 := toHid K11
            have HDR := toHid (filL_digs HB10.out.dg Mk)
            obtain ⟨y1o, y1n, y1c, rfl, _⟩ := hy1.row.open
            generalize filL r Mk = L1 at *
            generalize filR r Mk = r2 at *
            generalize filE r Mk = E1 at *
            clear J10 k11 hS11 hR11 K11 hy1 HX0 HB10
            go_wp2_with fail
            refine J11.mono ?_
            rintro e w12 ⟨z1, rfl, hz1, hR12, k12⟩
            have hS12 := HS11.out.plain HR11.out k12
            have K12 : Kept Nought w w12 := HK11.out.next k12 (fun y hy f => by
              have f' : y = br := f
              omega)
            have hY2 := HY1.out.kept k12 (fun y hy f => by
              have f' : y = br := f
              omega)
            have J14 := r13Same _ _ L1 L1 w12 hY2.row hz1.row HDR.out.1 HDR.out.1
            rw [decide_eq_true rfl] at J14
            have HEnd : Hid (BtwA w w12 s br S T r2) := ⟨hS12, hR12, HDR.out.2, K12, by have := k12.size; omega, by have := k12.size; omega⟩
            obtain ⟨z1o, z1n, z1c, rfl, _⟩ := hz1.row.open
            clear J11 k12 hS12 hR12 K12 hz1 HX1 HS11 HR11 HK11 HY1 hY2
            go_wp2_with fail
            refine J14.mono ?_
            rintro e w15 ⟨rfl, rfl⟩
            clear J14
            have JL := toHid fun nq => xLeftQ (some ⟨s, 0, none⟩) S r2 (w15.drewN nq) (HEnd.out.sc.grew ((Kept.refl _ _).drewN nq))
            obtain ⟨rv, hrv, _⟩ := HEnd.out.rc
            have cr := hrv.cell
            obtain ⟨ro, rn, rc', rfl, hrn, _⟩ := hrv.2.1.open
            have hrn' := hrn.out
            rw [hrn'] at JL
            clear hrv hrn hrn'
            go_wp2_with fail
            go_quiet ((go_at_call 19; exact Calls.quiet_of (JL.out _)))
            go_wp2_with fail
            go_roundw
            case rel => exact ⟨k + 1, r2, by omega, by go_num, HEnd.out.grew ((Kept.refl _ _).drewN _)⟩
            case measure => simp [intOf]; omega
          · have g9 : ¬ Dk = 0 := hD0
            go_wp2_with fail
            rw [← HW10.out, ← HAB.out]
            have J10 := xBelowAny _ _ _ (xss k) (.slice qo qn qc) w10 HB10.out.sc (by have := HB10.out.ls; omega) HB10.out.dg HX0.out.2 HDX.out (by have := HXL.out; omega)
            clear HB0 HW10 HAB d0 d1 d2 c0 c1 c2 HKW
            refine J10.mono ?_
            rintro e w11 ⟨y1, rfl, hy1, hS11, k11⟩
            have hL := HLT.out
            have hR11 := HB10.out.rc.other HB10.out.sc k11
            have K11 : Kept Nought w w11 := HB10.out.old.next k11 (fun y hy f => by have := ofP_some f; omega)
            have HX1 := toHid (HX0.out.other HB10.out.sc k11)
            obtain ⟨d0, d1, d2⟩ := HX1.out.cells
            have hl10 := HB10.out.ls
            have hl10' := HB10.out.lr
            have hz11 := k11.size
            have hrl := HB10.out.sc.len
            have J11 := r15BelowAny br T r (xss k) (.slice qo qn qc) w11 hR11 HB10.out.dg hrl HX1.out.2 HDX.out (by have := HXL.out; omega)
            have HY1 := toHid hy1
            have HS11 := toHid hS11
            have HR11 := toHid hR11
            have HK11 := toHid K11
            have HDR : Hid (Digs 256 (belR (xss k) r)) := bel_digs HB10.out.dg
            obtain ⟨y1o, y1n, y1c, rfl, _⟩ := hy1.open
            generalize belX (xss k) r = L1 at *
            generalize belR (xss k) r = r2 at *
            generalize belE (xss k) r = E1 at *
            generalize belK (xss k) r = K1 at *
            clear J10 k11 hS11 hR11 K11 hy1 HX0 HB10
            go_wp2_with fail
            refine J11.mono ?_
            rintro e w12 ⟨z1, rfl, hz1, hR12, k12⟩
            have hS12 := HS11.out.plain HR11.out k12
            have K12 : Kept Nought w w12 := HK11.out.next k12 (fun y hy f => by
              have f' : y = br := f
              omega)
            have hY2 := HY1.out.kept' k12 (fun hx y ey f => HR11.out.apart HY1.out hx (by rw [ey, show y = br from f]))
            have J14 := rSame _ _ L1 L1 w12 hY2 hz1
            rw [decide_eq_true rfl] at J14
            have HEnd0 : Hid (BtwA w w12 s br S T r2) := ⟨hS12, hR12, HDR.out, K12, by have := k12.size; omega, by have := k12.size; omega⟩
            obtain ⟨z1o, z1n, z1c, rfl, _⟩ := hz1.open
            clear J11 k12 hS12 hR12 K12 hz1 HX1 HS11 HR11 HK11 HY1 hY2
            go_wp2_with fail
            refine J14.mono ?_
            rintro e w15 ⟨rfl, n15, rfl⟩
            have HEnd := toHid (HEnd0.out.grew ((Kept.refl _ _).drewN n15))
            clear J14 HEnd0
            generalize w12.drewN n15 = w15 at *
            have JL := toHid fun nq => xLeftQ (some ⟨s, 0, none⟩) S r2 (w15.drewN nq) (HEnd.out.sc.grew ((Kept.refl _ _).drewN nq))
            obtain ⟨rv, hrv, _⟩ := HEnd.out.rc
            have cr := hrv.cell
            obtain ⟨ro, rn, rc', rfl, hrn, _⟩ := hrv.2.1.open
            have hrn' := hrn.out
            rw [hrn'] at JL
            clear hrv hrn hrn'
            go_wp2_with fail
            go_quiet ((go_at_call 19; exact Calls.quiet_of (JL.out _)))
            go_wp2_with fail
            go_roundw
            case rel => exact ⟨k + 1, r2, by omega, by go_num, HEnd.out.grew ((Kept.refl _ _).drewN _)⟩
            case measure => simp [intOf]; omega
      · have g3 : ¬ (k : Int) < (n : Int) := by omega
        go_wp2_with fail
        go_ret
        exact ⟨rfl, below_kept HB0.out.old (Nat.le_refl _)⟩

end Go.Proofs.YthcchcahmbpbhaaDoor
