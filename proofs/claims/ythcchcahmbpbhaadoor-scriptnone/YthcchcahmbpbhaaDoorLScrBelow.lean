/- The walk of the statement on a number that is drawn: it returns true for any bytes and any bound. -/
import Derived.Test.YthcchcahmbpbhaaDoorLaw15
namespace Go.Proofs.YthcchcahmbpbhaaDoor
open Go.RowKit

/-- The one call of a slice that was made of it. -/
theorem acts_one {w : World} {g : Nat} {d m : Int} {v : Value} {xs : List Nat} (hg : w.heap[g]? = some (.cells #[.int .i64 d, .int .i64 m, v] 34 (0, 0))) (hv : Row .u64 w v xs) (hd : Digs 18446744073709551616 xs) :
    ActsIn w (.slice (some ⟨g, 0, none⟩) 1 1) 1 (fun _ => d) (fun _ => m) (fun _ => v) (fun _ => xs) := by
  refine ⟨_, _, rfl, Nat.le_refl _, by unfold maxLen; omega, fun i hi => ?_⟩
  obtain rfl : i = 0 := by omega
  exact ⟨⟨g, 0, rfl, (cell_of_row w g 0 _ _ _ hg).trans rfl, (cell_of_row w g 1 _ _ _ hg).trans rfl, (cell_of_row w g 2 _ _ _ hg).trans rfl⟩, hv, hd⟩

theorem bel_ok {xs bs : List Nat} (h : belE xs bs = 0) : ∃ X, belX xs bs = digs 18446744073709551616 X xs.length ∧ 0 < X ∧ X < val 18446744073709551616 xs ∧ 0 < belK xs bs := by
  have hX : belX xs bs = digs 18446744073709551616 (belN (val 18446744073709551616 xs) bs).1 xs.length := if_pos h
  have hK : belK xs bs = (belN (val 18446744073709551616 xs) bs).2.1 := if_pos h
  unfold belE at h
  split at h
  · omega
  · split at h
    · omega
    · split at h
      · omega
      · next h1 h2 h3 =>
        refine ⟨_, hX, by omega, belF_lt _ _ _ (by omega) _ _ _, ?_⟩
        rw [hK]
        exact belF_pos _ _ _ _ _ _ (by omega) h3

set_option maxRecDepth 100000 in
set_option maxHeartbeats 2000000 in
theorem walkScriptBelow (u : Value) (bs : List Nat) (v : Value) (xs : List Nat) (w : World) (hu : Row .u8 w u bs) (hv : Row .u64 w v xs) (db : Digs 256 bs) (dx : Digs 18446744073709551616 xs) (_ : NoTab w) :
    Calls Tryd.prog 4 #[u, v] w fun e w' => e = .returned (.bool true) ∧ Below w.heap.size w w' := by
  have HU := toHid hu
  have HV := toHid hv
  obtain ⟨uo, un, uc, rfl, hul, _⟩ := hu.open
  obtain ⟨vo, vn, vc, rfl, hvl, hvc, hvm, _⟩ := hv.open
  have HVL := toHid hvl.out
  have HDB := toHid db
  have HDX := toHid dx
  have J0 := f15Awake w
  clear hu hv hul hvl db dx
  go_enter Tryd.func4, Tryd.ntmps4
  go_wp2_with fail
  refine J0.mono ?_
  rintro e w1 ⟨rfl, k1⟩
  have k2 : Kept Nought w1 (w1.alloc (.cells #[.int .i64 0, .int .i64 0, .slice vo vn vc] 34)) := (Kept.refl _ _).alloc _
  have HK2 := toHid (k1.trans k2)
  have J1 := f15Few (.slice uo un uc) _ bs 1 _ _ _ _ _ (HU.out.grew HK2.out) (acts_one (World.alloc_heap_new w1 _) (HV.out.grew HK2.out) HDX.out)
  clear J0 k1 k2
  go_wp2_with fail
  refine J1.mono ?_
  rintro e w2 ⟨b, rfl, hF, k2⟩
  have HK3 := toHid (HK2.out.trans k2)
  clear J1 k2 HK2
  cases b with
  | false =>
    go_wp2_with fail
    go_ret
    exact ⟨rfl, below_kept HK3.out (Nat.le_refl _)⟩
  | true =>
    obtain ⟨h1, _, h3⟩ := hF rfl
    have hxl : xs.length ≤ 301 := h3 0 (by omega)
    have J2 := xNew _ _ _ (HU.out.grew HK3.out) (by omega)
    clear hF h3
    go_wp2_with fail
    refine J2.mono ?_
    rintro e w3 ⟨g, rfl, hg, hs, k3⟩
    have HK4 := toHid (HK3.out.trans k3)
    have J3 := xBelowAny _ _ bs xs (.slice vo vn vc) w3 hs (Nat.le_refl _) HDB.out (HV.out.grew HK4.out) HDX.out (by omega)
    have hwg : w.heap.size ≤ g := Nat.le_trans HK3.out.size hg
    clear J2 k3 hs
    go_wp2_with fail
    refine J3.mono ?_
    rintro e w4 ⟨x, rfl, hx, _, k4⟩
    have HK5 : Hid (Kept Nought w w4) := HK4.out.next k4 (fun y hy f => by
      have := ofP_some f
      omega)
    obtain ⟨xo, xn, xc, rfl, hxn, hxc, hxm, _⟩ := hx.open
    clear J3 k4
    by_cases hE : belE xs bs = 0
    · obtain ⟨X, e1, e2, e3, e4⟩ := bel_ok hE
      rw [e1] at hx hxn
      have hn : xn = vn := by rw [← hxn.out, digs_length]; exact HVL.out
      subst hn
      rw [hE]
      generalize belK xs bs = K at *
      have hXL : X < 18446744073709551616 ^ xs.length := Nat.lt_trans e3 (val_lt (by omega) HDX.out)
      have J4 := rOf _ _ w4 hx (digs_digs (by omega) X xs.length) (by rw [digs_length]; omega)
      rw [val_digs, Nat.mod_eq_of_lt hXL] at J4
      have g1 : (K : Int) > 0 := by omega
      have g1' : (0 : Int) < (K : Int) := by omega
      have HC := toHid (cmpN_lt e3)
      have HX0 := toHid e2
      clear hE e1 e3 e4 hXL hx hxn e2
      go_wp2_with fail
      refine J4.mono ?_
      rintro e w5 ⟨a, rfl, hb, _, k5⟩
      have HB5 := toHid hb
      have HK6 := toHid (HK5.out.trans k5)
      have J5 := rOf _ xs w5 (HV.out.grew HK6.out) HDX.out (by omega)
      obtain ⟨ao, an, ac, rfl, hal, _⟩ := hb.length
      have ha0 : 0 < an := by
        have h5 := (dlen_le X 0).1
        rw [← hal.out] at h5
        rcases Nat.eq_zero_or_pos an with e | e
        · have h6 := h5 (by omega)
          have h7 := HX0.out
          simp at h6
          omega
        · exact e
      have g2 : (an : Int) > 0 := by omega
      have g2' : (0 : Int) < (an : Int) := by omega
      clear J4 k5 hb hal
      go_wp2_with fail
      refine J5.mono ?_
      rintro e w6 ⟨c, rfl, hc, _, k6⟩
      have J6 := rCmp _ _ X _ w6 (HB5.out.grew k6) hc
      rw [HC.out] at J6
      have HK7 := toHid (HK6.out.trans k6)
      obtain ⟨co, cn, cc, rfl, _⟩ := hc.length
      clear J5 k6 hc
      go_wp2_with fail
      refine J6.mono ?_
      rintro e w7 ⟨rfl, n7, rfl⟩
      clear J6
      go_wp2_with fail
      go_ret
      exact ⟨rfl, below_kept (HK7.out.drewN n7) (Nat.le_refl _)⟩
    · have e1 : belX xs bs = [] := if_neg hE
      have e2 : belK xs bs = 0 := if_neg hE
      rw [e1] at hxn
      obtain rfl : xn = 0 := hxn.out.symm
      rw [e2]
      generalize belE xs bs = E at *
      have g1 : ¬ (E : Int) = 0 := by omega
      clear hE e1 e2 hx hxn
      go_wp2_with fail
      go_ret
      exact ⟨rfl, below_kept HK5.out (Nat.le_refl _)⟩

end Go.Proofs.YthcchcahmbpbhaaDoor
