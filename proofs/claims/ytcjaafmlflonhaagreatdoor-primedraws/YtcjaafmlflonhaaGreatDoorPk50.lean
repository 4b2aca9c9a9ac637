/- Put together of: LPriDraws LPriSized. -/
import Derived.Test.YtcjaafmlflonhaaGreatDoorPk2
import Derived.Test.YtcjaafmlflonhaaGreatDoorPk35
import Derived.Test.YtcjaafmlflonhaaGreatDoorPk49

/- The walk of the statement on draws: it returns true for any bytes, any number of bits, any exponent and any number of rounds. -/
namespace Go.Proofs.YtcjaafmlflonhaaGreatDoor
open Go.RowKit

set_option maxRecDepth 100000 in
set_option maxHeartbeats 4000000 in
theorem walkPrimeDraws (u : Value) (bs : List Nat) (n e r : Int) (w : World) (hu : Row .u8 w u bs) (db : Digs 256 bs) (_ : (Lit.int .i64 n).wf = true) (he : (Lit.int .u64 e).wf = true) (_ : (Lit.int .i64 r).wf = true) (_ : NoTab w) :
    Calls Tryz.prog 3 #[u, .int .i64 n, .int .u64 e, .int .i64 r] w fun e w' => e = .returned (.bool true) ∧ Below w.heap.size w w' := by
  obtain ⟨he0, he1⟩ := bounds_u64 he
  obtain ⟨ee, rfl⟩ := Int.eq_ofNat_of_zero_le he0
  have HEE : Hid (ee < 18446744073709551616) := by unfold Hid; omega
  have HU := toHid hu
  obtain ⟨uo, un, uc, rfl, hul, _⟩ := hu.open
  have HUL := toHid hul.out
  have HDB := toHid db
  have J0 := f18Awake w
  clear hu hul db he he0 he1
  by_cases hb : 3000 < un
  · have g1 : (un : Int) > 3000 := by omega
    have g1' : (3000 : Int) < (un : Int) := by omega
    go_enter Tryz.func3, Tryz.ntmps3
    go_wp2_with fail
    refine J0.mono ?_
    rintro e w1 ⟨rfl, k1⟩
    have HK1 := toHid k1
    clear J0 k1
    go_wp2_with fail
    go_ret
    exact ⟨rfl, below_kept HK1.out (Nat.le_refl _)⟩
  have g1 : ¬ (un : Int) > 3000 := by omega
  have g1' : ¬ (3000 : Int) < (un : Int) := by omega
  have d1 : decide ((un : Int) > 3000) = false := decide_eq_false g1
  have d1' : decide ((3000 : Int) < (un : Int)) = false := decide_eq_false g1
  by_cases hkk : n > 128 ∧ n ≤ 4096
  · obtain ⟨g2, g3⟩ := hkk
    have g2' : 128 < n := g2
    go_enter Tryz.func3, Tryz.ntmps3
    go_wp2_with fail
    refine J0.mono ?_
    rintro e w1 ⟨rfl, k1⟩
    have HK1 := toHid k1
    clear J0 k1
    go_wp2_with fail
    go_ret
    exact ⟨rfl, below_kept HK1.out (Nat.le_refl _)⟩
  have key : (n > 128 ∧ ¬ n ≤ 4096) ∨ ¬ n > 128 := by
    by_cases g2 : n > 128
    · exact .inl ⟨g2, fun h => hkk ⟨g2, h⟩⟩
    · exact .inr g2
  have HUN : Hid (un ≤ 3000) := by unfold Hid; omega
  clear hkk hb
  rcases key with ⟨g2, g3⟩ | g2
  all_goals
    go_enter Tryz.func3, Tryz.ntmps3
    go_wp2_with fail
    refine J0.mono ?_
    rintro e w1 ⟨rfl, k1⟩
    have HK2 := toHid k1
    have J2 := xNew _ _ w1 (HU.out.grew HK2.out) (by have := HUL.out; omega)
    clear J0 k1
    go_wp2_with fail
    refine J2.mono ?_
    rintro e w3 ⟨g, rfl, hg, hs3, k3⟩
    have HK3 := toHid (HK2.out.trans k3)
    obtain ⟨W4, hW4⟩ : ∃ W4, W4 = w3.alloc (.cells #[.slice uo un uc] 29) := ⟨_, rfl⟩
    have k4 : Kept Nought w3 W4 := by rw [hW4]; exact (Kept.refl Nought w3).alloc _
    have hR4 : ScrAt W4 w3.heap.size (w3.heap.size + 1) bs := by rw [hW4]; exact scrNew (HU.out.grew HK3.out)
    have hsz4 : W4.heap.size = w3.heap.size + 1 := by rw [hW4]; simp
    have HK4 := toHid (HK3.out.trans k4)
    have hs4 := hs3.grew k4
    have hB4 : w3.heap.size ≤ W4.heap.size := by omega
    have HW4 := toHid hW4
    have J3 := oDraw (some ⟨g, 0, none⟩) w3.heap.size n r ee bs HEE.out W4 hs4 hB4 HDB.out
    have HG : Hid (w.heap.size ≤ g ∧ w.heap.size ≤ w3.heap.size) := ⟨Nat.le_trans HK2.out.size hg, HK3.out.size⟩
    have HS4 := toHid hs4
    have HR4 := toHid hR4
    have HSZ4 := toHid hsz4
    clear J2 k3 k4 hs3 hs4 hR4 hB4 hW4 hsz4
    clear g1 g1' d1 d1' g2
    go_wp2_with (rw [← HW4.out])
    refine J3.mono ?_
    rintro e w5 ⟨v5, K, E, rfl, P, R, hsays, ⟨hrow5, hnew5⟩, hs5, k5⟩
    have hR5 := HR4.out.other HS4.out k5
    have J4 := rDrawAny w3.heap.size (w3.heap.size + 1) bs n r ee HEE.out w5 hR5 (by have h1 := k5.size; have h2 := HSZ4.out; omega) HDB.out (by have := HUL.out; have := HUN.out; omega)
    have K5 : Hid (Kept Nought w w5) := HK4.out.next k5 (fun y hy f => by have h1 := ofP_some f; have h2 := HG.out; omega)
    obtain ⟨vo, vn, vc, rfl, _⟩ := hrow5.open
    have HROW5 := toHid hrow5
    have HS5 := toHid hs5
    have HR5 := toHid hR5
    have HSA := toHid hsays
    clear J3 hrow5 hnew5 hs5 hR5 k5 hsays
    go_wp2_with fail
    refine J4.mono ?_
    rintro e w6 ⟨v6, K', E', rfl, P', R', hsays', hrow6, hR6, k6⟩
    obtain ⟨rfl, rfl, rfl, rfl⟩ := HSA.out.uniq hsays'
    have hrow5 := HROW5.out.kept' k6 (fun hne y hy e => scr_apart HR5.out HROW5.out hne y hy e)
    obtain ⟨zo, zn, zc, rfl, _⟩ := hrow6.open
    have hs6 := HS5.out.plain HR5.out k6
    have K6 : Hid (Kept Nought w w6) := K5.out.next k6 (fun y hy f => by have f' : y = w3.heap.size := f; have h2 := HG.out; omega)
    have JL := toHid fun nq => xLeftD (some ⟨g, 0, none⟩) w3.heap.size R' (w6.drewN nq) (hs6.grew ((Kept.refl _ _).drewN nq))
    have JS := toHid fun nq => rSame _ _ _ _ (w6.drewN nq) (hrow5.grew ((Kept.refl _ _).drewN nq)) (hrow6.grew ((Kept.refl _ _).drewN nq))
    rw [decide_eq_true rfl] at JS
    obtain ⟨rv, hrv, _⟩ := hR6
    have cr := hrv.cell
    obtain ⟨ro, rn, rc', rfl, hrn, _⟩ := hrv.2.1.open
    have hrn' := hrn.out
    rw [hrn'] at JL
    clear J4 hrow5 hrow6 hs6 hrv hrn hrn' k6 HS5 HR5 HS4 HR4 hsays' HSA HROW5
    go_wp2_with fail
    go_quiet (first
      | (go_at_call 9; exact Calls.quiet_of (JL.out _))
      | (go_at_call 10; exact Calls.quiet_of (JS.out _)))
    go_wp2_with fail
    go_ret
    exact ⟨rfl, below_kept (K6.out.drewN _) (Nat.le_refl _)⟩

end Go.Proofs.YtcjaafmlflonhaaGreatDoor


/- The walk of the statement on what is drawn: it returns true for any bytes, any number of bits, any exponent and any number of rounds. -/
namespace Go.Proofs.YtcjaafmlflonhaaGreatDoor
open Go.RowKit

set_option maxRecDepth 100000 in
set_option maxHeartbeats 4000000 in
theorem walkPrimeSized (u : Value) (bs : List Nat) (n e r : Int) (w : World) (hu : Row .u8 w u bs) (db : Digs 256 bs) (_ : (Lit.int .i64 n).wf = true) (he : (Lit.int .u64 e).wf = true) (_ : (Lit.int .i64 r).wf = true) (_ : NoTab w) :
    Calls Tryz.prog 4 #[u, .int .i64 n, .int .u64 e, .int .i64 r] w fun e w' => e = .returned (.bool true) ∧ Below w.heap.size w w' := by
  obtain ⟨he0, he1⟩ := bounds_u64 he
  obtain ⟨ee, rfl⟩ := Int.eq_ofNat_of_zero_le he0
  have HEE : Hid (ee < 18446744073709551616) := by unfold Hid; omega
  have HU := toHid hu
  obtain ⟨uo, un, uc, rfl, hul, _⟩ := hu.open
  have HUL := toHid hul.out
  have HDB := toHid db
  have J0 := f18Awake w
  clear hu hul db he he0 he1
  by_cases hb : 3000 < un
  · have g1 : (un : Int) > 3000 := by omega
    have g1' : (3000 : Int) < (un : Int) := by omega
    go_enter Tryz.func4, Tryz.ntmps4
    go_wp2_with fail
    refine J0.mono ?_
    rintro e w1 ⟨rfl, k1⟩
    have HK1 := toHid k1
    clear J0 k1
    go_wp2_with fail
    go_ret
    exact ⟨rfl, below_kept HK1.out (Nat.le_refl _)⟩
  have g1 : ¬ (un : Int) > 3000 := by omega
  have g1' : ¬ (3000 : Int) < (un : Int) := by omega
  have d1 : decide ((un : Int) > 3000) = false := decide_eq_false g1
  have d1' : decide ((3000 : Int) < (un : Int)) = false := decide_eq_false g1
  by_cases g2 : n > 128
  · have g2' : 128 < n := g2
    go_enter Tryz.func4, Tryz.ntmps4
    go_wp2_with fail
    refine J0.mono ?_
    rintro e w1 ⟨rfl, k1⟩
    have HK1 := toHid k1
    clear J0 k1
    go_wp2_with fail
    go_ret
    exact ⟨rfl, below_kept HK1.out (Nat.le_refl _)⟩
  clear hb
  have HN2 : Hid (n ≤ 128) := by unfold Hid; omega
  go_enter Tryz.func4, Tryz.ntmps4
  go_wp2_with fail
  refine J0.mono ?_
  rintro e w1 ⟨rfl, k1⟩
  have HK2 := toHid k1
  have J2 := xNew _ _ w1 (HU.out.grew HK2.out) (by have := HUL.out; omega)
  clear J0 k1
  go_wp2_with fail
  refine J2.mono ?_
  rintro e w3 ⟨g, rfl, hg, hs3, k3⟩
  have HK3 := toHid (HK2.out.trans k3)
  have J3 := oDraw (some ⟨g, 0, none⟩) w3.heap.size n r ee bs HEE.out w3 hs3 (Nat.le_refl _) HDB.out
  have HG : Hid (w.heap.size ≤ g ∧ w.heap.size ≤ w3.heap.size) := ⟨Nat.le_trans HK2.out.size hg, HK3.out.size⟩
  clear J2 k3 hs3 g1 g1' d1 d1' g2
  go_wp2_with fail
  refine J3.mono ?_
  rintro e w5 ⟨v5, K, E, rfl, P, R, hsays, ⟨hrow5, _⟩, _, k5⟩
  have K5 : Hid (Kept Nought w w5) := HK3.out.next k5 (fun y hy f => by have h1 := ofP_some f; have h2 := HG.out; omega)
  have hcase : (E ≠ 0 ∧ P = [] ∧ K = 0) ∨ (E = 0 ∧ 1 ≤ K ∧ ∃ m : Nat, n = (m : Int) ∧ 16 ≤ m ∧ m ≤ 128 ∧ ∃ ds, P = candL ds m ∧ goodN (candN (ds.take ((m + 7) / 8)) m) ee) := by
    rcases hsays with ⟨_, h1, h2, h3, _⟩ | ⟨h0, h1⟩
    · exact .inl ⟨by omega, h1, h2⟩
    · have hb2 : ¬ (n < 16 ∨ 4096 < n ∨ ee < 3 ∨ ee % 2 = 0 ∨ r < 1 ∨ 100 < r) := h0
      rcases h1.tells with h | ⟨h2, h3, h4⟩
      · exact .inl h
      · exact .inr ⟨h2, h3, n.toNat, by omega, by omega, by have := HN2.out; omega, h4⟩
  obtain ⟨vo, vn, vc, rfl, hvl, _⟩ := hrow5.open
  clear J3 k5 hsays HG
  rcases hcase with ⟨hE, rfl, rfl⟩ | ⟨rfl, hK, m, rfl, hm1, hm2, ds, rfl, hg2⟩
  · have hE1 : ¬ (E : Int) = 0 := by omega
    have hb1 : ((E : Int) != 0) = true := by simp; omega
    have hv0 : vn = 0 := hvl.out.symm
    subst hv0
    clear hE hrow5 hvl
    go_wp2_with fail
    go_ret
    exact ⟨rfl, below_kept K5.out (Nat.le_refl _)⟩
  · have J4 := rOf (.slice vo vn vc) _ w5 hrow5 (digs_digs (by omega) _ _) (by rw [show (candL ds m).length = (m + 63) / 64 from digs_length _ _ _]; omega)
    rw [candL_val ds hm1] at J4
    have hvb : vn ≤ 999999 := by have h1 := hvl.out; rw [show (candL ds m).length = (m + 63) / 64 from digs_length _ _ _] at h1; omega
    have HROW := toHid hrow5
    clear hrow5 hvl
    go_wp2_with fail
    refine J4.mono ?_
    rintro e w6 ⟨v6, rfl, hB6, _, k6⟩
    have K6 := toHid (K5.out.trans k6)
    have JL := rBitLen v6 _ w6 hB6
    have JT := rBit v6 _ ((m : Int) - 2) w6 hB6 (by omega)
    have JZ := rBit v6 _ 0 w6 hB6 (by omega)
    rw [candN_blen _ hm1] at JL
    rw [candN_top _ hm1] at JT
    rw [candN_odd _ hm1] at JZ
    have JG := pGood vo vn vc (candL ds m) ee HEE.out true (by rw [candL_val ds hm1]; simp [hg2]) w6 (HROW.out.grew k6) (digs_digs (by omega) _ _) hvb
    have gK : (K : Int) > 0 := by omega
    have gK' : (0 : Int) < (K : Int) := by omega
    have gw : IntKind.i64.wrap ((m : Int) - 2) = (m : Int) - 2 := by rw [IntKind.wrap_i64]; omega
    obtain ⟨ds6, hr6, _⟩ := hB6
    obtain ⟨ao6, an6, ac6, rfl, _⟩ := hr6.open
    have HM : Hid (16 ≤ m) := hm1
    clear J4 k6 hr6 hg2 hm1 hm2 hvb HROW hK
    go_wp2_with fail
    refine JL.mono ?_
    rintro e w7 ⟨rfl, rfl⟩
    clear JL
    go_wp2_with fail
    refine JT.mono ?_
    rintro e w8 ⟨rfl, rfl⟩
    clear JT
    go_wp2_with fail
    refine JZ.mono ?_
    rintro e w9 ⟨rfl, rfl⟩
    clear JZ
    go_wp2_with fail
    refine JG.mono ?_
    rintro e w10 ⟨rfl, k10⟩
    have K10 := toHid (K6.out.trans k10)
    clear JG k10
    go_wp2_with fail
    go_ret
    exact ⟨rfl, below_kept K10.out (Nat.le_refl _)⟩

end Go.Proofs.YtcjaafmlflonhaaGreatDoor

