/- The walk of the statement on the test with bases of a script: it returns true for any bytes, any number and any count. -/
import Derived.Test.YtgcbbadakfdcgaaGreatDoorMir8
import Derived.Test.YtgcbbadakfdcgaaGreatDoorLaw17
import Derived.Test.YtgcbbadakfdcgaaGreatDoorOpenRow
namespace Go.Proofs.YtgcbbadakfdcgaaGreatDoor
open Go.RowKit

theorem Bases.at {w : World} {base n L c : Nat} {qo : Option Addr} {acc : List (List Nat)} (h : Bases w base (.slice qo n c) L acc) {j : Nat} (hj : j < acc.length) : ∃ g o d, qo = some ⟨g, 0, none⟩ ∧ w.cell? ⟨g, j, none⟩ = some (.slice o L d) ∧ Row .u64 w (.slice o L d) (acc.getD j (List.replicate L 0)) := by
  obtain ⟨_, A, C, h2, h3⟩ := h
  have h4 := h2.2
  rcases h4 with ⟨_, e⟩ | ⟨g, cap, cur, e, _⟩
  · omega
  · cases e
    refine ⟨g, A j, C j, rfl, ?_, (h3 j hj).1⟩
    rw [World.ownsRow.cellAt h2 j (by omega), List.getElem?_map, List.getElem?_range hj]
    rfl

theorem Bases.short {w : World} {base L : Nat} {out : Value} {acc : List (List Nat)} (h : Bases w base out L acc) : acc.length ≤ 9223372036854775807 := by
  obtain ⟨_, A, C, h2, _⟩ := h
  rcases h2.2 with ⟨_, e⟩ | ⟨g, cap, cur, _, _, _, h3, h4, _⟩
  · omega
  · unfold maxLen at h4
    omega

set_option maxRecDepth 100000 in
set_option maxHeartbeats 4000000 in
theorem walkMillerRounds (u : Value) (bs : List Nat) (v : Value) (xs : List Nat) (k : Int) (w : World) (hu : Row .u8 w u bs) (hv : Row .u64 w v xs) (db : Digs 256 bs) (dx : Digs 18446744073709551616 xs) (hk : (Lit.int .i64 k).wf = true) (_ : NoTab w) :
    Calls Tryz.prog 3 #[u, v, .int .i64 k] w fun e w' => e = .returned (.bool true) ∧ Below w.heap.size w w' := by
  obtain ⟨hk0, hk1⟩ := bounds_i64 hk
  have HU := toHid hu
  have HV := toHid hv
  obtain ⟨uo, un, uc, rfl, hul, _⟩ := hu.open
  obtain ⟨vo, L, vc, rfl, hvl, _⟩ := hv.open
  have HUL := toHid hul.out
  have HVL := toHid hvl.out
  have HDB := toHid db
  have HDX := toHid dx
  have J0 := f17Awake w
  obtain ⟨r1, r2, r3, r4, hRN⟩ : ∃ r1 r2 r3 r4, rndAll xs k bs = (r1, r2, r3, r4) := ⟨_, _, _, _, rfl⟩
  have HRN := toHid hRN
  clear hu hv hul hvl db dx hk hRN
  by_cases hf : L ≤ 6 ∨ L = 131
  · have J1 := fun W => few17a vo L vc W true (decide_eq_true hf).symm
    have HJ1 := toHid J1
    have hLb : L ≤ 1000000 := by omega
    clear hf J1
    by_cases hb : 500 < un
    · have g1 : (un : Int) > 500 := by omega
      have g1' : (500 : Int) < (un : Int) := by omega
      go_enter Tryz.func3, Tryz.ntmps3
      go_wp2_with fail
      refine J0.mono ?_
      rintro e w1 ⟨rfl, k1⟩
      have k2 := k1.alloc (.cells #[.slice vo L vc] 24)
      have HK2 := toHid k2
      have J1 := HJ1.out w1
      clear J0 k1 k2
      go_wp2_with fail
      refine J1.mono ?_
      rintro e w2 ⟨rfl, rfl⟩
      clear J1
      go_wp2_with fail
      go_ret
      exact ⟨rfl, below_kept HK2.out (Nat.le_refl _)⟩
    have g1 : ¬ (un : Int) > 500 := by omega
    have g1' : ¬ (500 : Int) < (un : Int) := by omega
    have d1 : decide ((un : Int) > 500) = false := decide_eq_false g1
    have d1' : decide ((500 : Int) < (un : Int)) = false := decide_eq_false g1
    by_cases hkk : k > 8 ∧ k ≤ 100
    · obtain ⟨g2, g3⟩ := hkk
      go_enter Tryz.func3, Tryz.ntmps3
      go_wp2_with fail
      refine J0.mono ?_
      rintro e w1 ⟨rfl, k1⟩
      have k2 := k1.alloc (.cells #[.slice vo L vc] 24)
      have HK2 := toHid k2
      have J1 := HJ1.out w1
      clear J0 k1 k2
      go_wp2_with fail
      refine J1.mono ?_
      rintro e w2 ⟨rfl, rfl⟩
      clear J1
      go_wp2_with fail
      go_ret
      exact ⟨rfl, below_kept HK2.out (Nat.le_refl _)⟩
    have key : (k > 8 ∧ ¬ k ≤ 100) ∨ ¬ k > 8 := by
      by_cases g2 : k > 8
      · exact .inl ⟨g2, fun h => hkk ⟨g2, h⟩⟩
      · exact .inr g2
    clear hkk
    rcases key with ⟨g2, g3⟩ | g2
    all_goals
      go_enter Tryz.func3, Tryz.ntmps3
      go_wp2_with fail
      refine J0.mono ?_
      rintro e w1 ⟨rfl, k1⟩
      have k2 := k1.alloc (.cells #[.slice vo L vc] 24)
      have HK2 := toHid k2
      have J1 := HJ1.out w1
      clear J0 k1 k2
      go_wp2_with fail
      refine J1.mono ?_
      rintro e w2 ⟨rfl, rfl⟩
      obtain ⟨W2, hW2⟩ : ∃ W2, W2 = w1.alloc (.cells #[.slice vo L vc] 24) := ⟨_, rfl⟩
      rw [← hW2] at HK2 ⊢
      have J2 := xNew _ _ W2 (HU.out.grew HK2.out) (by have := HUL.out; omega)
      clear J1 hW2
      go_wp2_with fail
      refine J2.mono ?_
      rintro e w3 ⟨g, rfl, hg, hs3, k3⟩
      have HK3 := toHid (HK2.out.trans k3)
      obtain ⟨W4, hW4⟩ : ∃ W4, W4 = w3.alloc (.cells #[.slice uo un uc] 31) := ⟨_, rfl⟩
      have k4 : Kept Nought w3 W4 := by rw [hW4]; exact (Kept.refl Nought w3).alloc _
      have hR4 : ScrAt W4 w3.heap.size (w3.heap.size + 1) bs := by rw [hW4]; exact scrNew (HU.out.grew HK3.out)
      have hsz4 : W4.heap.size = w3.heap.size + 1 := by rw [hW4]; simp
      have HK4 := toHid (HK3.out.trans k4)
      have hs4 := hs3.grew k4
      have hB4 : w3.heap.size ≤ W4.heap.size := by omega
      have HW4 := toHid hW4
      have J3 := yRounds vo (some ⟨g, 0, none⟩) L vc w3.heap.size k xs bs r1 r2 r3 r4 HRN.out hk0 hk1 W4 (HV.out.grew HK4.out) HDX.out hLb hs4 hB4 HDB.out
      have HG : Hid (w.heap.size ≤ g ∧ w.heap.size ≤ w3.heap.size) := ⟨Nat.le_trans HK2.out.size hg, HK3.out.size⟩
      have HS4 := toHid hs4
      have HR4 := toHid hR4
      have HSZ4 := toHid hsz4
      clear J2 k3 k4 hs3 hs4 hR4 hB4 hW4 hsz4
      go_wp2_with (rw [← HW4.out])
      refine J3.mono ?_
      rintro e w5 ⟨lv, rfl, hbs5, hs5, k5⟩
      have hR5 := HR4.out.other HS4.out k5
      have hV5 : Row .u64 w5 (.slice vo L vc) xs := (HV.out.grew HK4.out).kept' k5 (fun hne => HS4.out.apart (HV.out.grew HK4.out) hne)
      have J4 := r16Rounds w3.heap.size (w3.heap.size + 1) bs xs vo L vc k r1 r2 r3 r4 HRN.out hk0 hk1 w5 hR5 (by have h1 := k5.size; have h2 := HSZ4.out; omega) HDB.out (by have := HUL.out; omega) hV5 HDX.out hLb
      have K5 : Hid (Kept Nought w w5) := HK4.out.next k5 (fun y hy f => by have h1 := ofP_some f; have h2 := HG.out; omega)
      have HZ5 := toHid k5.size
      obtain ⟨lo, lc, rfl⟩ := hbs5.slice
      have HB5 := toHid hbs5
      have HS5 := toHid hs5
      have HR5 := toHid hR5
      clear J3 hbs5 hs5 hR5 hV5 k5
      generalize hln : r2.length = ln at *
      have HLN := toHid hln
      clear hln
      go_wp2_with fail
      refine J4.mono ?_
      rintro e w6 ⟨mv, rfl, hbs6, hR6, k6⟩
      obtain ⟨mo, mc, rfl⟩ := hbs6.slice
      rw [HLN.out] at hbs6 ⊢
      have HB6 := toHid hbs6
      have HA6 := toHid (HB5.out.keptS k6 (fun y hy e => by have e' : y = w3.heap.size := e; have h2 := HSZ4.out; omega) (fun v zs hr hne y hy e => scr_apart HR5.out hr hne y hy e))
      have hs6 := HS5.out.plain HR5.out k6
      have K6 : Hid (Kept Nought w w6) := K5.out.next k6 (fun y hy f => by have f' : y = w3.heap.size := f; have h2 := HG.out; omega)
      have JL := toHid fun nq => xLeftD (some ⟨g, 0, none⟩) w3.heap.size r4 (w6.drewN nq) (hs6.grew ((Kept.refl _ _).drewN nq))
      obtain ⟨rv, hrv, _⟩ := hR6
      have cr := hrv.cell
      obtain ⟨ro, rn, rc', rfl, hrn, _⟩ := hrv.2.1.open
      have hrn' := hrn.out
      rw [hrn'] at JL
      clear J4 hbs6 hs6 hrv hrn hrn' k6 HB5 HS5 HR5 HS4 HR4
      have hb1 : (r1 != r1) = false := by simp
      go_wp2_with fail
      go_quiet ((go_at_call 9; exact Calls.quiet_of (JL.out _)))
      go_wp2_with fail
      have hlnb : ln ≤ 9223372036854775807 := by rw [← HLN.out]; exact HB6.out.short
      clear cr JL hb1
      go_loopw [85] (fun iv wr => ∃ j : Nat, j ≤ ln ∧ iv = .int .i64 (j : Int) ∧ Hid (Kept Nought w6 wr)) (fun iv _ => ln - (intOf iv).toNat)
      case atStart => exact ⟨0, Nat.zero_le _, rfl, (Kept.refl _ _).drewN _⟩
      case round =>
        obtain ⟨j, hj, rfl, hkj⟩ := hrel
        by_cases hjn : j < ln
        · have g4 : (j : Int) < (ln : Int) := by omega
          have g0 : (0 : Int) ≤ (j : Int) := by omega
          have hjl : j < r2.length := by rw [HLN.out]; exact hjn
          obtain ⟨y1, o1, d3, rfl, c1, hr1⟩ := (HA6.out.grew hkj.out).at hjl
          obtain ⟨y2, o2, d4, rfl, c2, hr2⟩ := (HB6.out.grew hkj.out).at hjl
          have JS := toHid fun nq => rSame _ _ _ _ (wr.drewN nq) (hr1.grew ((Kept.refl _ _).drewN nq)) (hr2.grew ((Kept.refl _ _).drewN nq))
          rw [decide_eq_true rfl] at JS
          clear hjl hr1 hr2
          go_wp2_with fail
          go_quiet ((go_at_call 10; exact Calls.quiet_of (JS.out _)))
          go_wp2_with fail
          go_roundw
          case rel => exact ⟨j + 1, by omega, by go_num, hkj.out.drewN _⟩
          case measure => simp [intOf]; omega
        · have g4 : ¬ (j : Int) < (ln : Int) := by omega
          go_wp2_with fail
          go_ret
          exact ⟨rfl, below_kept (K6.out.trans hkj.out) (Nat.le_refl _)⟩
  · have J1 := fun W => few17a vo L vc W false (decide_eq_false hf).symm
    go_enter Tryz.func3, Tryz.ntmps3
    go_wp2_with fail
    refine J0.mono ?_
    rintro e w1 ⟨rfl, k1⟩
    have k2 := k1.alloc (.cells #[.slice vo L vc] 24)
    have HK2 := toHid k2
    have j1 := J1 w1
    clear J0 k1 k2 J1
    go_wp2_with fail
    refine j1.mono ?_
    rintro e w2 ⟨rfl, rfl⟩
    clear j1
    go_wp2_with fail
    go_ret
    exact ⟨rfl, below_kept HK2.out (Nat.le_refl _)⟩

end Go.Proofs.YtgcbbadakfdcgaaGreatDoor
