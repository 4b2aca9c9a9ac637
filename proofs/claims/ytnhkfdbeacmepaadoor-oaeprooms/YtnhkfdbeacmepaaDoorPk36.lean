/- Put together of: WOaeEncodes LOaepEncodes WOaeDecodes LOaepDecodes WOaeBack LOaepBack. -/
import Derived.Test.YtnhkfdbeacmepaaDoorPk1
import Derived.Test.YtnhkfdbeacmepaaDoorPk34
import Derived.Test.YtnhkfdbeacmepaaDoorPk35

/- The walk of the statement on what is padded, of the landed contracts. (written by wip/gen/w24.py) -/
namespace Go.Proofs.YtnhkfdbeacmepaaDoor
open Go.RowKit

set_option maxRecDepth 100000 in
set_option maxHeartbeats 4000000 in
theorem wOaepEncodes {T : World → Prop} (hT : Stands T) (hE : OEnc T) (hD : ODec T) (hR : ORoo) (h : Int) (u : Value) (lb : List Nat) (v : Value) (ms : List Nat) (k : Int) (x : Value) (bs : List Nat) (w : World) (hu : Row .u8 w u lb) (hv : Row .u8 w v ms) (hx : Row .u8 w x bs) (dl : Digs 256 lb) (dm : Digs 256 ms) (db : Digs 256 bs) (hh : (Lit.int .i64 h).wf = true) (hk : (Lit.int .i64 k).wf = true) (ht : T w) :
    Calls Tryd.prog 3 #[.int .i64 h, u, v, .int .i64 k, x] w fun e w' => e = .returned (.bool true) ∧ Below w.heap.size w w' := by
  obtain ⟨hh0, hh1⟩ := bounds_i64 hh
  obtain ⟨hk0, hk1⟩ := bounds_i64 hk
  obtain ⟨lo, ll, lc, rfl, hll, _⟩ := hu.open
  obtain ⟨mo, M, mc, rfl, hM, _⟩ := hv.open
  obtain ⟨uo, un, uc, rfl, hul, _⟩ := hx.open
  have J0 := f24Awake hT hE hD hR w ht
  have JF := toHid fun W R hR => few24_3 lo ll lc mo M mc uo un uc W R hR
  have J1 := toHid fun p B W (kk : Kept Nought w W) hs hB (h1 : ll ≤ 10000) (h2 : M ≤ 10000) (h3 : un ≤ 10000) => hE h lo ll lc lb mo M mc ms k p B bs W (hT _ _ ht kk) hh0 hh1 hk0 hk1 (hu.grew kk) dl h1 (hv.grew kk) dm h2 hs hB db (by rw [hul.out]; omega)
  have JS := toHid fun b B W (kk : Kept Nought w W) hs hB (h1 : ll ≤ 10000) (h2 : M ≤ 10000) (h3 : un ≤ 10000) => r23Seal h lo ll lc lb mo M mc ms k b B bs W (hu.grew kk) dl (by omega) (hv.grew kk) dm (by omega) hs db (by rw [hul.out]; omega) hB
  have HV := toHid fun W (kk : Kept Nought w W) => hx.grew kk
  have HUL := toHid hul.out
  have HDG := toHid (seL_digs (h := h) (lb := lb) (k := k) db dm)
  generalize seE h ms bs k = E at *
  generalize seL h lb ms bs k = RL at *
  generalize seR h ms bs k = RR at *
  clear hu hv hx dl dm db hh hh0 hh1 hk hk0 hk1 hT hE hD hR ht hll hM hul
  by_cases hf : ll ≤ 400 ∧ M ≤ 400 ∧ un ≤ 400
  · have HF := toHid fun W => JF.out W true (iff_of_true rfl hf)
    obtain ⟨hf1, hf2, hf3⟩ := hf
    clear JF
    by_cases hk : 500 < k
    · have g1 : k > 500 := hk
      have d1 : decide (500 < k) = true := decide_eq_true hk
      by_cases hk2 : k ≤ 1024
      · have d2 : decide (k ≤ 1024) = true := decide_eq_true hk2
        clear J1 JS HV HUL HDG hf1 hf2 hf3
        go_enter Tryd.func3, Tryd.ntmps3
        go_wp2_with fail
        refine J0.mono ?_
        rintro r w1 ⟨rfl, k1⟩
        have HK2 := toHid (k1.alloc (.cells #[.slice lo ll lc, .slice mo M mc, .slice uo un uc] 22))
        have JA := HF.out w1
        clear J0 k1
        go_wp2_with fail
        refine JA.mono ?_
        rintro r w2 ⟨rfl, rfl⟩
        generalize w1.alloc (.cells #[.slice lo ll lc, .slice mo M mc, .slice uo un uc] 22) = w2 at *
        clear JA
        go_wp2_with fail
        go_ret
        exact ⟨rfl, below_kept HK2.out (Nat.le_refl _)⟩
      · have d2 : decide (k ≤ 1024) = false := decide_eq_false hk2
        go_enter Tryd.func3, Tryd.ntmps3
        go_wp2_with fail
        refine J0.mono ?_
        rintro r w1 ⟨rfl, k1⟩
        have HK2 := toHid (k1.alloc (.cells #[.slice lo ll lc, .slice mo M mc, .slice uo un uc] 22))
        have JA := HF.out w1
        clear J0 k1
        go_wp2_with fail
        refine JA.mono ?_
        rintro r w2 ⟨rfl, rfl⟩
        generalize w1.alloc (.cells #[.slice lo ll lc, .slice mo M mc, .slice uo un uc] 22) = w2 at *
        clear JA
        have J2 := xNew _ _ w2 (HV.out w2 HK2.out) (by have := HUL.out; omega)
        go_wp2_with fail
        refine J2.mono ?_
        rintro r w3 ⟨g, rfl, hg, hs3, k3⟩
        have HK3 := toHid (HK2.out.trans k3)
        obtain ⟨W4, hW4⟩ : ∃ W4, W4 = w3.alloc (.cells #[.slice uo un uc] 29) := ⟨_, rfl⟩
        have k4 : Kept Nought w3 W4 := by rw [hW4]; exact (Kept.refl Nought w3).alloc _
        have hR4 : ScrAt W4 w3.heap.size (w3.heap.size + 1) bs := by rw [hW4]; exact scrNew (HV.out w3 HK3.out)
        have hsz4 : W4.heap.size = w3.heap.size + 1 := by rw [hW4]; simp
        have HK4 := toHid (HK3.out.trans k4)
        have hs4 := hs3.grew k4
        have HW4 := toHid hW4
        have J3 := J1.out (some ⟨g, 0, none⟩) w3.heap.size W4 HK4.out hs4 (by omega) (by omega) (by omega) (by omega)
        have HG : Hid (w.heap.size ≤ g ∧ w.heap.size ≤ w3.heap.size) := ⟨Nat.le_trans HK2.out.size hg, HK3.out.size⟩
        have HS4 := toHid hs4
        have HR4 := toHid hR4
        have HSZ4 := toHid hsz4
        clear J2 k3 k4 hs3 hs4 hR4 hW4 hsz4 J1
        go_wp2_with (rw [← HW4.out])
        refine J3.mono ?_
        rintro r w5 ⟨v5, rfl, ⟨hrow5, hnew5⟩, hs5, k5⟩
        have hR5 := HR4.out.other HS4.out k5
        have K5 : Hid (Kept Nought w w5) := HK4.out.next k5 (fun y hy f => by have h1 := ofP_some f; have h2 := HG.out; omega)
        have J4 := JS.out w3.heap.size (w3.heap.size + 1) w5 K5.out hR5 (by have h1 := k5.size; have h2 := HSZ4.out; omega) (by omega) (by omega) (by omega)
        obtain ⟨vo, vn, vc, rfl, _⟩ := hrow5.open
        have HROW5 := toHid hrow5
        have HNEW5 := toHid hnew5
        have HS5 := toHid hs5
        have HR5 := toHid hR5
        clear J3 hrow5 hnew5 hs5 hR5 k5 JS
        go_wp2_with fail
        refine J4.mono ?_
        rintro r w6 ⟨v6, rfl, ow6, hR6, k6⟩
        have hrow6 := ow6.row
        have hrow5 := HROW5.out.kept k6 (fun y hy f => by have f' : y = w3.heap.size := f; have h1 := HNEW5.out y hy; have h2 := HSZ4.out; omega)
        obtain ⟨zo, zn, zc, rfl, _⟩ := hrow6.open
        have hs6 := HS5.out.plain HR5.out k6
        have K6 : Hid (Kept Nought w w6) := K5.out.next k6 (fun y hy f => by have f' : y = w3.heap.size := f; have h2 := HG.out; omega)
        have JL := toHid fun nq => xLeftD (some ⟨g, 0, none⟩) w3.heap.size RR (w6.drewN nq) (hs6.grew ((Kept.refl _ _).drewN nq))
        have JM : Hid (∀ nq, Calls Tryd.prog 13 #[.slice vo vn vc, .slice zo zn zc] (w6.drewN nq) fun e w' => e = .returned (.bool true) ∧ ∃ m, w' = (w6.drewN nq).drewN m) := fun nq => by
          have h := r13Same _ _ RL RL (w6.drewN nq) (hrow5.grew ((Kept.refl _ _).drewN nq)) (hrow6.grew ((Kept.refl _ _).drewN nq)) HDG.out HDG.out
          rw [decide_eq_true rfl] at h
          exact h.mono fun _ _ ⟨h1, h2⟩ => ⟨h1, 0, by rw [h2]; rfl⟩
        obtain ⟨rv, hrv, _⟩ := hR6
        have cr := hrv.cell
        obtain ⟨ro, rn, rc', rfl, hrn, _⟩ := hrv.2.1.open
        have hrn' := hrn.out
        rw [hrn'] at JL
        clear J4 hrow5 hrow6 ow6 hs6 hrv hrn hrn' k6 HS5 HR5 HS4 HR4 HROW5
        go_wp2_with fail
        go_quiet (first
          | (go_at_call 14; exact Calls.quiet_of (JL.out _))
          | (go_at_call 13; exact Calls.quiet_of (JM.out _)))
        go_wp2_with fail
        go_ret
        exact ⟨by first | rfl | simp, below_kept (K6.out.drewN _) (Nat.le_refl _)⟩
    · have g1 : ¬ k > 500 := hk
      have d1 : decide (500 < k) = false := decide_eq_false hk
      go_enter Tryd.func3, Tryd.ntmps3
      go_wp2_with fail
      refine J0.mono ?_
      rintro r w1 ⟨rfl, k1⟩
      have HK2 := toHid (k1.alloc (.cells #[.slice lo ll lc, .slice mo M mc, .slice uo un uc] 22))
      have JA := HF.out w1
      clear J0 k1
      go_wp2_with fail
      refine JA.mono ?_
      rintro r w2 ⟨rfl, rfl⟩
      generalize w1.alloc (.cells #[.slice lo ll lc, .slice mo M mc, .slice uo un uc] 22) = w2 at *
      clear JA
      have J2 := xNew _ _ w2 (HV.out w2 HK2.out) (by have := HUL.out; omega)
      go_wp2_with fail
      refine J2.mono ?_
      rintro r w3 ⟨g, rfl, hg, hs3, k3⟩
      have HK3 := toHid (HK2.out.trans k3)
      obtain ⟨W4, hW4⟩ : ∃ W4, W4 = w3.alloc (.cells #[.slice uo un uc] 29) := ⟨_, rfl⟩
      have k4 : Kept Nought w3 W4 := by rw [hW4]; exact (Kept.refl Nought w3).alloc _
      have hR4 : ScrAt W4 w3.heap.size (w3.heap.size + 1) bs := by rw [hW4]; exact scrNew (HV.out w3 HK3.out)
      have hsz4 : W4.heap.size = w3.heap.size + 1 := by rw [hW4]; simp
      have HK4 := toHid (HK3.out.trans k4)
      have hs4 := hs3.grew k4
      have HW4 := toHid hW4
      have J3 := J1.out (some ⟨g, 0, none⟩) w3.heap.size W4 HK4.out hs4 (by omega) (by omega) (by omega) (by omega)
      have HG : Hid (w.heap.size ≤ g ∧ w.heap.size ≤ w3.heap.size) := ⟨Nat.le_trans HK2.out.size hg, HK3.out.size⟩
      have HS4 := toHid hs4
      have HR4 := toHid hR4
      have HSZ4 := toHid hsz4
      clear J2 k3 k4 hs3 hs4 hR4 hW4 hsz4 J1
      go_wp2_with (rw [← HW4.out])
      refine J3.mono ?_
      rintro r w5 ⟨v5, rfl, ⟨hrow5, hnew5⟩, hs5, k5⟩
      have hR5 := HR4.out.other HS4.out k5
      have K5 : Hid (Kept Nought w w5) := HK4.out.next k5 (fun y hy f => by have h1 := ofP_some f; have h2 := HG.out; omega)
      have J4 := JS.out w3.heap.size (w3.heap.size + 1) w5 K5.out hR5 (by have h1 := k5.size; have h2 := HSZ4.out; omega) (by omega) (by omega) (by omega)
      obtain ⟨vo, vn, vc, rfl, _⟩ := hrow5.open
      have HROW5 := toHid hrow5
      have HNEW5 := toHid hnew5
      have HS5 := toHid hs5
      have HR5 := toHid hR5
      clear J3 hrow5 hnew5 hs5 hR5 k5 JS
      go_wp2_with fail
      refine J4.mono ?_
      rintro r w6 ⟨v6, rfl, ow6, hR6, k6⟩
      have hrow6 := ow6.row
      have hrow5 := HROW5.out.kept k6 (fun y hy f => by have f' : y = w3.heap.size := f; have h1 := HNEW5.out y hy; have h2 := HSZ4.out; omega)
      obtain ⟨zo, zn, zc, rfl, _⟩ := hrow6.open
      have hs6 := HS5.out.plain HR5.out k6
      have K6 : Hid (Kept Nought w w6) := K5.out.next k6 (fun y hy f => by have f' : y = w3.heap.size := f; have h2 := HG.out; omega)
      have JL := toHid fun nq => xLeftD (some ⟨g, 0, none⟩) w3.heap.size RR (w6.drewN nq) (hs6.grew ((Kept.refl _ _).drewN nq))
      have JM : Hid (∀ nq, Calls Tryd.prog 13 #[.slice vo vn vc, .slice zo zn zc] (w6.drewN nq) fun e w' => e = .returned (.bool true) ∧ ∃ m, w' = (w6.drewN nq).drewN m) := fun nq => by
        have h := r13Same _ _ RL RL (w6.drewN nq) (hrow5.grew ((Kept.refl _ _).drewN nq)) (hrow6.grew ((Kept.refl _ _).drewN nq)) HDG.out HDG.out
        rw [decide_eq_true rfl] at h
        exact h.mono fun _ _ ⟨h1, h2⟩ => ⟨h1, 0, by rw [h2]; rfl⟩
      obtain ⟨rv, hrv, _⟩ := hR6
      have cr := hrv.cell
      obtain ⟨ro, rn, rc', rfl, hrn, _⟩ := hrv.2.1.open
      have hrn' := hrn.out
      rw [hrn'] at JL
      clear J4 hrow5 hrow6 ow6 hs6 hrv hrn hrn' k6 HS5 HR5 HS4 HR4 HROW5
      go_wp2_with fail
      go_quiet (first
        | (go_at_call 14; exact Calls.quiet_of (JL.out _))
        | (go_at_call 13; exact Calls.quiet_of (JM.out _)))
      go_wp2_with fail
      go_ret
      exact ⟨by first | rfl | simp, below_kept (K6.out.drewN _) (Nat.le_refl _)⟩
  · have HF := toHid fun W => JF.out W false (iff_of_false (by decide) hf)
    clear JF J1 JS HV HUL HDG hf
    go_enter Tryd.func3, Tryd.ntmps3
    go_wp2_with fail
    refine J0.mono ?_
    rintro r w1 ⟨rfl, k1⟩
    have HK2 := toHid (k1.alloc (.cells #[.slice lo ll lc, .slice mo M mc, .slice uo un uc] 22))
    have JA := HF.out w1
    clear J0 k1
    go_wp2_with fail
    refine JA.mono ?_
    rintro r w2 ⟨rfl, rfl⟩
    generalize w1.alloc (.cells #[.slice lo ll lc, .slice mo M mc, .slice uo un uc] 22) = w2 at *
    clear JA
    go_wp2_with fail
    go_ret
    exact ⟨rfl, below_kept HK2.out (Nat.le_refl _)⟩

end Go.Proofs.YtnhkfdbeacmepaaDoor


/- The law OaepEncodes, walked. -/
namespace Go.Proofs.YtnhkfdbeacmepaaDoor
open Go.RowKit

theorem walkOaepEncodes (h : Int) (u : Value) (lb : List Nat) (v : Value) (ms : List Nat) (k : Int) (x : Value) (bs : List Nat) (w : World) (hu : Row .u8 w u lb) (hv : Row .u8 w v ms) (hx : Row .u8 w x bs) (dl : Digs 256 lb) (dm : Digs 256 ms) (db : Digs 256 bs) (hh : (Lit.int .i64 h).wf = true) (hk : (Lit.int .i64 k).wf = true) (ht : TabH w) :
    Calls Tryd.prog 3 #[.int .i64 h, u, v, .int .i64 k, x] w fun e w' => e = .returned (.bool true) ∧ Below w.heap.size w w' :=
  wOaepEncodes oStands zEnc oDec oRoo h u lb v ms k x bs w hu hv hx dl dm db hh hk ht

end Go.Proofs.YtnhkfdbeacmepaaDoor


/- The walk of the statement on bytes taken apart, of the landed contracts. (written by wip/gen/w24.py) -/
namespace Go.Proofs.YtnhkfdbeacmepaaDoor
open Go.RowKit

set_option maxRecDepth 100000 in
set_option maxHeartbeats 4000000 in
theorem wOaepDecodes {T : World → Prop} (hT : Stands T) (hE : OEnc T) (hD : ODec T) (hR : ORoo) (h : Int) (u : Value) (lb : List Nat) (v : Value) (em : List Nat) (w : World) (hu : Row .u8 w u lb) (hv : Row .u8 w v em) (dl : Digs 256 lb) (de : Digs 256 em) (hh : (Lit.int .i64 h).wf = true) (ht : T w) :
    Calls Tryd.prog 4 #[.int .i64 h, u, v] w fun e w' => e = .returned (.bool true) ∧ Below w.heap.size w w' := by
  obtain ⟨hh0, hh1⟩ := bounds_i64 hh
  obtain ⟨lo, ll, lc, rfl, hll, _⟩ := hu.open
  obtain ⟨eo, L, ec, rfl, hL, _⟩ := hv.open
  have J0 := f24Awake hT hE hD hR w ht
  have JF := toHid fun W R hR => few24_1 lo ll lc W R hR
  have J1 := toHid fun W (k : Kept Nought w W) (h1 : ll ≤ 10000) (h2 : L ≤ 10000) => hD h lo ll lc lb eo L ec em W (hT _ _ ht k) hh0 hh1 (hu.grew k) dl h1 (hv.grew k) de h2
  have J2 := toHid fun W (k : Kept Nought w W) (h1 : ll ≤ 1000000) (h2 : L ≤ 1000000) => r23Open h lo ll lc lb eo L ec em W (hu.grew k) dl h1 (hv.grew k) de h2
  have HDG := toHid (opL_digs (h := h) (lb := lb) de)
  generalize opE h lb em = E at *
  generalize opL h lb em = RL at *
  clear hu hv dl de hh hh0 hh1 hT hE hD hR ht hll hL
  have HSTOP : Hid (¬ (ll ≤ 400 ∧ (L ≤ 500 ∨ L = 1025)) → ll ≤ 400 → 500 < L ∧ L ≠ 1025) := fun h1 h2 => by omega
  by_cases hf : ll ≤ 400
  · have HF := toHid fun W => JF.out W true (iff_of_true rfl hf)
    clear JF
    by_cases hL : L ≤ 500 ∨ L = 1025
    · rcases hL with hL | rfl
      · have g1 : ¬ (L : Int) > 500 := by omega
        have g1' : ¬ (500 : Int) < (L : Int) := by omega
        have d1 : decide ((500 : Int) < (L : Int)) = false := decide_eq_false g1'
        clear HSTOP
        go_enter Tryd.func4, Tryd.ntmps4
        go_wp2_with fail
        refine J0.mono ?_
        rintro r w1 ⟨rfl, k1⟩
        have HK2 := toHid (k1.alloc (.cells #[.slice lo ll lc] 22))
        have JA := HF.out w1
        clear J0 k1
        go_wp2_with fail
        refine JA.mono ?_
        rintro r w2 ⟨rfl, rfl⟩
        generalize w1.alloc (.cells #[.slice lo ll lc] 22) = w3 at *
        have JB := J1.out w3 HK2.out (by omega) (by omega)
        clear JA J1
        go_wp2_with fail
        refine JB.mono ?_
        rintro r w4 ⟨v4, rfl, ⟨r4, _⟩, k4⟩
        obtain ⟨o4, n4, c4, rfl, _⟩ := r4.open
        have HR4 := toHid r4
        have HK4 := toHid (HK2.out.trans k4)
        have JC := J2.out w4 HK4.out (by omega) (by omega)
        clear JB r4 k4 J2
        go_wp2_with fail
        refine JC.mono ?_
        rintro r w5 ⟨v5, rfl, ow5, k5⟩
        have r5 := ow5.row
        obtain ⟨o5, n5, c5, rfl, _⟩ := r5.open
        have HK5 := toHid (HK4.out.trans k5)
        have JM := r13Same _ _ RL RL w5 (HR4.out.grew k5) r5 HDG.out HDG.out
        rw [decide_eq_true rfl] at JM
        clear JC r5 ow5 k5
        go_wp2_with fail
        refine JM.mono ?_
        rintro r w6 ⟨rfl, rfl⟩
        clear JM
        go_wp2_with fail
        go_ret
        exact ⟨by first | rfl | simp, below_kept HK5.out (Nat.le_refl _)⟩
      · clear HSTOP
        go_enter Tryd.func4, Tryd.ntmps4
        go_wp2_with fail
        refine J0.mono ?_
        rintro r w1 ⟨rfl, k1⟩
        have HK2 := toHid (k1.alloc (.cells #[.slice lo ll lc] 22))
        have JA := HF.out w1
        clear J0 k1
        go_wp2_with fail
        refine JA.mono ?_
        rintro r w2 ⟨rfl, rfl⟩
        generalize w1.alloc (.cells #[.slice lo ll lc] 22) = w3 at *
        have JB := J1.out w3 HK2.out (by omega) (by omega)
        clear JA J1
        go_wp2_with fail
        refine JB.mono ?_
        rintro r w4 ⟨v4, rfl, ⟨r4, _⟩, k4⟩
        obtain ⟨o4, n4, c4, rfl, _⟩ := r4.open
        have HR4 := toHid r4
        have HK4 := toHid (HK2.out.trans k4)
        have JC := J2.out w4 HK4.out (by omega) (by omega)
        clear JB r4 k4 J2
        go_wp2_with fail
        refine JC.mono ?_
        rintro r w5 ⟨v5, rfl, ow5, k5⟩
        have r5 := ow5.row
        obtain ⟨o5, n5, c5, rfl, _⟩ := r5.open
        have HK5 := toHid (HK4.out.trans k5)
        have JM := r13Same _ _ RL RL w5 (HR4.out.grew k5) r5 HDG.out HDG.out
        rw [decide_eq_true rfl] at JM
        clear JC r5 ow5 k5
        go_wp2_with fail
        refine JM.mono ?_
        rintro r w6 ⟨rfl, rfl⟩
        clear JM
        go_wp2_with fail
        go_ret
        exact ⟨by first | rfl | simp, below_kept HK5.out (Nat.le_refl _)⟩
    · have g1 : (L : Int) > 500 := by omega
      have g1' : (500 : Int) < (L : Int) := by omega
      have d1 : decide ((500 : Int) < (L : Int)) = true := decide_eq_true g1'
      have g2 : ¬ (L : Int) = 1025 := by omega
      have d2 : ((L : Int) != 1025) = true := by simp; omega
      clear hL HSTOP J1 J2
      go_enter Tryd.func4, Tryd.ntmps4
      go_wp2_with fail
      refine J0.mono ?_
      rintro r w1 ⟨rfl, k1⟩
      have HK2 := toHid (k1.alloc (.cells #[.slice lo ll lc] 22))
      have JA := HF.out w1
      clear J0 k1
      go_wp2_with fail
      refine JA.mono ?_
      rintro r w2 ⟨rfl, rfl⟩
      clear JA
      go_wp2_with fail
      go_ret
      exact ⟨rfl, below_kept HK2.out (Nat.le_refl _)⟩
  · have HF := toHid fun W => JF.out W false (iff_of_false (by decide) hf)
    clear JF J1 J2 hf HSTOP
    go_enter Tryd.func4, Tryd.ntmps4
    go_wp2_with fail
    refine J0.mono ?_
    rintro r w1 ⟨rfl, k1⟩
    have HK2 := toHid (k1.alloc (.cells #[.slice lo ll lc] 22))
    have JA := HF.out w1
    clear J0 k1
    go_wp2_with fail
    refine JA.mono ?_
    rintro r w2 ⟨rfl, rfl⟩
    clear JA
    go_wp2_with fail
    go_ret
    exact ⟨rfl, below_kept HK2.out (Nat.le_refl _)⟩

end Go.Proofs.YtnhkfdbeacmepaaDoor


/- The law OaepDecodes, walked. -/
namespace Go.Proofs.YtnhkfdbeacmepaaDoor
open Go.RowKit

theorem walkOaepDecodes (h : Int) (u : Value) (lb : List Nat) (v : Value) (em : List Nat) (w : World) (hu : Row .u8 w u lb) (hv : Row .u8 w v em) (dl : Digs 256 lb) (de : Digs 256 em) (hh : (Lit.int .i64 h).wf = true) (ht : TabH w) :
    Calls Tryd.prog 4 #[.int .i64 h, u, v] w fun e w' => e = .returned (.bool true) ∧ Below w.heap.size w w' :=
  wOaepDecodes oStands zEnc oDec oRoo h u lb v em w hu hv dl de hh ht

end Go.Proofs.YtnhkfdbeacmepaaDoor


/- The walk of the statement on what comes back, of the landed contracts. (written by wip/gen/w24.py) -/
namespace Go.Proofs.YtnhkfdbeacmepaaDoor
open Go.RowKit

set_option maxRecDepth 100000 in
set_option maxHeartbeats 4000000 in
theorem wOaepBack {T : World → Prop} (hT : Stands T) (hE : OEnc T) (hD : ODec T) (hR : ORoo) (h : Int) (u : Value) (lb : List Nat) (v : Value) (ms : List Nat) (k : Int) (x : Value) (bs : List Nat) (y : Value) (ob : List Nat) (w : World) (hu : Row .u8 w u lb) (hv : Row .u8 w v ms) (hx : Row .u8 w x bs) (hy : Row .u8 w y ob) (dl : Digs 256 lb) (dm : Digs 256 ms) (db : Digs 256 bs) (dob : Digs 256 ob) (hh : (Lit.int .i64 h).wf = true) (hk : (Lit.int .i64 k).wf = true) (ht : T w) :
    Calls Tryd.prog 6 #[.int .i64 h, u, v, .int .i64 k, x, y] w fun e w' => e = .returned (.bool true) ∧ Below w.heap.size w w' := by
  obtain ⟨hh0, hh1⟩ := bounds_i64 hh
  obtain ⟨hk0, hk1⟩ := bounds_i64 hk
  obtain ⟨lo, ll, lc, rfl, hll, _⟩ := hu.open
  obtain ⟨mo, M, mc, rfl, hM, _⟩ := hv.open
  obtain ⟨uo, un, uc, rfl, hul, _⟩ := hx.open
  obtain ⟨xo, xl, xc, rfl, hxl, _⟩ := hy.open
  have J0 := f24Awake hT hE hD hR w ht
  have JF := toHid fun W R hR => few24_4 lo ll lc mo M mc uo un uc xo xl xc W R hR
  have J1 := toHid fun p B W (kk : Kept Nought w W) hs hB (h1 : ll ≤ 10000) (h2 : M ≤ 10000) (h3 : un ≤ 10000) => hE h lo ll lc lb mo M mc ms k p B bs W (hT _ _ ht kk) hh0 hh1 hk0 hk1 (hu.grew kk) dl h1 (hv.grew kk) dm h2 hs hB db (by rw [hul.out]; omega)
  have JD := toHid fun (ao : Option Addr) (al ac : Nat) (la : List Nat) (eo : Option Addr) (L ec : Nat) W (kk : Kept Nought w W) (hla : Row .u8 W (.slice ao al ac) la) (hal : al ≤ 10000) (dla : Digs 256 la) (hem : Row .u8 W (.slice eo L ec) (seL h lb ms bs k)) (hL : L ≤ 10000) => hD h ao al ac la eo L ec (seL h lb ms bs k) W (hT _ _ ht kk) hh0 hh1 hla dla hal hem (seL_digs db dm) hL
  have JSU := toHid fun (ao : Option Addr) (al ac : Nat) (la : List Nat) W (_ : Kept Nought w W) (hla : Row .u8 W (.slice ao al ac) la) dla (hal : al ≤ 1000000) => r13Sum h (.slice ao al ac) la W hla dla (by obtain ⟨_, _, _, e1, hl, _⟩ := hla.open; cases e1; rw [hl.out]; exact hal)
  have HV := toHid fun W (kk : Kept Nought w W) => hx.grew kk
  have HLB := toHid fun W (kk : Kept Nought w W) => hu.grew kk
  have HMS := toHid fun W (kk : Kept Nought w W) => hv.grew kk
  have HOB := toHid fun W (kk : Kept Nought w W) => hy.grew kk
  have HUL := toHid hul.out
  have HDL := toHid dl
  have HDM := toHid dm
  have HDO := toHid dob
  have HBK : Hid (seE h ms bs k = 0 → ((seL h lb ms bs k).length : Int) = k ∧ (opE h lb (seL h lb ms bs k) = 0 ∧ opL h lb (seL h lb ms bs k) = ms) ∧ ((hshN h ob = hshN h lb → opE h ob (seL h lb ms bs k) = 0 ∧ opL h ob (seL h lb ms bs k) = ms) ∧ (hshN h ob ≠ hshN h lb → opE h ob (seL h lb ms bs k) = 230))) := fun e => ⟨(oae_open e).2.2.2.1, (oae_back e lb).1 rfl, oae_back e ob⟩
  have HNO : Hid (seE h ms bs k ≠ 0 → (seL h lb ms bs k).length = 0) := fun e => by unfold seL; rw [if_neg e]; rfl
  generalize seE h ms bs k = E at *
  generalize seL h lb ms bs k = RL at *
  generalize seR h ms bs k = RR at *
  clear hu hv hx hy dl dm db dob hh hk hT hE hD hR ht hll hM hul hxl
  by_cases hf : ll ≤ 400 ∧ M ≤ 400 ∧ un ≤ 400 ∧ xl ≤ 400
  · have HF := toHid fun W => JF.out W true (iff_of_true rfl hf)
    obtain ⟨hf1, hf2, hf3, hf4⟩ := hf
    clear JF
    by_cases hk : 500 < k
    · have g1 : k > 500 := hk
      have d1 : decide (500 < k) = true := decide_eq_true hk
      clear J1 JD JSU HV HUL HBK HNO hf1 hf2 hf3 hf4
      go_enter Tryd.func6, Tryd.ntmps6
      go_wp2_with fail
      refine J0.mono ?_
      rintro r w1 ⟨rfl, k1⟩
      have HK2 := toHid (k1.alloc (.cells #[.slice lo ll lc, .slice mo M mc, .slice uo un uc, .slice xo xl xc] 22))
      have JA := HF.out w1
      clear J0 k1
      go_wp2_with fail
      refine JA.mono ?_
      rintro r w2 ⟨rfl, rfl⟩
      generalize w1.alloc (.cells #[.slice lo ll lc, .slice mo M mc, .slice uo un uc, .slice xo xl xc] 22) = w2 at *
      clear JA
      go_wp2_with fail
      go_ret
      exact ⟨rfl, below_kept HK2.out (Nat.le_refl _)⟩
    · have g1 : ¬ k > 500 := hk
      have d1 : decide (500 < k) = false := decide_eq_false hk
      go_enter Tryd.func6, Tryd.ntmps6
      go_wp2_with fail
      refine J0.mono ?_
      rintro r w1 ⟨rfl, k1⟩
      have HK2 := toHid (k1.alloc (.cells #[.slice lo ll lc, .slice mo M mc, .slice uo un uc, .slice xo xl xc] 22))
      have JA := HF.out w1
      clear J0 k1
      go_wp2_with fail
      refine JA.mono ?_
      rintro r w2 ⟨rfl, rfl⟩
      generalize w1.alloc (.cells #[.slice lo ll lc, .slice mo M mc, .slice uo un uc, .slice xo xl xc] 22) = w2 at *
      clear JA
      have J2 := xNew _ _ w2 (HV.out w2 HK2.out) (by have := HUL.out; omega)
      go_wp2_with fail
      refine J2.mono ?_
      rintro r w3 ⟨g, rfl, hg, hs3, k3⟩
      have HK3 := toHid (HK2.out.trans k3)
      have HG : Hid (w.heap.size ≤ g) := Nat.le_trans HK2.out.size hg
      have J3 := J1.out (some ⟨g, 0, none⟩) w3.heap.size w3 HK3.out hs3 (Nat.le_refl _) (by omega) (by omega) (by omega)
      clear J2 k3 hs3 hg J1
      go_wp2_with fail
      refine J3.mono ?_
      rintro r w4 ⟨v4, rfl, ⟨r4, _⟩, _, k4⟩
      obtain ⟨vo, vn, vc, rfl, hl4, _, _, _, _⟩ := r4.open
      have HK4 : Hid (Kept Nought w w4) := HK3.out.next k4 (fun y hy f => by have h1 := ofP_some f; have h2 := HG.out; omega)
      have HR4 := toHid r4
      have HL4 := toHid hl4.out
      clear J3 r4 k4 hl4
      by_cases hE : E = 0
      · obtain ⟨hlen, b1, b2⟩ := HBK.out hE
        subst hE
        have hvn : (vn : Int) = k := by rw [← HL4.out]; exact hlen
        have hvb : vn ≤ 10000 := by omega
        obtain ⟨ha0, ha1⟩ := b1
        have JD1 := JD.out lo ll lc lb vo vn vc w4 HK4.out (HLB.out _ HK4.out) (by omega) HDL.out HR4.out hvb
        rw [ha0, ha1] at JD1
        have HVN := toHid hvn
        have hne : ¬ (vn : Int) ≠ k := by omega
        have hnb : ((vn : Int) != k) = false := by simpa using hvn
        clear hlen hvn ha0 ha1
        go_wp2_with fail
        refine JD1.mono ?_
        rintro r w5 ⟨v5, rfl, ⟨r5, _⟩, k5⟩
        obtain ⟨o5, n5, c5, rfl, _⟩ := r5.open
        have HR5 := toHid r5
        have HK5 := toHid (HK4.out.trans k5)
        have JD2 := JD.out xo xl xc ob vo vn vc w5 HK5.out (HOB.out _ HK5.out) (by omega) HDO.out (HR4.out.grew k5) hvb
        clear JD1 r5 k5
        go_wp2_with fail
        refine JD2.mono ?_
        rintro r w6 ⟨v6, rfl, ⟨r6, _⟩, k6⟩
        obtain ⟨o6, n6, c6, rfl, hl6, _, _, _, _⟩ := r6.open
        have HR6 := toHid r6
        have HL6 := toHid hl6.out
        have HK6 := toHid (HK5.out.trans k6)
        have JM := r13Same _ _ ms ms w6 (HR5.out.grew k6) (HMS.out _ HK6.out) HDM.out HDM.out
        rw [decide_eq_true rfl] at JM
        clear JD2 r6 k6 hl6 JD
        go_wp2_with fail
        refine JM.mono ?_
        rintro r w7 ⟨rfl, rfl⟩
        clear JM
        have JS1 := JSU.out lo ll lc lb w7 HK6.out (HLB.out _ HK6.out) HDL.out (by omega)
        go_wp2_with fail
        refine JS1.mono ?_
        rintro r w8 ⟨v8, rfl, ow8, k8⟩
        have r8 := ow8.row
        obtain ⟨o8, n8, c8, rfl, _⟩ := r8.open
        have HK8 := toHid (HK6.out.trans k8)
        have HR8 := toHid r8
        have HR6a := toHid (HR6.out.grew k8)
        have JS2 := JSU.out xo xl xc ob w8 HK8.out (HOB.out _ HK8.out) HDO.out (by omega)
        clear JS1 r8 ow8 k8
        go_wp2_with fail
        refine JS2.mono ?_
        rintro r w9 ⟨v9, rfl, ow9, k9⟩
        have r9 := ow9.row
        obtain ⟨o9, n9, c9, rfl, _⟩ := r9.open
        have HK9 := toHid (HK8.out.trans k9)
        have HR9 := toHid r9
        have HR6b := toHid (HR6a.out.grew k9)
        have JT := r13Same _ _ (hshN h lb) (hshN h ob) w9 (HR8.out.grew k9) r9 (hshN_digs _ _) (hshN_digs _ _)
        clear JS2 r9 ow9 k9 JSU
        by_cases hs : hshN h lb = hshN h ob
        · obtain ⟨c1, c2⟩ := b2.1 hs.symm
          rw [decide_eq_true hs] at JT
          have JZ := r13Same _ _ ms ms w9 (by rw [← c2]; exact HR6b.out) (HMS.out _ HK9.out) HDM.out HDM.out
          rw [decide_eq_true rfl] at JZ
          rw [c1]
          clear c1 c2 hs
          go_wp2_with fail
          refine JT.mono ?_
          rintro r w10 ⟨rfl, rfl⟩
          clear JT
          go_wp2_with fail
          refine JZ.mono ?_
          rintro r w11 ⟨rfl, rfl⟩
          clear JZ
          go_wp2_with fail
          go_ret
          exact ⟨by first | rfl | simp, below_kept HK9.out (Nat.le_refl _)⟩
        · have c1 := b2.2 (fun e => hs e.symm)
          rw [decide_eq_false hs] at JT
          have hn6 : n6 = 0 := by
            have h1 := HL6.out
            unfold opL at h1
            rw [if_neg (by rw [c1]; decide)] at h1
            exact h1.symm
          subst hn6
          rw [c1]
          clear c1 hs
          go_wp2_with fail
          refine JT.mono ?_
          rintro r w10 ⟨rfl, rfl⟩
          clear JT
          go_wp2_with fail
          go_ret
          exact ⟨by first | rfl | simp, below_kept HK9.out (Nat.le_refl _)⟩
      · have hv0 : vn = 0 := by
          rw [← HL4.out]
          exact HNO.out hE
        subst hv0
        have g5 : ¬ (E : Int) = 0 := by omega
        have d5 : ((E : Int) != 0) = true := by simp; omega
        clear hE
        go_wp2_with fail
        go_ret
        exact ⟨by first | rfl | simp, below_kept HK4.out (Nat.le_refl _)⟩
  · have HF := toHid fun W => JF.out W false (iff_of_false (by decide) hf)
    clear JF J1 JD JSU HV HUL HBK HNO hf
    go_enter Tryd.func6, Tryd.ntmps6
    go_wp2_with fail
    refine J0.mono ?_
    rintro r w1 ⟨rfl, k1⟩
    have HK2 := toHid (k1.alloc (.cells #[.slice lo ll lc, .slice mo M mc, .slice uo un uc, .slice xo xl xc] 22))
    have JA := HF.out w1
    clear J0 k1
    go_wp2_with fail
    refine JA.mono ?_
    rintro r w2 ⟨rfl, rfl⟩
    generalize w1.alloc (.cells #[.slice lo ll lc, .slice mo M mc, .slice uo un uc, .slice xo xl xc] 22) = w2 at *
    clear JA
    go_wp2_with fail
    go_ret
    exact ⟨rfl, below_kept HK2.out (Nat.le_refl _)⟩

end Go.Proofs.YtnhkfdbeacmepaaDoor


/- The law OaepBack, walked. -/
namespace Go.Proofs.YtnhkfdbeacmepaaDoor
open Go.RowKit

theorem walkOaepBack (h : Int) (u : Value) (lb : List Nat) (v : Value) (ms : List Nat) (k : Int) (x : Value) (bs : List Nat) (y : Value) (ob : List Nat) (w : World) (hu : Row .u8 w u lb) (hv : Row .u8 w v ms) (hx : Row .u8 w x bs) (hy : Row .u8 w y ob) (dl : Digs 256 lb) (dm : Digs 256 ms) (db : Digs 256 bs) (dob : Digs 256 ob) (hh : (Lit.int .i64 h).wf = true) (hk : (Lit.int .i64 k).wf = true) (ht : TabH w) :
    Calls Tryd.prog 6 #[.int .i64 h, u, v, .int .i64 k, x, y] w fun e w' => e = .returned (.bool true) ∧ Below w.heap.size w w' :=
  wOaepBack oStands zEnc oDec oRoo h u lb v ms k x bs y ob w hu hv hx hy dl dm db dob hh hk ht

end Go.Proofs.YtnhkfdbeacmepaaDoor

