/- The walk of the statement on what is padded, of the landed contracts. -/
import Derived.Test.YtegjdjfnpphipaaLaw23
import Derived.Test.YtegjdjfnpphipaaOpenRow
namespace Go.Proofs.Ytegjdjfnpphipaa
open Go.RowKit

set_option maxRecDepth 100000 in
set_option maxHeartbeats 4000000 in
theorem wPadEncodes (hE : DEnc) (hD : DDec) (x : Value) (ms : List Nat) (k : Int) (u : Value) (bs : List Nat) (w : World) (hx : Row .u8 w x ms) (hu : Row .u8 w u bs) (dm : Digs 256 ms) (db : Digs 256 bs) (hk : (Lit.int .i64 k).wf = true) :
    Calls Try.prog 3 #[x, .int .i64 k, u] w fun e w' => e = .returned (.bool true) ∧ Below w.heap.size w w' := by
  obtain ⟨hk0, hk1⟩ := bounds_i64 hk
  obtain ⟨mo, M, mc, rfl, hM, _⟩ := hx.open
  obtain ⟨uo, un, uc, rfl, hul, _⟩ := hu.open
  have J0 := f23Awake hD w
  have HX := toHid hx
  have HU := toHid hu
  have HUL := toHid hul.out
  have HML := toHid hM.out
  have HDM := toHid dm
  have HDB := toHid db
  have HLAND := toHid hE
  have HDEC := toHid hD
  clear hx hu dm db hk hE hD hM hul
  by_cases hf : M ≤ 1200 ∧ un ≤ 1200
  · have HFEW := toHid fun W => few23b mo uo M un mc uc W true (iff_of_true rfl hf)
    have HMN : Hid (M ≤ 1200 ∧ un ≤ 1200) := hf
    clear hf
    go_enter Try.func3, Try.ntmps3
    go_wp2_with fail
    refine J0.mono ?_
    rintro e w1 ⟨rfl, k1⟩
    have HK2 := toHid (k1.alloc (.cells #[.slice mo M mc, .slice uo un uc] 22))
    have J1 := HFEW.out w1
    clear J0 k1
    go_wp2_with fail
    refine J1.mono ?_
    rintro e w2 ⟨rfl, rfl⟩
    generalize w1.alloc (.cells #[.slice mo M mc, .slice uo un uc] 22) = w2 at *
    have J2 := xNew _ _ w2 (HU.out.grew HK2.out) (by have := HUL.out; have := HMN.out; omega)
    clear J1
    go_wp2_with fail
    refine J2.mono ?_
    rintro e w3 ⟨g, rfl, hg, hs3, k3⟩
    have HK3 := toHid (HK2.out.trans k3)
    have HG : Hid (w.heap.size ≤ g ∧ w.heap.size ≤ w3.heap.size) := ⟨Nat.le_trans HK2.out.size hg, HK3.out.size⟩
    obtain ⟨W4, hW4⟩ : ∃ W4, W4 = w3.alloc (.cells #[.slice uo un uc] 29) := ⟨_, rfl⟩
    have k4 : Kept Nought w3 W4 := by rw [hW4]; exact (Kept.refl Nought w3).alloc _
    have hR4 : ScrAt W4 w3.heap.size (w3.heap.size + 1) bs := by rw [hW4]; exact scrNew (HU.out.grew HK3.out)
    have hsz4 : W4.heap.size = w3.heap.size + 1 := by rw [hW4]; simp
    have HK4 := toHid (HK3.out.trans k4)
    have hs4 := hs3.grew k4
    have hB4 : w3.heap.size ≤ W4.heap.size := by omega
    have HW4 := toHid hW4
    have J3 := HLAND.out mo M mc ms k (some ⟨g, 0, none⟩) w3.heap.size bs W4 hk0 hk1 (HX.out.grew HK4.out) HDM.out (by have := HMN.out; omega) hs4 hB4 HDB.out (by have := HUL.out; have := HMN.out; omega)
    have HS4 := toHid hs4
    have HR4 := toHid hR4
    have HSZ4 := toHid hsz4
    clear J2 k3 k4 hs3 hs4 hR4 hB4 hW4 hsz4
    go_wp2_with (rw [← HW4.out])
    refine J3.mono ?_
    rintro e w5 ⟨v5, rfl, ⟨hrow5, _⟩, hs5, k5⟩
    have hR5 := HR4.out.other HS4.out k5
    have hM5 : Row .u8 w5 (.slice mo M mc) ms := (HX.out.grew HK4.out).kept' k5 (fun hne y hy e => by have h1 := ofP_some e; have h2 := HG.out; have h3 := (HX.out.lt hne y hy); omega)
    have J4 := r23Pad mo M mc ms k w3.heap.size (w3.heap.size + 1) bs w5 hM5 (by have := HMN.out; omega) hR5 (by have := HUL.out; have := HMN.out; omega) (by have h1 := k5.size; have h2 := HSZ4.out; omega)
    have K5 : Hid (Kept Nought w w5) := HK4.out.next k5 (fun y hy f => by have h1 := ofP_some f; have h2 := HG.out; omega)
    obtain ⟨vo, vn, vc, rfl, _⟩ := hrow5.open
    have HROW5 := toHid hrow5
    have HS5 := toHid hs5
    have HR5 := toHid hR5
    have HDG := toHid (pdL_digs (k := k) HDM.out HDB.out)
    generalize pdE ms bs k = E at *
    generalize pdL ms bs k = PL at *
    generalize pdR ms bs k = PR at *
    clear J3 hrow5 hs5 hR5 k5 hM5
    go_wp2_with fail
    refine J4.mono ?_
    rintro e w6 ⟨v6, rfl, hown6, hR6, k6⟩
    have hrow6 := hown6.row
    have hrow5 := HROW5.out.kept' k6 (fun hne y hy e => scr_apart8 HR5.out HROW5.out hne y hy e)
    obtain ⟨zo, zn, zc, rfl, _⟩ := hrow6.open
    have hs6 := HS5.out.plain HR5.out k6
    have K6 : Hid (Kept Nought w w6) := K5.out.next k6 (fun y hy f => by have f' : y = w3.heap.size := f; have h2 := HG.out; omega)
    have JL := toHid fun nq => xLeftD (some ⟨g, 0, none⟩) w3.heap.size PR (w6.drewN nq) (hs6.grew ((Kept.refl _ _).drewN nq))
    have JS := toHid fun nq => r13Same _ _ _ _ (w6.drewN nq) (hrow5.grew ((Kept.refl _ _).drewN nq)) (hrow6.grew ((Kept.refl _ _).drewN nq)) HDG.out HDG.out
    rw [decide_eq_true rfl] at JS
    obtain ⟨rv, hrv, _⟩ := hR6
    have cr := hrv.cell
    obtain ⟨ro, rn, rc', rfl, hrn, _⟩ := hrv.2.1.open
    have hrn' := hrn.out
    rw [hrn'] at JL
    clear J4 hrow5 hrow6 hown6 hs6 hrv hrn hrn' k6 HS5 HR5 HS4 HR4 HROW5
    go_wp2_with fail
    go_quiet (first
      | (go_at_call 14; exact Calls.quiet_of (JL.out _))
      | (go_at_call 13; exact Calls.quiet_of ((JS.out _).mono (fun _ _ h => ⟨h.1, 0, h.2⟩))))
    go_wp2_with fail
    go_ret
    exact ⟨rfl, below_kept (K6.out.drewN _) (Nat.le_refl _)⟩
  · have HFEW := toHid fun W => few23b mo uo M un mc uc W false (iff_of_false (by decide) hf)
    go_enter Try.func3, Try.ntmps3
    go_wp2_with fail
    refine J0.mono ?_
    rintro e w1 ⟨rfl, k1⟩
    have HK2 := toHid (k1.alloc (.cells #[.slice mo M mc, .slice uo un uc] 22))
    have J1 := HFEW.out w1
    clear J0 k1 hf
    go_wp2_with fail
    refine J1.mono ?_
    rintro e w2 ⟨rfl, rfl⟩
    clear J1
    go_wp2_with fail
    go_ret
    exact ⟨rfl, below_kept HK2.out (Nat.le_refl _)⟩

end Go.Proofs.Ytegjdjfnpphipaa
