/- The law PowerTables, walked. -/
import Derived.Test.YtoieghgaahfciaaGreatLaw8
import Derived.Test.YtoieghgaahfciaaGreatOpenRow
namespace Go.Proofs.YtoieghgaahfciaaGreat
open Go.RowKit

theorem powJ_mon (X V L j : Nat) : powJ X V L j = digs 18446744073709551616 (mon L V (X ^ j)) L := by
  unfold powJ
  rw [show 2 ^ (64 * L) * (X ^ j % V) % V = mon L V (X ^ j % V) from rfl, mon_mod]

theorem Grows.at16 {w : World} {base : Nat} {L g c : Nat} {A : Nat → Option Addr} {C : Nat → Nat} {f : Nat → List Nat} (h : Grows w base (.slice (some ⟨g, 0, none⟩) 16 c) L 16 A C f) {j : Nat} (hj : j < 16) : w.cell? ⟨g, j, none⟩ = some (.slice (A j) L (C j)) := by
  rw [World.ownsRow.cellAt h.1 j (by omega), List.getElem?_map, List.getElem?_range hj]
  rfl

set_option maxRecDepth 20000 in
set_option maxHeartbeats 2000000 in
theorem walkPowerTables (u : Value) (ms : List Nat) (k : Int) (v : Value) (rs : List Nat) (x : Value) (xs : List Nat) (w : World) (hu : Row .u64 w u ms) (hv : Row .u64 w v rs) (hx : Row .u64 w x xs) (hdm : Digs 18446744073709551616 ms) (hdr : Digs 18446744073709551616 rs) (hdx : Digs 18446744073709551616 xs) (hb : (Lit.int .u64 k).wf = true) :
    Calls Tryz.prog 4 #[.agg #[u, .int .u64 k, v], x] w fun e w' => e = .returned (.bool true) ∧ Below w.heap.size w w' := by
  obtain ⟨K, rfl, hK⟩ : ∃ D : Nat, k = (D : Int) ∧ D < 18446744073709551616 := by
    have := wf_u64 k hb
    exact ⟨k.toNat, by omega, by omega⟩
  obtain ⟨ao, L, cap, rfl, hL, _, _, _, _⟩ := hu.open
  obtain ⟨bo, M, dap, rfl, hM, _, _, _, _⟩ := hv.open
  obtain ⟨xo, N1, xc, rfl, hLN1, _, _, _, _⟩ := hx.open
  obtain ⟨W, hW⟩ : ∃ W, W = w.alloc (.cells #[.slice ao L cap, .int .u64 (K : Nat), .slice bo M dap] 26) := ⟨_, rfl⟩
  have k0 : Kept Nought w W := by rw [hW]; exact (Kept.refl Nought w).alloc _
  have hx0 : W.heap[w.heap.size]? = some (.cells #[.slice ao L cap, .int .u64 (K : Nat), .slice bo M dap] 26 (0, 0)) := by rw [hW]; exact heap_alloc_new _ _
  have hA := f8Awake W
  have JC : Hid (∀ W', Kept Nought W W' → W'.cell? ⟨w.heap.size, 0, none⟩ = some (.slice ao L cap) ∧ W'.cell? ⟨w.heap.size, 1, none⟩ = some (.int .u64 (K : Nat)) ∧ W'.cell? ⟨w.heap.size, 2, none⟩ = some (.slice bo M dap)) := fun W' k => cells3 ((k.block _ (lt_of_block hx0) (fun f => f)).trans hx0)
  have HW := toHid hW
  have HK0 := toHid k0
  obtain ⟨R, hR⟩ : ∃ R : Bool, R = decide (((L ≤ 40 ∧ M ≤ 40) ∧ N1 ≤ 40) ∧ L ≤ 10 ∧ (0 ≤ 6 ∨ 0 = 301)) := ⟨_, rfl⟩
  have JF : Hid (∀ W', Kept Nought W W' → Calls Tryz.prog 8 #[.agg #[.slice ao L cap, .int .u64 (K : Nat), .slice bo M dap], .slice xo N1 xc, .slice none 0 0] W' fun r w' => r = .returned (.bool R) ∧ Kept Nought W w') := fun W' k => by
    refine (f8Few ao bo xo none L M N1 0 cap dap xc 0 (K : Nat) W' R hR).mono ?_
    rintro e w' ⟨rfl, k'⟩
    exact ⟨rfl, k.trans k'⟩
  by_cases h4 : ((L ≤ 40 ∧ M ≤ 40) ∧ N1 ≤ 40) ∧ L ≤ 10 ∧ (0 ≤ 6 ∨ 0 = 301)
  · obtain rfl : R = true := by rw [hR]; exact decide_eq_true h4
    have hL10 : L ≤ 300 := by have := h4.2.1; omega
    have hL6 : L ≤ 1000000 := by omega
    by_cases hP : okMod ms K rs ∧ (N1 = L ∧ val 18446744073709551616 xs < val 18446744073709551616 ms)
    · have J1 : Hid (∀ W', Kept Nought W W' → Calls Tryz.prog 12 #[.pointer none, .agg #[.slice ao L cap, .int .u64 (K : Nat), .slice bo M dap], .slice xo N1 xc] W' fun e w' => ∃ g c, e = .returned (.tuple #[.slice (some ⟨g, 0, none⟩) 16 c, .int .i64 0]) ∧ ∃ (A : Nat → Option Addr) (C : Nat → Nat), (∀ j, j < 16 → w'.cell? ⟨g, j, none⟩ = some (.slice (A j) L (C j)) ∧ Row .u64 w' (.slice (A j) L (C j)) (powJ (val 18446744073709551616 xs) (val 18446744073709551616 ms) L j)) ∧ Kept Nought W' w') := fun W' k => by
        refine (table8 ao bo xo L M K cap dap N1 xc ms rs xs 0 ⟨fun _ => hP, fun _ => rfl⟩ (by omega) W' (hu.grew (k0.trans k)) (hv.grew (k0.trans k)) (hx.grew (k0.trans k)) hdm hdr hdx hK hL10).mono ?_
        rintro e w' ⟨zo, zn, zc, rfl, ⟨_, b0, g, c, A, C, e1, h1, h2⟩ | ⟨h1, _⟩, kk⟩
        · cases e1
          refine ⟨g, _, rfl, A, C, fun j hj => ⟨?_, ?_⟩, kk⟩
          · rw [World.ownsRow.cellAt h1 j (by omega), List.getElem?_map, List.getElem?_range hj]
            rfl
          · rw [powJ_mon]
            exact (h2 j hj).1.1
        · omega
      have J2 : Hid (∀ W', Kept Nought W W' → Calls Tryz.prog 13 #[.agg #[.slice ao L cap, .int .u64 (K : Nat), .slice bo M dap], .slice xo N1 xc] W' fun e w' => ∃ g c, e = .returned (.tuple #[.slice (some ⟨g, 0, none⟩) 16 c, .int .i64 0]) ∧ ∃ (A : Nat → Option Addr) (C : Nat → Nat), (∀ j, j < 16 → w'.cell? ⟨g, j, none⟩ = some (.slice (A j) L (C j)) ∧ Row .u64 w' (.slice (A j) L (C j)) (powJ (val 18446744073709551616 xs) (val 18446744073709551616 ms) L j)) ∧ Kept Nought W' w') := fun W' k => by
        refine (q8Table ao bo xo L M N1 cap dap xc K ms rs xs hP.1 hP.2 W' (hu.grew (k0.trans k)) (hv.grew (k0.trans k)) (hx.grew (k0.trans k)) hdm hdx hL6).mono ?_
        rintro e w' ⟨v', rfl, ⟨A, C, hG⟩, kk⟩
        have hG1 := hG.1
        rcases hG1.2 with ⟨_, h0⟩ | ⟨g, c, cur, rfl, _⟩
        · omega
        · exact ⟨g, c, rfl, A, C, fun j hj => ⟨hG.at16 hj, (hG.2 j hj).1⟩, kk⟩
      have JS : Hid (∀ W' (u v : Value) (l : List Nat), Row .u64 W' u l → Row .u64 W' v l → Calls Tryz.prog 11 #[u, v] W' fun r w' => r = .returned (.bool true) ∧ Kept Nought W' w') := fun W' u v l h1 h2 => by
        refine (rSame u v l l W' h1 h2).mono ?_
        rintro e w' ⟨rfl, n, rfl⟩
        exact ⟨by rw [decide_eq_true rfl], (Kept.refl Nought W').drewN n⟩
      clear hu hv hx hdm hdr hdx hb hK hR hx0 hW k0 hL hM hLN1 hP hL10 hL6
      go_enter Tryz.func4, Tryz.ntmps4
      go_wp2_with (rw [← HW.out])
      refine hA.mono ?_
      rintro e w1 ⟨rfl, k1⟩
      obtain ⟨p0, p1, p2⟩ := JC.out _ k1
      have hF := JF.out _ k1
      clear hA
      go_wp2_with fail
      refine hF.mono ?_
      rintro e w2 ⟨rfl, k2⟩
      obtain ⟨q0, q1, q2⟩ := JC.out _ k2
      have hC := J1.out _ k2
      clear hF p0 p1 p2
      go_wp2_with fail
      refine hC.mono ?_
      rintro e w3 ⟨g3, c3, rfl, A3, C3, h3, kk⟩
      have k3 := k2.trans kk
      clear hC q0 q1 q2 kk
      obtain ⟨q0, q1, q2⟩ := JC.out _ k3
      have hC := J2.out _ k3
      have H3 := toHid h3
      clear h3
      go_wp2_with fail
      refine hC.mono ?_
      rintro e w4 ⟨g4, c4, rfl, A4, C4, h4', k4'⟩
      have k4 := toHid (k3.trans k4')
      have HR : Hid (∀ W', Kept Nought w4 W' → ∀ j, j < 16 → (W'.cell? ⟨g3, j, none⟩ = some (.slice (A3 j) L (C3 j)) ∧ W'.cell? ⟨g4, j, none⟩ = some (.slice (A4 j) L (C4 j))) ∧ Calls Tryz.prog 11 #[.slice (A3 j) L (C3 j), .slice (A4 j) L (C4 j)] W'.drew fun r w' => r = .returned (.bool true) ∧ Kept Nought W' w') := fun W' kw j hj => by
        have kd : Kept Nought W' W'.drew := (Kept.refl Nought W').drew
        refine ⟨⟨(k4'.trans kw).cellN (H3.out j hj).1, kw.cellN (h4' j hj).1⟩, ?_⟩
        refine (JS.out W'.drew _ _ _ (((H3.out j hj).2.grew (k4'.trans kw)).grew kd) (((h4' j hj).2.grew kw).grew kd)).mono ?_
        rintro e w' ⟨rfl, kk⟩
        exact ⟨rfl, kd.trans kk⟩
      clear hC q0 q1 q2 h4' k4' k1 k2 k3 H3 JS
      go_wp2_with fail
      go_loopw [40] (fun i wr => ∃ j : Nat, j ≤ 16 ∧ i = .int .i64 (j : Int) ∧ Hid (Kept Nought w4 wr)) (fun i _ => 16 - (intOf i).toNat)
      case atStart => exact ⟨0, by omega, rfl, Kept.refl _ _⟩
      case round =>
        obtain ⟨j, hj, rfl, HKw⟩ := hrel
        by_cases hj16 : j < 16
        · have g1 : (j : Int) < 16 := by omega
          have g2 : (0 : Int) ≤ (j : Int) := by omega
          obtain ⟨⟨c1, c2⟩, hS⟩ := HR.out wr HKw.out j hj16
          go_wp2_with fail
          go_region_held3 (fun w' => w'.cell? ⟨g3, j, none⟩ = some (.slice (A3 j) L (C3 j)) ∧ w'.cell? ⟨g4, j, none⟩ = some (.slice (A4 j) L (C4 j)))
            (((try dsimp only); (repeat' apply And.intro) <;> first | (go_keep; done) | assumption))
            (first
            | (go_at_call 11; refine hS.mono ?_; rintro e w6 ⟨rfl, k6⟩; have q1 := k6.cellN c1; have q2 := k6.cellN c2))
          all_goals
            have HK6 := toHid (HKw.out.trans k6)
            clear hS c1 c2 q1 q2 k6
            go_wp2_with fail
            go_roundw
            case rel => exact ⟨j + 1, by omega, by go_num, HK6.out⟩
            case measure => simp [intOf]; omega
        · have g1 : ¬ (j : Int) < 16 := by omega
          obtain rfl : j = 16 := by omega
          go_wp2_with fail
          go_ret
          exact ⟨rfl, below_kept (HK0.out.trans (k4.out.trans HKw.out)) (Nat.le_refl _)⟩
    · have J1 : Hid (∀ W', Kept Nought W W' → Calls Tryz.prog 12 #[.pointer none, .agg #[.slice ao L cap, .int .u64 (K : Nat), .slice bo M dap], .slice xo N1 xc] W' fun e w' => e = .returned (.tuple #[.slice none 0 0, .int .i64 1]) ∧ Kept Nought W' w') := fun W' k => by
        refine (table8 ao bo xo L M K cap dap N1 xc ms rs xs 1 ⟨fun h => absurd h (by omega), fun h => absurd h hP⟩ (by omega) W' (hu.grew (k0.trans k)) (hv.grew (k0.trans k)) (hx.grew (k0.trans k)) hdm hdr hdx hK hL10).mono ?_
        rintro e w' ⟨zo, zn, zc, rfl, ⟨h1, _⟩ | ⟨_, h1⟩, kk⟩
        · omega
        · rw [h1]
          exact ⟨rfl, kk⟩
      have J2 : Hid (∀ W', Kept Nought W W' → Calls Tryz.prog 13 #[.agg #[.slice ao L cap, .int .u64 (K : Nat), .slice bo M dap], .slice xo N1 xc] W' fun e w' => e = .returned (.tuple #[.slice none 0 0, .int .i64 1]) ∧ Kept Nought W' w') := fun W' k => q8TableBad ao bo xo L M N1 cap dap xc K ms rs xs hP W' (hu.grew (k0.trans k)) (hv.grew (k0.trans k)) (hx.grew (k0.trans k)) hdm hdx hL6
      clear hu hv hx hdm hdr hdx hb hK hR hx0 hW k0 hL hM hLN1 hP hL10 hL6
      go_enter Tryz.func4, Tryz.ntmps4
      go_wp2_with (rw [← HW.out])
      refine hA.mono ?_
      rintro e w1 ⟨rfl, k1⟩
      obtain ⟨p0, p1, p2⟩ := JC.out _ k1
      have hF := JF.out _ k1
      clear hA
      go_wp2_with fail
      refine hF.mono ?_
      rintro e w2 ⟨rfl, k2⟩
      obtain ⟨q0, q1, q2⟩ := JC.out _ k2
      have hC := J1.out _ k2
      clear hF p0 p1 p2
      go_wp2_with fail
      refine hC.mono ?_
      rintro e w3 ⟨rfl, kk⟩
      have k3 := k2.trans kk
      clear hC q0 q1 q2 kk
      obtain ⟨q0, q1, q2⟩ := JC.out _ k3
      have hC := J2.out _ k3
      go_wp2_with fail
      refine hC.mono ?_
      rintro e w4 ⟨rfl, kk⟩
      have k4 := toHid (k3.trans kk)
      clear hC q0 q1 q2 kk k1 k2 k3
      go_wp2_with fail
      go_loopw [40] (fun i wr => i = .int .i64 0 ∧ Hid (Kept Nought w4 wr)) (fun _ _ => 0)
      case atStart => exact ⟨rfl, Kept.refl _ _⟩
      case round =>
        obtain ⟨rfl, HKw⟩ := hrel
        go_wp2_with fail
        go_ret
        exact ⟨rfl, below_kept (HK0.out.trans (k4.out.trans HKw.out)) (Nat.le_refl _)⟩
  · obtain rfl : R = false := by rw [hR]; exact decide_eq_false h4
    clear hu hv hx hdm hdr hdx hb hK hL hM hLN1 hR hx0 hW k0 h4
    go_enter Tryz.func4, Tryz.ntmps4
    go_wp2_with (rw [← HW.out])
    refine hA.mono ?_
    rintro e w1 ⟨rfl, k1⟩
    obtain ⟨p0, p1, p2⟩ := JC.out _ k1
    have hF := JF.out _ k1
    clear hA
    go_wp2_with fail
    refine hF.mono ?_
    rintro e w2 ⟨rfl, k2⟩
    go_wp2_with fail
    go_ret
    exact ⟨rfl, below_kept (HK0.out.trans k2) (Nat.le_refl _)⟩

end Go.Proofs.YtoieghgaahfciaaGreat
