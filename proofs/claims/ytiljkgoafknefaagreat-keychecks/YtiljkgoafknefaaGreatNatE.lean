/- Package nat: Compare, walked. -/
import Derived.Test.YtiljkgoafknefaaGreatLays
import Derived.Test.YtiljkgoafknefaaGreatNatD
namespace Go.Proofs.YtiljkgoafknefaaGreat
open Go.RowKit Go.Shelf

attribute [local go_sem] Oper.semAt_some

theorem downIdx_mem {L r j : Nat} : j ∈ downIdx L r ↔ r ≤ j ∧ j < L := by
  unfold downIdx
  simp only [List.mem_map, List.mem_range]
  constructor
  · rintro ⟨i, hi, rfl⟩; omega
  · rintro ⟨h1, h2⟩; exact ⟨L - 1 - j, by omega, by omega⟩

theorem mem_down {L r : Nat} {pre : List (Fin L)} (h : pre.map Fin.val = downIdx L r) {j : Nat} (h1 : r ≤ j) (h2 : j < L) : ∃ x ∈ pre, x.val = j := by
  have : j ∈ pre.map Fin.val := by rw [h]; exact downIdx_mem.2 ⟨h1, h2⟩
  simpa using this

/-- What came last. -/
theorem down_last {L r : Nat} {ini : List (Fin L)} {x : Fin L} (hr : r < L) (h : (ini ++ [x]).map Fin.val = downIdx L r) : x.val = r ∧ ini.map Fin.val = downIdx L (r + 1) := by
  rw [downIdx_step hr, List.map_append] at h
  obtain ⟨h1, h2⟩ := List.append_inj' h (by simp)
  exact ⟨by simpa using h2, h1⟩

set_option maxRecDepth 100000 in
set_option maxHeartbeats 4000000 in
/-- Compare, on words that are needed. -/
theorem nCompare (u v : Value) (xs ys : List Nat) (w : World) (hu : Row .u64 w u xs) (hv : Row .u64 w v ys) (hdx : Digs 18446744073709551616 xs) (hdy : Digs 18446744073709551616 ys) :
    Calls Tryz.prog 82 #[u, v] w fun r w' => r = .returned (.int .i64 (cmpN (val 18446744073709551616 xs) (val 18446744073709551616 ys))) ∧ Kept Nought w w' := by
  obtain ⟨R, hR⟩ : ∃ R, R = cmpN (val 18446744073709551616 xs) (val 18446744073709551616 ys) := ⟨_, rfl⟩
  rw [← hR]
  have HR : Hid (R = cmpN (val 18446744073709551616 xs) (val 18446744073709551616 ys)) := hR
  clear hR
  have hNx := fun ao n cap (e : u = .slice ao n cap) W (hk : Kept Nought w W) => nNeedS ao n cap xs W (e ▸ hu.grew hk) hdx
  have hNy := fun ao n cap (e : v = .slice ao n cap) W (hk : Kept Nought w W) => nNeedS ao n cap ys W (e ▸ hv.grew hk) hdy
  obtain ⟨ao, n, cap, rfl, hLx, c1, c2, c3, hnx⟩ := hu.open
  obtain ⟨bo, m, dap, rfl, hLy, d1, d2, d3, hny⟩ := hv.open
  have hNx := hNx ao n cap rfl
  have hNy := hNy bo m dap rfl
  obtain ⟨A, hA, lA, dA, vA, gA⟩ := need_list hdx
  obtain ⟨B, hB, lB, dB, vB, gB⟩ := need_list hdy
  have rA : Row .u64 w (.slice ao (wordsN (val 18446744073709551616 xs)) cap) A := hA ▸ hu.cut (words_len hdx)
  have rB : Row .u64 w (.slice bo (wordsN (val 18446744073709551616 ys)) dap) B := hB ▸ hv.cut (words_len hdy)
  have HW : Hid (cmpN (wordsN (val 18446744073709551616 xs)) (wordsN (val 18446744073709551616 ys)) = 0 ∨ cmpN (wordsN (val 18446744073709551616 xs)) (wordsN (val 18446744073709551616 ys)) = R) := by
    unfold Hid
    rw [HR.out]
    by_cases e : wordsN (val 18446744073709551616 xs) = wordsN (val 18446744073709551616 ys)
    · exact .inl (cmpN_ne.2 e)
    · exact .inr (cmp_words e)
  rw [← vA, ← vB] at HR
  clear hA hB gA gB vA vB hu hv hnx hny
  have w1 : wordsN (val 18446744073709551616 xs) ≤ n := by have := words_len hdx; have := hLx.out; omega
  have w2 : wordsN (val 18446744073709551616 ys) ≤ m := by have := words_len hdy; have := hLy.out; omega
  clear hdx hdy hLx hLy
  generalize wordsN (val 18446744073709551616 xs) = p at *
  generalize wordsN (val 18446744073709551616 ys) = q at *
  refine (callsIn_wide (n := 9)).1 ?_
  refine callsIn_of_wp_marks Tryz.func82 rfl trivial ?_ rfl
  simp only [Tryz.ntmps82, List.size_toArray, List.length_cons, List.length_nil, Nat.reduceAdd, Nat.reduceSub, Array.replicate_succ, Array.replicate_zero, List.push_toArray, List.append_toArray, List.nil_append, List.cons_append]
  refine wpIn_wide.2 ?_
  go_wp2_with fail
  have hk0 : Kept Nought w ((w.alloc (.cells #[.slice bo m dap] 23)).alloc (.cells #[.int .i64 0] 3)) := ((Kept.refl Nought w).alloc _).alloc _
  have hc3 : ((w.alloc (.cells #[.slice bo m dap] 23)).alloc (.cells #[.int .i64 0] 3)).cell? ⟨w.heap.size, 0, none⟩ = some (.slice bo m dap) := ((Boxed.new w 23 (.slice bo m dap)).alloc _).cell
  have hf3 : ((w.alloc (.cells #[.slice bo m dap] 23)).alloc (.cells #[.int .i64 0] 3)).frozen? ⟨w.heap.size, 0, none⟩ = false := ((Boxed.new w 23 (.slice bo m dap)).alloc _).frozen
  have hc4 : ((w.alloc (.cells #[.slice bo m dap] 23)).alloc (.cells #[.int .i64 0] 3)).cell? ⟨w.heap.size + 1, 0, none⟩ = some (.int .i64 0) := by have := (Boxed.new (w.alloc (.cells #[.slice bo m dap] 23)) 3 (.int .i64 0)).cell; rwa [World.size_alloc] at this
  have hf4 : ((w.alloc (.cells #[.slice bo m dap] 23)).alloc (.cells #[.int .i64 0] 3)).frozen? ⟨w.heap.size + 1, 0, none⟩ = false := by have := (Boxed.new (w.alloc (.cells #[.slice bo m dap] 23)) 3 (.int .i64 0)).frozen; rwa [World.size_alloc] at this
  have hs1 : ((w.alloc (.cells #[.slice bo m dap] 23)).alloc (.cells #[.int .i64 0] 3)).heap.size = w.heap.size + 2 := by simp
  generalize hw1 : (w.alloc (.cells #[.slice bo m dap] 23)).alloc (.cells #[.int .i64 0] 3) = W1 at *
  clear hw1
  refine Code.wp_mono (Q := Exit.then (fun a' w' => a' = { tmps := #[.slice ao p cap, .slice bo m dap, undef, .pointer (some ⟨w.heap.size, 0, none⟩), .pointer (some ⟨w.heap.size + 1, 0, none⟩), undef, undef, undef, undef, .slice ao n cap, .slice ao p cap, .slice bo m dap, .slice bo q dap, undef, undef, undef, undef, undef, undef, undef, undef, undef, undef, undef, undef, undef, undef, undef, undef, undef, undef, undef, undef, undef], defers := [] } ∧ w'.cell? ⟨w.heap.size, 0, none⟩ = some (.slice bo q dap) ∧ w'.cell? ⟨w.heap.size + 1, 0, none⟩ = some (.int .i64 0) ∧ w'.frozen? ⟨w.heap.size + 1, 0, none⟩ = false ∧ w'.heap.size = w.heap.size + 2 ∧ Kept Nought w w') (fun _ _ _ => False)) ?_ ?_
  · rintro e a' w' h
    cases e with
    | normal =>
      obtain ⟨rfl, hb3, hb4, hbf, hsz, hkw⟩ := h
      have hC := Any.cmp_Compare_int l122 (p : Int) (q : Int) w'
      rw [cmpInt] at hC
      clear hNx hNy hk0 hc3 hf3 hc4 hf4 hs1
      by_cases hpq : p = q
      · subst hpq
        rw [cmpN_eq rfl] at hC
        clear HW
        have hD := callsIn_wide.1 (downBox Fence.wide 0 trivial rfl ao p cap w')
        go_wp2_with fail
        refine hC.mono ?_
        rintro e w3 ⟨rfl, rfl⟩
        go_wp2_with fail
        refine hD.mono ?_
        rintro e w4 ⟨rfl, rfl⟩
        clear hC hD
        have bN := Boxed.new w3 23 (.slice ao p cap)
        rw [hsz] at bN
        have hown : ∀ b, (Value.slice ao p cap).ownBlock = some b → 0 < p → b < w.heap.size := by
          intro b hb hp
          obtain ⟨ao', n', cap', e1, hl', _, _, _, h4⟩ := rA.open
          cases e1
          obtain ⟨b', off, rfl, hc⟩ := h4 0 hp
          cases hb
          exact World.block_lt_of_cell? w _ hc
        have hB0 : Below w.heap.size w (w3.alloc (.cells #[.slice ao p cap] 23)) := (hkw.alloc _).below (Nat.le_refl _) (fun _ f => f.elim)
        have hrA := rA.grew (hkw.alloc (.cells #[.slice ao p cap] 23))
        have hRB : Hid (∀ W, Below w.heap.size w W → Row .u64 W (.slice bo p dap) B) := fun W hb => rB.kept (S := Nought) ⟨hb.os, hb.tape, hb.output, hb.size, fun k hk _ => hb.block k hk⟩ (fun _ _ f => f)
        go_wp2_with fail
        obtain ⟨g, hg⟩ : ∃ g : Nat → Nat, ∀ j, A.getD j 0 = g j := ⟨_, fun _ => rfl⟩
        refine (wpIn_wide (n := 9)).1 ?_
        refine wpIn_rangeFunc_ownG (F := Fence.wide) (n := 9) rfl (by omega) (gf := 138) (lb := #[.pointer (some ⟨w.heap.size + 2, 0, none⟩)]) rfl trivial (enters_of Tryz.func138 (by kernel_rfl) rfl)
          (downStops Fence.wide 8 trivial rfl (by omega) (w.heap.size + 2) p g (.slice ao p cap) A lA hg (fun k => k = w.heap.size + 2 ∨ ((Value.slice ao p cap).ownBlock = some k ∧ 0 < p)) (.inl rfl) (fun b hb hp => .inr ⟨hb, hp⟩) _ ?hsw bN.cell hrA) KeepB.trans (KeepB.put ?hsw2) (Below.refl _ _) (fun _ => rfl)
          (fun pre W => ((∀ x ∈ pre, g x.val = B.getD x.val 0) ∧ W.cell? ⟨w.heap.size, 0, none⟩ = some (.slice bo p dap) ∧ W.cell? ⟨w.heap.size + 1, 0, none⟩ = some (.int .i64 0) ∧ W.frozen? ⟨w.heap.size + 1, 0, none⟩ = false) ∧ Below w.heap.size w W)
          (fun c pre W => (c = .ret ∧ ∃ ini last, pre = ini ++ [last] ∧ (∀ x ∈ ini, g x.val = B.getD x.val 0) ∧ g last.val ≠ B.getD last.val 0 ∧ W.cell? ⟨w.heap.size + 1, 0, none⟩ = some (.int .i64 (cmpN (g last.val) (B.getD last.val 0)))) ∧ Below w.heap.size w W)
          (OwnFrom.and (Own.from (fun s A B row hs hg hr => ⟨hs.1, cell_kept hs.2.1 hg hr, cell_kept hs.2.2.1 hg hr, (frozen_kept hs.2.2.1 hg hr).trans hs.2.2.2⟩) _) (ownFrom_below (Nat.le_refl _) (by simp; omega)))
          (fun c => OwnFrom.and (Own.from (fun s A B row hs hg hr => by obtain ⟨hc, ini, last, e1, e2, e3, e4⟩ := hs; exact ⟨hc, ini, last, e1, e2, e3, cell_kept e4 hg hr⟩) _) (ownFrom_below (Nat.le_refl _) (by simp; omega)))
          ⟨⟨by simp, cellA _ hb3, cellA _ hb4, frozenA _ hb4 hbf⟩, hB0⟩
          ?act ?assign ?body ?done ?stop
        case hsw =>
          rintro k (rfl | ⟨hk, hp⟩)
          · simp [hsz]
          · have := hown k hk hp
            simp [hsz]; omega
        case hsw2 =>
          rintro k (rfl | ⟨hk, hp⟩)
          · simp [hsz]
          · have := hown k hk hp
            simp [hsz]; omega
        case assign =>
          intro l x W K hK
          gi_wp2
          exact hK
        case body =>
          rintro l pre x W ⟨⟨hp, hcb, hcr, hfr⟩, hB⟩ _
          obtain ⟨bo', q', dap', e1, hl', _, _, _, h4⟩ := (hRB.out W hB).open
          cases e1
          have hx := x.isLt
          obtain ⟨b, off, rfl, hc⟩ := h4 x.val hx
          have hN := nCmp64 (g x.val) (B.getD x.val 0) W
          have HP : Hid (∀ x ∈ pre, g x.val = B.getD x.val 0) := hp
          have HX : Hid (∃ y, y = x) := ⟨_, rfl⟩
          obtain ⟨yb, hyb⟩ : ∃ yb, yb = B.getD x.val 0 := ⟨_, rfl⟩
          rw [← hyb] at hN
          rw [← hyb] at hc
          clear h4 hp rA rB hRB hrA
          by_cases he : g x.val = yb
          · rw [cmpN_eq he] at hN
            have HE : Hid (g x.val = B.getD x.val 0) := by rw [← hyb]; exact he
            clear hyb he hg
            gi_wp2_with (refine ⟨trivial, ?_⟩; gi_at_call 114; refine (CallsIn.inRound l (callsIn_wide.2 hN)).mono ?_; rintro e w' ⟨rfl, rfl⟩)
            refine ⟨KeepsFrom.refl _ _, KeepB.refl _ _, ⟨fun y hy => ?_, hcb, hcr, hfr⟩, hB⟩
            rcases List.mem_append.1 hy with h | h
            · exact HP.out y h
            · rw [List.mem_singleton.1 h]; exact HE.out
          · have h0 : cmpN (g x.val) yb ≠ 0 := fun h => he (cmpN_ne.1 h)
            have HC : Hid (cmpN (g x.val) yb = cmpN (g x.val) (B.getD x.val 0)) := by rw [hyb]; rfl
            have HE : Hid (g x.val ≠ B.getD x.val 0) := by rw [← hyb]; exact he
            generalize cmpN (g x.val) yb = C at *
            clear hyb he hg
            gi_wp2_with (refine ⟨trivial, ?_⟩; gi_at_call 114; refine (CallsIn.inRound l (callsIn_wide.2 hN)).mono ?_; rintro e w' ⟨rfl, rfl⟩)
            exact ⟨(KeepsOthers.setCell _ _ _).from _, ⟨rfl, pre, x, rfl, HP.out, HE.out, by rw [← HC.out]; exact World.cell?_setCell_same _ _ _ hcr⟩, hB.setCell (p := ⟨w.heap.size + 1, 0, none⟩) (by simp) _⟩
        case done =>
          rintro D ys W hD hys ⟨⟨hall, hcb, hcr, hfr⟩, hB⟩ hK
          have hAB : A = B := by
            apply List.ext_getElem
            · rw [lA, lB]
            · intro i h1 h2
              obtain ⟨x, hx, hxi⟩ := mem_down hys (Nat.zero_le i) (show i < p by omega)
              have := hall x hx
              rw [hxi, ← hg, List.getD_eq_getElem?_getD, List.getD_eq_getElem?_getD, List.getElem?_eq_getElem h1, List.getElem?_eq_getElem h2] at this
              simpa using this
          rw [hAB, cmpN_eq rfl] at HR
          clear hall hys rA rB hRB hrA hown hg
          go_wp2
          have hK' := (KeepsOthers.setCell W ⟨w.heap.size + 1, 0, none⟩ (.int .i64 0)).same D _ hK rfl
          refine ⟨by simp, .inl ⟨_, _, rfl, run_takeDeferred hK', ?_⟩⟩
          have hc5 := cell_kept (World.cell?_setCell_same W ⟨w.heap.size + 1, 0, none⟩ (.int .i64 0) hcr) (grownBy_putObj' _ D (.deferred none)) (fun r e => by cases e; exact ⟨_, hK', rfl⟩)
          have hBf := (hB.setCell (p := ⟨w.heap.size + 1, 0, none⟩) (by simp) (.int .i64 0)).trans (belowK_b (w := w) (Nat.le_refl _) _ D _ (.deferred none) (by simp [hsz] at hD; omega) hK' rfl rfl)
          refine ⟨.int .i64 0, ?_, by rw [HR.out], ⟨hBf.os, hBf.tape, hBf.output, hBf.size, fun k hk _ => hBf.block k hk⟩⟩
          simp [results, Tryz.f82, go_sem, hc5]
        case stop =>
          rintro D c pre W hD ⟨r, hr, hpre⟩ ⟨⟨rfl, ini, last, rfl, e2, e3, hcr⟩, hB⟩ hK
          obtain ⟨hlast, hini⟩ := down_last hr hpre
          rw [hlast, ← hg] at e3 hcr
          have hcmp := cmp_at dA dB (by rw [lA, lB]) (show r < A.length by omega) (fun j h1 h2 => by
            obtain ⟨x, hx, hxj⟩ := mem_down hini h1 (show j < p by omega)
            have := e2 x hx
            rwa [hxj, ← hg] at this) e3
          rw [hcmp, ← HR.out] at hcr
          clear e2 e3 hpre hini hlast rA rB hRB hrA hown hg
          gi_wp2
          refine ⟨by simp, .inl ⟨_, _, rfl, run_takeDeferred hK, ?_⟩⟩
          have hc5 := cell_kept hcr (grownBy_putObj' _ D (.deferred none)) (fun r e => by cases e; exact ⟨_, hK, rfl⟩)
          have hBf := hB.trans (belowK_b (w := w) (Nat.le_refl _) W D _ (.deferred none) (by simp [hsz] at hD; omega) hK rfl rfl)
          refine ⟨.int .i64 R, ?_, rfl, ⟨hBf.os, hBf.tape, hBf.output, hBf.size, fun k hk _ => hBf.block k hk⟩⟩
          simp [results, Tryz.f82, go_sem, hc5]
      · rw [show cmpN p q = R from HW.out.resolve_left (fun h => hpq (cmpN_ne.1 h))] at hC
        have hR0 : R ≠ 0 := by
          rw [← HW.out.resolve_left (fun h => hpq (cmpN_ne.1 h))]
          exact fun h => hpq (cmpN_ne.1 h)
        go_wp2_with fail
        refine hC.mono ?_
        rintro e w3 ⟨rfl, rfl⟩
        go_wp2
        have hc5 := World.cell?_setCell_same w3 ⟨w.heap.size + 1, 0, none⟩ (.int .i64 R) hb4
        refine ⟨.int .i64 R, ?_, rfl, hkw.setCell ⟨w.heap.size + 1, 0, none⟩ (fun h => absurd h (by simp)) _⟩
        simp [results, Tryz.f82, go_sem, hc5]
    | _ => exact h.elim
  · go_region_with (first
      | (go_at_call_of 64 ao; refine (hNx _ ?_).mono ?_; (first | exact hk0 | exact hk0.drew | exact hk0.drewN _); rintro e w' ⟨rfl, rfl⟩)
      | (go_at_call_of 64 bo; refine (hNy _ ?_).mono ?_; (first | exact hk0 | exact hk0.drew | exact hk0.drewN _); rintro e w' ⟨rfl, rfl⟩))
    all_goals exact ⟨rfl, World.cell?_setCell_same _ _ _ hc3, (World.cell?_setCell_other _ _ _ _ (by simp)).trans hc4, (World.frozen?_setCell _ _ _ _).trans hf4, by simpa using hs1, (hk0.setCell ⟨w.heap.size, 0, none⟩ (fun h => absurd h (by simp)) _).drew⟩

end Go.Proofs.YtiljkgoafknefaaGreat
