/- The walk of the statement that what is written down first stays first: it returns true for any events. -/
import Derived.Test.YticofdgmgmckbaaLActs
namespace Go.Proofs.Yticofdgmgmckbaa
open Go.RowKit

theorem Kept.cellN {w w' : World} {a : Addr} {u : Value} (h : Kept Nought w w') (hc : w.cell? a = some u) : w'.cell? a = some u :=
  (World.cell?_of_block (h.block a.block (World.block_lt_of_cell? w _ hc) (fun f => f))).trans hc

attribute [local go_sem ↓] Go.wp_at_zero Go.wp_at_succ

set_option maxRecDepth 100000 in
set_option maxHeartbeats 800000 in
theorem walkTraceFirst (v : Value) (l : List Ev) (mx my mz : Int) (w : World) (h : ArgEvs w v l) (hb : l.length ≤ maxLen) :
    Calls Try.prog 6 #[v, .agg #[.int .i64 mx, .int .i64 my, .int .i64 mz]] w fun e w' => e = .returned (.bool true) ∧ Below w.heap.size w w' := by
  obtain ⟨ao, n, cap, rfl, hN, hA0⟩ := h.open
  have hA := fun w1 (hk : Kept (fun k => w.heap.size ≤ k) w w1) => hA0 _ w1 hk (fun k hk hs => by omega)
  rw [hN.out] at hb
  clear h hA0
  unfold maxLen at hb
  go_enter Try.func6, Try.ntmps6
  go_wp2_with fail
  refine (lAwake _).mono ?_
  rintro e w0 ⟨rfl, k00⟩
  have hbx0 : w0.heap[w.heap.size]? = some (.cells #[.int .i64 mx, .int .i64 my, .int .i64 mz] 27 (0, 0)) := (k00.block _ (by simp) (fun f => f)).trans (Go.heap_alloc_new w _)
  have k0 : Kept Nought w w0 := ((Kept.refl Nought w).alloc _).trans k00
  clear k00
  by_cases h1 : n ≤ 200
  · have h1' : ¬ (200 : Int) < (n : Int) := by omega
    go_wp2_with fail
    refine (tNew _).mono ?_
    rintro e w' ⟨rfl, rfl⟩
    have hst := Acc.start (newTr_in w0)
    have hbxW : (w0.alloc newTr).heap[w.heap.size]? = _ := heapAt_alloc hbx0
    have hltp : w.heap.size < w0.heap.size := lt_of_block hbx0
    obtain ⟨W, hW⟩ : ∃ W, W = w0.alloc newTr := ⟨_, rfl⟩
    obtain ⟨p, hp⟩ : ∃ p, p = w0.heap.size := ⟨_, rfl⟩
    have kW : Kept Nought w W := by rw [hW]; exact k0.alloc _
    rw [← hp] at hltp
    rw [← hW, ← hp] at hst
    rw [← hW] at hbxW
    rw [← hW, ← hp]
    clear hW hp k0 hbx0
    clear w0
    go_wp2_with fail
    go_loopw [21] (fun i wr => ∃ k : Nat, ∃ g, k ≤ n ∧ i = .int .i64 k ∧ Acc W wr p g ((l.take k).map cleanE) (.slice none 0 0) []) (fun i _ => n - (intOf i).toNat)
    case atStart => exact ⟨0, none, Nat.zero_le _, rfl, hst⟩
    case round =>
      obtain ⟨k, g, hk, rfl, acc⟩ := hrel
      have hkw : Kept (fun k => w.heap.size ≤ k) w wr := kW.any.next acc.kept (fun x hx hs => by have := kW.size; rcases hs with hs | hs <;> omega)
      by_cases hlt : k < n
      · obtain ⟨b, off, x, y, z, rfl, c0, c1, c2, a3⟩ := hA wr hkw k hlt
        have hL : Hid ((l.take (k + 1)).map cleanE = (l.take k).map cleanE ++ [cleanE (x, y, z)]) := take_map_succ cleanE a3.out
        have hlen : ((l.take k).map cleanE).length ≤ 200 := by rw [List.length_map, List.length_take]; omega
        clear hA a3 hst
        generalize (l.take k).map cleanE = L at *
        have hk0 : (0 : Int) ≤ (k : Int) := Int.natCast_nonneg _
        have hk1 : (k : Int) < (n : Int) := by omega
        go_wp2_with fail
        have acc1 := acc.grew ((Kept.refl Nought wr).alloc (.cells #[.int .i64 x, .int .i64 y, .int .i64 z] 27))
        refine (lPut (some (p, g, L)) (x, y, z) _ acc1.tr).mono ?_
        rintro e w2 ⟨rfl, hw⟩
        obtain ⟨g2, acc2⟩ := acc1.wrote hw (by simp; omega)
        clear hw acc1 acc c0 c1 c2 hkw
        go_wp2
        go_roundw
        case rel => exact ⟨k + 1, g2, by omega, by go_num, by rw [hL.out]; exact acc2⟩
        case measure => simp [intOf]; omega
      · have hL : (l.take k).map cleanE = l.map cleanE := by rw [List.take_of_length_le (by have := hN.out; omega)]
        rw [hL] at acc
        have hlen : (l.map cleanE).length = n := by rw [List.length_map]; exact hN.out
        have hk1 : ¬ (k : Int) < (n : Int) := by omega
        have hbw : wr.heap[w.heap.size]? = some (.cells #[.int .i64 mx, .int .i64 my, .int .i64 mz] 27 (0, 0)) :=
          (acc.kept.block _ (lt_of_block hbxW) (fun h => by have := lt_of_block hbxW; rcases h with h | h <;> omega)).trans hbxW
        have hbW := hbxW
        clear hA hst hL hbxW
        generalize l.map cleanE = L at *
        have T := acc.tr
        have hL1 : L.take 1000 = L := List.take_of_length_le (by omega)
        go_wp2_with fail
        refine (tEvents (some (p, g, L)) _ T).mono ?_
        rintro e w1 ⟨v1, rfl, r1, n1, k1⟩
        have r1' : EvRow w1 v1 L := by rw [show (trEvs (some (p, g, L))).take 1000 = L from hL1] at r1; exact r1
        clear r1
        have bw1 : w1.heap[w.heap.size]? = some (.cells #[.int .i64 mx, .int .i64 my, .int .i64 mz] 27 (0, 0)) := (k1.block _ (lt_of_block hbw) (fun f => f)).trans hbw
        have b0 : w1.cell? ⟨w.heap.size, 0, none⟩ = some (.int .i64 mx) := (cell_of_row w1 _ 0 _ _ _ bw1).trans rfl
        have b1 : w1.cell? ⟨w.heap.size, 1, none⟩ = some (.int .i64 my) := (cell_of_row w1 _ 1 _ _ _ bw1).trans rfl
        have b2 : w1.cell? ⟨w.heap.size, 2, none⟩ = some (.int .i64 mz) := (cell_of_row w1 _ 2 _ _ _ bw1).trans rfl
        go_wp2_with fail
        refine (tMany (some (p, g, L)) _ (T.grew k1)).mono ?_
        rintro e w' ⟨rfl, rfl⟩
        rw [show ((trEvs (some (p, g, L))).length : Nat) = n from hlen]
        go_wp2_with fail
        refine (lPut (some (p, g, L)) (mx, my, mz) _ (T.grew k1)).mono ?_
        rintro e w2 ⟨rfl, hw⟩
        have hfoot := (T.grew k1).foot
        have hfp := T.foot
        have hbox : ¬ trFoot (some (p, g, L)) w.heap.size := fun f => by
          rcases f with f | f
          · omega
          · have := acc.gnew _ f; have := lt_of_block hbW; omega
        have hne1 : ∀ x, v1.ownBlock = some x → ¬ trFoot (some (p, g, L)) x := fun x hx f => by have := n1 x hx; have := hfp x f; omega
        have bw2 : w2.heap[w.heap.size]? = some (.cells #[.int .i64 mx, .int .i64 my, .int .i64 mz] 27 (0, 0)) := (hw.block _ (lt_of_block bw1) hbox).trans bw1
        have r2 : EvRow w2 v1 L := r1'.kept hw.kept hne1
        obtain ⟨k2, g2, T2, _⟩ := hw.tr (by simp; omega)
        clear hw r1' bw1 b0 b1 b2
        go_wp2_with fail
        refine (tEvents (some (p, g2, L ++ [cleanE (mx, my, mz)])) _ T2).mono ?_
        rintro e w3 ⟨v3, rfl, r3, n3, k3⟩
        have r3' : EvRow w3 v3 (L ++ [cleanE (mx, my, mz)]) := by rw [show (trEvs (some (p, g2, L ++ [cleanE (mx, my, mz)]))).take 1000 = L ++ [cleanE (mx, my, mz)] from List.take_of_length_le (by show (L ++ [cleanE (mx, my, mz)]).length ≤ 1000; rw [List.length_append, hlen]; simp; omega)] at r3; exact r3
        have r2' : EvRow w3 v1 L := r2.grew k3
        have T3 := T2.grew k3
        have bw3 : w3.heap[w.heap.size]? = some (.cells #[.int .i64 mx, .int .i64 my, .int .i64 mz] 27 (0, 0)) := (k3.block _ (lt_of_block bw2) (fun f => f)).trans bw2
        have b0 : w3.cell? ⟨w.heap.size, 0, none⟩ = some (.int .i64 mx) := (cell_of_row w3 _ 0 _ _ _ bw3).trans rfl
        have b1 : w3.cell? ⟨w.heap.size, 1, none⟩ = some (.int .i64 my) := (cell_of_row w3 _ 1 _ _ _ bw3).trans rfl
        have b2 : w3.cell? ⟨w.heap.size, 2, none⟩ = some (.int .i64 mz) := (cell_of_row w3 _ 2 _ _ _ bw3).trans rfl
        obtain ⟨ao1, cp1, rfl, _⟩ := r2'.view
        rw [hlen] at r2' ⊢
        obtain ⟨ao3, cp3, rfl, hv3⟩ := r3'.view
        obtain ⟨g3, cx, cy, cz, rfl, e0, e1, e2, e3⟩ := hv3 n (by simp; omega)
        have hcl : cleanE (mx, my, mz) = (cx, cy, cz) := by
          have e3' := e3.out
          rw [List.getElem?_append_right (by omega), hlen] at e3'
          simpa using e3'
        have hl3 : (L ++ [cleanE (mx, my, mz)]).length = n + 1 := by simp; omega
        rw [hl3] at r3' ⊢
        have HC : Hid (cleanE (mx, my, mz) = (cx, cy, cz)) := hcl
        have rc : EvRow w3 (.slice (some ⟨g3, 0, none⟩) n cp3) L := by
          have := r3'.cut (m := n) (by simp; omega)
          rw [List.take_append_of_le_length (by omega), List.take_of_length_le (by omega)] at this
          exact this
        have hcap : n + 1 ≤ cp3 := by
          rcases r3'.2 with ⟨h', _⟩ | ⟨g', cap', cur, h', _, _, hnc, _⟩
          · simp at h'
          · simp only [Value.slice.injEq, Option.some.injEq, Addr.mk.injEq, and_true] at h'
            obtain ⟨_, _, rfl⟩ := h'
            rw [hl3] at hnc; exact hnc
        clear hcl hv3 e3 hl3 r3 r3' r2 T2 bw2 bw3 hfoot hfp hbox hne1
        have hmany : ∀ W', Kept Nought w3 W' → Calls Try.prog 15 #[.pointer (some ⟨p, 0, none⟩)] W' fun e w' => e = .returned (.int .i64 ((n : Int) + 1)) ∧ w' = W' := fun W' hk => by
          have := tMany (some (p, g2, L ++ [cleanE (mx, my, mz)])) W' (T3.grew hk)
          rw [show ((trEvs (some (p, g2, L ++ [cleanE (mx, my, mz)]))).length : Nat) = n + 1 from by simp [trEvs]; omega, Int.natCast_add] at this
          exact this
        have hsame : ∀ W', Kept Nought w3 W' → Calls Try.prog 12 #[.slice (some ⟨g3, 0, none⟩) n cp3, .slice ao1 n cp1] W' fun e w' => e = .returned (.bool true) ∧ Kept Nought W' w' := fun W' hk => by
          have := lSame _ _ L L W' (rc.grew hk) (r2'.grew hk) (by omega)
          rw [decide_eq_true rfl] at this
          exact this
        have hclean : ∀ W', Calls Try.prog 10 #[.agg #[.int .i64 mx, .int .i64 my, .int .i64 mz]] W' fun e w' => e = .returned (.agg #[.int .i64 cx, .int .i64 cy, .int .i64 cz]) ∧ Kept Nought W' w' := fun W' => by
          have := lClean (mx, my, mz) W'
          rw [HC.out] at this
          exact this
        have KW : Kept (fun k => w.heap.size ≤ k) w w3 := ((hkw.next (k1.any (S := fun k => w.heap.size ≤ k)) (fun _ _ h => h)).next k2 (fun x hx hs => hs.elim (fun h => by omega) (fun h => by have := acc.gnew x h; have := kW.size; omega))).next (k3.any (S := fun k => w.heap.size ≤ k)) (fun _ _ h => h)
        clear acc T T3 rc r2' hL1 k1 k2 k3 hkw hbw hbW n1 n3 kW HC hlen
        have hgd := Try.noGuard27
        have hq := fun w => ev_alike w cx cy cz cx cy cz
        rw [decide_eq_true rfl] at hq
        have hw1 : IntKind.i64.wrap ((n : Int) + 1) = (n : Int) + 1 := by rw [IntKind.wrap_i64]; omega
        have hn0 : (0 : Int) ≤ (n : Int) := Int.natCast_nonneg _
        have hn1 : (n : Int) < ((n + 1 : Nat) : Int) := by omega
        have hn2 : (n : Int) ≤ (cp3 : Int) := by omega
        have hn4 : (n : Int) < (n : Int) + 1 := by omega
        generalize hbx : w.heap.size = bx at *
        have HB : Hid (w.heap.size = bx) := hbx
        clear hbx
        go_wp2_with fail
        go_region_held3 (fun w' => (w'.cell? ⟨bx, 0, none⟩ = some (.int .i64 mx) ∧ w'.cell? ⟨bx, 1, none⟩ = some (.int .i64 my) ∧ w'.cell? ⟨bx, 2, none⟩ = some (.int .i64 mz)) ∧ w'.cell? ⟨g3, n * 3, none⟩ = some (.int .i64 cx) ∧ w'.cell? ⟨g3, n * 3 + 1, none⟩ = some (.int .i64 cy) ∧ w'.cell? ⟨g3, n * 3 + 2, none⟩ = some (.int .i64 cz))
          (go_keep)
          (first
            | (go_at_call 15; refine (hmany _ ?_).mono ?_; exact (Kept.refl Nought w3).drew; rintro e w' ⟨rfl, rfl⟩)
            | (go_at_call 12; refine (hsame _ ?_).mono ?_; exact (Kept.refl Nought w3).drew; rintro e w5 ⟨rfl, k5⟩; have q0 := k5.cellN b0; have q1 := k5.cellN b1; have q2 := k5.cellN b2; have q3 := k5.cellN e0; have q4 := k5.cellN e1; have q5 := k5.cellN e2)
            | (go_at_call 10; refine (hclean _).mono ?_; rintro e w6 ⟨rfl, k6⟩; have q6 := k6.cellN q0; have q7 := k6.cellN q1; have q8 := k6.cellN q2; have q9 := k6.cellN q3; have q10 := k6.cellN q4; have q11 := k6.cellN q5))
        all_goals
          go_wp2
          go_ret
          exact ⟨rfl, (KW.drew.next (((k5.any (S := fun k => bx ≤ k)).trans k6.any)) (fun _ _ h => h)).below (by rw [HB.out]; exact Nat.le_refl _) (fun k h => by rw [HB.out]; exact h)⟩
  · have h1' : (200 : Int) < (n : Int) := by omega
    clear hA
    go_wp2
    go_ret
    exact ⟨rfl, k0.below (Nat.le_refl _) (fun _ f => f.elim)⟩

end Go.Proofs.Yticofdgmgmckbaa
