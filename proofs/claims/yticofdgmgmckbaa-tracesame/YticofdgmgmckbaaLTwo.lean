/- The walk of the statement that two traces are alike just if the same was written down: it returns true for any events. -/
import Derived.Test.YticofdgmgmckbaaLActs
namespace Go.Proofs.Yticofdgmgmckbaa
open Go.RowKit

theorem IsTr.ne {w : World} {p q : Nat} {g g' : Option Nat} {l l' : List Ev} (h : IsTr w p g l) (h' : IsTr w q g' l') : g ≠ some q := by
  obtain ⟨v, s, _, hg, hr, _⟩ := h
  rw [← hg]
  exact h'.apart hr

theorem sameB_eq {a b : List Ev} (ha : a.length ≤ 1000) (hb : b.length ≤ 1000) : sameB a b = decide (a = b) := by
  unfold sameB
  rw [List.take_of_length_le ha, List.take_of_length_le hb]
  by_cases h : a = b
  · subst h; simp
  · simp [h]

theorem newTwo (w : World) : TrIn ((w.alloc newTr).alloc newTr) (some (w.heap.size, none, [])) ∧ TrIn ((w.alloc newTr).alloc newTr) (some (w.heap.size + 1, none, [])) := by
  refine ⟨(newTr_in w).grew ((Kept.refl Nought _).alloc _), ?_⟩
  have := newTr_in (w.alloc newTr)
  simpa using this

set_option maxRecDepth 100000 in
set_option maxHeartbeats 800000 in
theorem walkTraceSame (v : Value) (l : List Ev) (u : Value) (m : List Ev) (w : World) (h : ArgEvs w v l) (h' : ArgEvs w u m) (hb : l.length ≤ maxLen) (hb' : m.length ≤ maxLen) :
    Calls Try.prog 4 #[v, u] w fun e w' => e = .returned (.bool true) ∧ Below w.heap.size w w' := by
  obtain ⟨i0, hi0, hz0, hz1, hz2⟩ := info_parts Try.info27
  obtain ⟨ao, n, cap, rfl, hN, hA0⟩ := h.open
  obtain ⟨bo, q, bcap, rfl, hQ, hB0⟩ := h'.open
  have hA := fun w1 (hk : Kept (fun k => w.heap.size ≤ k) w w1) => hA0 _ w1 hk (fun k hk hs => by omega)
  have hB := fun w1 (hk : Kept (fun k => w.heap.size ≤ k) w w1) => hB0 _ w1 hk (fun k hk hs => by omega)
  rw [hN.out] at hb
  rw [hQ.out] at hb'
  clear h hA0 h' hB0
  unfold maxLen at hb hb'
  go_enter Try.func4, Try.ntmps4
  go_wp2_with fail
  refine (lAwake _).mono ?_
  rintro e w0 ⟨rfl, k0⟩
  by_cases hin : n ≤ 200 ∧ q ≤ 200
  · obtain ⟨h1, h2⟩ := hin
    have h1' : ¬ (200 : Int) < (n : Int) := by omega
    have h2' : ¬ (200 : Int) < (q : Int) := by omega
    go_wp2_with fail
    refine (tNew _).mono ?_
    rintro e w' ⟨rfl, rfl⟩
    go_wp2_with fail
    refine (tNew _).mono ?_
    rintro e w' ⟨rfl, rfl⟩
    obtain ⟨t1, t2⟩ := newTwo w0
    have hsz : ((w0.alloc newTr).alloc newTr).heap.size = w0.heap.size + 2 := by simp
    have kW : Kept Nought w ((w0.alloc newTr).alloc newTr) := (k0.alloc _).alloc _
    have hpB : w.heap.size ≤ w0.heap.size := k0.size
    have hp1 : (w0.alloc newTr).heap.size = w0.heap.size + 1 := by simp
    rw [hp1]
    obtain ⟨W, hW⟩ : ∃ W, W = (w0.alloc newTr).alloc newTr := ⟨_, rfl⟩
    obtain ⟨p, hp⟩ : ∃ p, p = w0.heap.size := ⟨_, rfl⟩
    rw [← hW, ← hp] at t1 t2
    rw [← hW] at kW hsz
    rw [← hp] at hsz hpB
    rw [← hW, ← hp]
    clear hW hp k0 hp1
    clear w0
    go_wp2_with fail
    go_loopw [7, 33] (fun all i wr => ∃ k : Nat, ∃ g, k ≤ n ∧ i = .int .i64 k ∧ Acc W wr p g ((l.take k).map cleanE) all ((l.take k).map cleanE)) (fun _ i _ => n - (intOf i).toNat)
    case atStart => exact ⟨0, none, Nat.zero_le _, rfl, Acc.start t1⟩
    case round =>
      obtain ⟨k, g, hk, rfl, acc⟩ := hrel
      have hkw : Kept (fun k => w.heap.size ≤ k) w wr := kW.any.next acc.kept (fun x hx hs => by have := kW.size; rcases hs with hs | hs <;> omega)
      by_cases hlt : k < n
      · obtain ⟨b, off, x, y, z, rfl, c0, c1, c2, a3⟩ := hA wr hkw k hlt
        have hL : Hid ((l.take (k + 1)).map cleanE = (l.take k).map cleanE ++ [cleanE (x, y, z)]) := take_map_succ cleanE a3.out
        have hlen : ((l.take k).map cleanE).length ≤ 200 := by rw [List.length_map, List.length_take]; omega
        clear hA hB a3 t1 t2
        generalize (l.take k).map cleanE = L at *
        have hk0 : (0 : Int) ≤ (k : Int) := Int.natCast_nonneg _
        have hk1 : (k : Int) < (n : Int) := by omega
        go_wp2_with fail
        have acc1 := acc.grew ((Kept.refl Nought wr).alloc (.cells #[.int .i64 x, .int .i64 y, .int .i64 z] 27))
        refine (lPut (some (p, g, L)) (x, y, z) _ acc1.tr).mono ?_
        rintro e w2 ⟨rfl, hw⟩
        have hx := wrote_new acc.tr hw
        obtain ⟨g2, acc2⟩ := acc1.wrote hw (by simp; omega)
        have b0 : w2.cell? ⟨wr.heap.size, 0, none⟩ = some (.int .i64 x) := (cell_of_row w2 _ 0 _ _ _ hx).trans rfl
        have b1 : w2.cell? ⟨wr.heap.size, 1, none⟩ = some (.int .i64 y) := (cell_of_row w2 _ 1 _ _ _ hx).trans rfl
        have b2 : w2.cell? ⟨wr.heap.size, 2, none⟩ = some (.int .i64 z) := (cell_of_row w2 _ 2 _ _ _ hx).trans rfl
        clear hw hx acc1 acc c0 c1 c2 hkw
        go_wp2_with fail
        refine (lClean (x, y, z) _).mono ?_
        rintro e w3 ⟨rfl, k3⟩
        rw [evVal_eq]
        generalize cleanE (x, y, z) = c at *
        have acc3 := acc2.grew k3
        clear acc2 k3 b0 b1 b2
        clear w2
        have acc4 := acc3.grew ((Kept.refl Nought w3).alloc (.cells #[.int .i64 c.1, .int .i64 c.2.1, .int .i64 c.2.2] 27))
        obtain ⟨cx, cy, cz⟩ := c
        dsimp only at acc4 ⊢
        go_wp2_with (at_builtin; refine wpList_append_lies _ rfl _ _ 22 rfl 0 27 i0 _ 3 24 Try.underlying22 hi0 hz0 hz1 hz2 rfl (by omega) _ L.length (evsCells L) rfl acc4.row ⟨w3.heap.size, 0, none⟩ 1 1 [.int .i64 cx, .int .i64 cy, .int .i64 cz] rfl rfl (news3 w3 _ _ _) (by simp [Value.oneCell']) (by omega) (by unfold maxLen; omega) (by omega) (Nat.zero_le _) (w3.heap.size + 1) (by simp) ?_; intro gg c' w4 ho hg hat hgl)
        have acc5 := acc4.app hg (row_snoc (e := (cx, cy, cz)) ho) (hat.imp id (fun e => by simpa using e))
        clear ho hg hat hgl acc4 acc3
        go_roundw
        case rel => exact ⟨k + 1, g2, by omega, by go_num, by rw [hL.out]; exact acc5⟩
        case measure => simp [intOf]; omega
      · have hL : (l.take k).map cleanE = l.map cleanE := by rw [List.take_of_length_le (by have := hN.out; omega)]
        rw [hL] at acc
        have hlen : (l.map cleanE).length ≤ 200 := by rw [List.length_map]; have := hN.out; omega
        have hk1 : ¬ (k : Int) < (n : Int) := by omega
        have t2' : TrIn wr (some (p + 1, none, [])) := ⟨t2.1.kept acc.kept (fun h => by rcases h with h | h <;> omega) (fun x e => by cases e), t2.2⟩
        have hws := acc.kept.size
        have T1 := acc.tr
        have R1 := acc.row
        clear hA hL t1 t2 acc
        generalize l.map cleanE = L at *
        obtain ⟨W1, rfl⟩ : ∃ W1, W1 = wr := ⟨wr, rfl⟩
        go_wp2_with fail
        go_loopw [8, 48] (fun all i wr => ∃ k : Nat, ∃ g', k ≤ q ∧ i = .int .i64 k ∧ Acc W1 wr (p + 1) g' ((m.take k).map cleanE) all ((m.take k).map cleanE)) (fun _ i _ => q - (intOf i).toNat)
        case atStart => exact ⟨0, none, Nat.zero_le _, rfl, Acc.start t2'⟩
        case round =>
          clear hk1 hlt hk
          obtain ⟨k, g', hk, rfl, acc⟩ := hrel
          have hkw2 : Kept (fun k => w.heap.size ≤ k) w wr := hkw.next acc.kept (fun x hx hs => by have := hkw.size; rcases hs with hs | hs <;> omega)
          by_cases hlt : k < q
          · obtain ⟨b, off, x, y, z, rfl, c0, c1, c2, a3⟩ := hB wr hkw2 k hlt
            have hL : Hid ((m.take (k + 1)).map cleanE = (m.take k).map cleanE ++ [cleanE (x, y, z)]) := take_map_succ cleanE a3.out
            have hlen : ((m.take k).map cleanE).length ≤ 200 := by rw [List.length_map, List.length_take]; omega
            clear hB a3
            generalize (m.take k).map cleanE = M at *
            have hk0 : (0 : Int) ≤ (k : Int) := Int.natCast_nonneg _
            have hk1 : (k : Int) < (q : Int) := by omega
            go_wp2_with fail
            have acc1 := acc.grew ((Kept.refl Nought wr).alloc (.cells #[.int .i64 x, .int .i64 y, .int .i64 z] 27))
            refine (lPut (some (p + 1, g', M)) (x, y, z) _ acc1.tr).mono ?_
            rintro e w2 ⟨rfl, hw⟩
            have hx := wrote_new acc.tr hw
            obtain ⟨g2, acc2⟩ := acc1.wrote hw (by simp; omega)
            have b0 : w2.cell? ⟨wr.heap.size, 0, none⟩ = some (.int .i64 x) := (cell_of_row w2 _ 0 _ _ _ hx).trans rfl
            have b1 : w2.cell? ⟨wr.heap.size, 1, none⟩ = some (.int .i64 y) := (cell_of_row w2 _ 1 _ _ _ hx).trans rfl
            have b2 : w2.cell? ⟨wr.heap.size, 2, none⟩ = some (.int .i64 z) := (cell_of_row w2 _ 2 _ _ _ hx).trans rfl
            clear hw hx acc1 acc c0 c1 c2 hkw2
            go_wp2_with fail
            refine (lClean (x, y, z) _).mono ?_
            rintro e w3 ⟨rfl, k3⟩
            rw [evVal_eq]
            generalize cleanE (x, y, z) = c at *
            have acc3 := acc2.grew k3
            clear acc2 k3 b0 b1 b2
            clear w2
            have acc4 := acc3.grew ((Kept.refl Nought w3).alloc (.cells #[.int .i64 c.1, .int .i64 c.2.1, .int .i64 c.2.2] 27))
            obtain ⟨cx, cy, cz⟩ := c
            dsimp only at acc4 ⊢
            go_wp2_with (at_builtin; refine wpList_append_lies _ rfl _ _ 22 rfl 0 27 i0 _ 3 24 Try.underlying22 hi0 hz0 hz1 hz2 rfl (by omega) _ M.length (evsCells M) rfl acc4.row ⟨w3.heap.size, 0, none⟩ 1 1 [.int .i64 cx, .int .i64 cy, .int .i64 cz] rfl rfl (news3 w3 _ _ _) (by simp [Value.oneCell']) (by omega) (by unfold maxLen; omega) (by omega) (Nat.zero_le _) (w3.heap.size + 1) (by simp) ?_; intro gg c' w4 ho hg hat hgl)
            have acc5 := acc4.app hg (row_snoc (e := (cx, cy, cz)) ho) (hat.imp id (fun e => by simpa using e))
            clear ho hg hat hgl acc4 acc3
            go_roundw
            case rel => exact ⟨k + 1, g2, by omega, by go_num, by rw [hL.out]; exact acc5⟩
            case measure => simp [intOf]; omega
          · have hL : (m.take k).map cleanE = m.map cleanE := by rw [List.take_of_length_le (by have := hQ.out; omega)]
            rw [hL] at acc
            have hlen2 : (m.map cleanE).length ≤ 200 := by rw [List.length_map]; have := hQ.out; omega
            have hk1 : ¬ (k : Int) < (q : Int) := by omega
            have hp1 := T1.1.lt.1
            have T1' : TrIn wr (some (p, g, L)) := ⟨T1.1.kept acc.kept (fun h => by rcases h with h | h <;> omega) (fun x e h => by
              subst e
              rcases h with h | h
              · subst h; exact T1.1.ne t2'.1 rfl
              · have := (T1.1.lt.2 x rfl).1; omega), T1.2⟩
            have R1' : EvRow wr u7 L := R1.kept acc.kept (fun x e h => by
              rcases h with h | h
              · subst h; exact t2'.1.apart R1 e
              · have := R1.lt x e; omega)
            have T2 := acc.tr
            have R2 := acc.row
            clear hB hL acc T1 R1 t2'
            generalize m.map cleanE = M at *
            have hs1 := sameB_eq (a := L) (b := M) (by omega) (by omega)
            have hs2 : sameB L L = true := by rw [sameB_eq (by omega) (by omega)]; simp
            have S1 := tSame (some (p, g, L)) (some (p + 1, g', M)) wr T1' T2
            rw [show sameB (trEvs (some (p, g, L))) (trEvs (some (p + 1, g', M))) = decide (L = M) from hs1] at S1
            clear hs1
            go_wp2_with fail
            refine S1.mono ?_
            rintro e w2 ⟨rfl, k2⟩
            go_wp2_with fail
            refine (lSame _ _ L M _ (R1'.grew k2) (R2.grew k2) (by omega)).mono ?_
            rintro e w3 ⟨rfl, k3⟩
            have S2 := tSame (some (p, g, L)) (some (p, g, L)) w3 ((T1'.grew k2).grew k3) ((T1'.grew k2).grew k3)
            rw [show sameB (trEvs (some (p, g, L))) (trEvs (some (p, g, L))) = true from hs2] at S2
            clear hs2 S1
            generalize decide (L = M) = bb
            have hbb : (bb == bb) = true := by simp
            go_wp2_with fail
            refine S2.mono ?_
            rintro e w4 ⟨rfl, k4⟩
            go_wp2
            go_ret
            exact ⟨rfl, (hkw2.next (((k2.trans k3).trans k4).any (S := fun k => w.heap.size ≤ k)) (fun _ _ h => h)).below (Nat.le_refl _) (fun k h => h)⟩
  · clear hA hB
    by_cases h1 : n ≤ 200
    · have h1' : ¬ (200 : Int) < (n : Int) := by omega
      have h2 : (200 : Int) < (q : Int) := by omega
      go_wp2
      go_ret
      exact ⟨rfl, k0.below (Nat.le_refl _) (fun _ f => f.elim)⟩
    · have h1' : (200 : Int) < (n : Int) := by omega
      go_wp2
      go_ret
      exact ⟨rfl, k0.below (Nat.le_refl _) (fun _ f => f.elim)⟩

end Go.Proofs.Yticofdgmgmckbaa
