/- The walk of the statement on whatever is written down: it returns true for any events and any number. -/
import Derived.Test.YticofdgmgmckbaaAcc
import Derived.Test.YticofdgmgmckbaaLPut2
import Derived.Test.YticofdgmgmckbaaRSum
import Derived.Test.YticofdgmgmckbaaTSame
namespace Go.Proofs.Yticofdgmgmckbaa
open Go.RowKit

/-- The spans that the second loop writes. -/
def spans : Nat → List Ev
  | 0 => []
  | k + 1 => spans k ++ [(1, (k : Int), 0)]

theorem spans_length : ∀ k, (spans k).length = k
  | 0 => rfl
  | k + 1 => by simp [spans, spans_length k]

theorem news3 (w : World) (x y z : Value) : ∀ j u, [x, y, z][j]? = some u → (w.alloc (.cells #[x, y, z] 27)).cell? ((⟨w.heap.size, 0, none⟩ : Addr).add j) = some u :=
  World.news_of_block (cs := #[x, y, z]) (t := 27) (fr := (0, 0)) (Go.heap_alloc_new w _)

theorem wrote_new {w w' : World} {o : Tr} {X : Obj} {m : List Ev} (h : TrIn w o) (hw : Wrote (w.alloc X) m w' o) : w'.heap[w.heap.size]? = some X := by
  rw [hw.block w.heap.size (by simp) (fun f => by have := h.foot _ f; omega)]
  exact Go.heap_alloc_new w X

theorem evVal_eq (e : Ev) : evVal e = .agg #[.int .i64 e.1, .int .i64 e.2.1, .int .i64 e.2.2] := rfl

theorem row_snoc {w : World} {v : Value} {l : List Ev} {e : Ev} (h : w.ownsRow 0 27 3 v (l.length + 1) (evsCells l ++ [.int .i64 e.1, .int .i64 e.2.1, .int .i64 e.2.2])) : EvRow w v (l ++ [e]) := by
  unfold EvRow
  rw [evsCells_append]
  simpa [evsCells, evCells] using h

set_option maxRecDepth 100000 in
set_option maxHeartbeats 800000 in
theorem walkTraceActs (v : Value) (l : List Ev) (often : Int) (w : World) (h : ArgEvs w v l) (hb : l.length ≤ maxLen) :
    Calls Try.prog 3 #[v, .int .i64 often] w fun e w' => e = .returned (.bool true) ∧ Below w.heap.size w w' := by
  obtain ⟨i0, hi0, hz0, hz1, hz2⟩ := info_parts Try.info27
  obtain ⟨ao, n, cap, rfl, hN, hA0⟩ := h.open
  have hA := fun w1 (hk : Kept (fun k => w.heap.size ≤ k) w w1) => hA0 _ w1 hk (fun k hk hs => by omega)
  rw [hN.out] at hb
  clear h hA0
  unfold maxLen at hb
  go_enter Try.func3, Try.ntmps3
  go_wp2_with fail
  refine (lAwake _).mono ?_
  rintro e w0 ⟨rfl, k0⟩
  by_cases hin : n ≤ 200 ∧ 0 ≤ often ∧ often ≤ 3000
  · obtain ⟨h1, h2, h3⟩ := hin
    obtain ⟨m, rfl⟩ := Int.eq_ofNat_of_zero_le h2
    have h1' : ¬ (200 : Int) < (n : Int) := by omega
    have h3' : ¬ (3000 : Int) < (m : Int) := by omega
    go_wp2_with fail
    refine (tNew _).mono ?_
    rintro e w' ⟨rfl, rfl⟩
    have hst := Acc.start (newTr_in w0)
    obtain ⟨W, hW⟩ : ∃ W, W = w0.alloc newTr := ⟨_, rfl⟩
    obtain ⟨p, hp⟩ : ∃ p, p = w0.heap.size := ⟨_, rfl⟩
    have kW : Kept Nought w W := by rw [hW]; exact k0.alloc _
    have hpB : w.heap.size ≤ p := by rw [hp]; exact k0.size
    rw [← hW, ← hp] at hst
    rw [← hW, ← hp]
    clear hW hp k0
    clear w0
    go_wp2_with fail
    go_loopw [6, 28] (fun all i wr => ∃ k : Nat, ∃ g, k ≤ n ∧ i = .int .i64 k ∧ Acc W wr p g ((l.take k).map cleanE) all ((l.take k).map cleanE)) (fun _ i _ => n - (intOf i).toNat)
    case atStart => exact ⟨0, none, Nat.zero_le _, rfl, hst⟩
    case round =>
      obtain ⟨k, g, hk, rfl, acc⟩ := hrel
      have hkw : Kept (fun k => w.heap.size ≤ k) w wr := kW.any.next acc.kept (fun x hx hs => by have := kW.size; rcases hs with hs | hs <;> omega)
      by_cases hlt : k < n
      · obtain ⟨b, off, x, y, z, rfl, c0, c1, c2, a3⟩ := hA wr hkw k hlt
        have hL : Hid ((l.take (k + 1)).map cleanE = (l.take k).map cleanE ++ [cleanE (x, y, z)]) := take_map_succ cleanE a3.out
        have hlen : ((l.take k).map cleanE).length ≤ 200 := by rw [List.length_map, List.length_take]; omega
        clear hA a3 hst
        generalize (l.take k).map cleanE = L at *
        have hk0 : (0 : Int) ≤ (k : Int) := Int.natCast_nonneg _
        have hk1 : (k : Int) < (n : Int) := by omega
        go_wp2_with fail
        have acc1 := acc.grew ((Kept.refl Nought wr).alloc (.cells #[.int .i64 x, .int .i64 y, .int .i64 z] 27))
        refine (lPut (some (p, g, L)) (x, y, z) _ acc1.tr).mono ?_
        rintro e w2 ⟨rfl, hw⟩
        have hx := wrote_new acc.tr hw
        obtain ⟨g2, acc2⟩ := acc1.wrote hw (by simp; omega)
        have b0 : w2.cell? ⟨wr.heap.size, 0, none⟩ = some (.int .i64 x) := (cell_of_row w2 _ 0 _ _ _ hx).trans rfl
        have b1 : w2.cell? ⟨wr.heap.size, 1, none⟩ = some (.int .i64 y) := (cell_of_row w2 _ 1 _ _ _ hx).trans rfl
        have b2 : w2.cell? ⟨wr.heap.size, 2, none⟩ = some (.int .i64 z) := (cell_of_row w2 _ 2 _ _ _ hx).trans rfl
        clear hw hx acc1 acc c0 c1 c2 hkw
        go_wp2_with fail
        refine (lClean (x, y, z) _).mono ?_
        rintro e w3 ⟨rfl, k3⟩
        rw [evVal_eq]
        generalize cleanE (x, y, z) = c at *
        have acc3 := acc2.grew k3
        clear acc2 k3 b0 b1 b2
        clear w2
        have acc4 := acc3.grew ((Kept.refl Nought w3).alloc (.cells #[.int .i64 c.1, .int .i64 c.2.1, .int .i64 c.2.2] 27))
        obtain ⟨cx, cy, cz⟩ := c
        dsimp only at acc4 ⊢
        go_wp2_with (at_builtin; refine wpList_append_lies _ rfl _ _ 22 rfl 0 27 i0 _ 3 24 Try.underlying22 hi0 hz0 hz1 hz2 rfl (by omega) _ L.length (evsCells L) rfl acc4.row ⟨w3.heap.size, 0, none⟩ 1 1 [.int .i64 cx, .int .i64 cy, .int .i64 cz] rfl rfl (news3 w3 _ _ _) (by simp [Value.oneCell']) (by omega) (by unfold maxLen; omega) (by omega) (Nat.zero_le _) (w3.heap.size + 1) (by simp) ?_; intro gg c' w4 ho hg hat hgl)
        have acc5 := acc4.app hg (row_snoc (e := (cx, cy, cz)) ho) (hat.imp id (fun e => by simpa using e))
        clear ho hg hat hgl acc4 acc3
        go_roundw
        case rel => exact ⟨k + 1, g2, by omega, by go_num, by rw [hL.out]; exact acc5⟩
        case measure => simp [intOf]; omega
      · have hL : (l.take k).map cleanE = l.map cleanE := by rw [List.take_of_length_le (by have := hN.out; omega)]
        rw [hL] at acc
        have hlen : (l.map cleanE).length ≤ 200 := by rw [List.length_map]; have := hN.out; omega
        have hk1 : ¬ (k : Int) < (n : Int) := by omega
        clear hA hst hL hkw
        generalize l.map cleanE = L at *
        go_wp2_with fail
        go_loopw [6, 9] (fun all i wr => ∃ j : Nat, ∃ g, j ≤ m ∧ i = .int .i64 j ∧ Acc W wr p g (L ++ spans j) all (L ++ spans j)) (fun _ i _ => m - (intOf i).toNat)
        case atStart => exact ⟨0, g, Nat.zero_le _, rfl, by simpa [spans] using acc⟩
        case round =>
          clear acc
          obtain ⟨j, g', hj, rfl, acc⟩ := hrel
          have hlen2 : (L ++ spans j).length ≤ 3200 := by rw [List.length_append, spans_length]; omega
          by_cases hlt : j < m
          · have hS : Hid (L ++ spans (j + 1) = (L ++ spans j) ++ [(1, (j : Int), 0)]) := by unfold Hid; simp [spans]
            generalize L ++ spans j = M at *
            have hj1 : (j : Int) < (m : Int) := by omega
            go_wp2_with fail
            refine (tSpan (some (p, g', M)) j _ acc.tr).mono ?_
            rintro e w2 ⟨rfl, hw⟩
            obtain ⟨g2, acc2⟩ := acc.wrote hw (by simp; omega)
            have acc4 := acc2.grew ((Kept.refl Nought w2).alloc (.cells #[.int .i64 1, .int .i64 j, .int .i64 0] 27))
            clear hw acc acc2
            go_wp2_with (at_builtin; refine wpList_append_lies _ rfl _ _ 22 rfl 0 27 i0 _ 3 24 Try.underlying22 hi0 hz0 hz1 hz2 rfl (by omega) _ M.length (evsCells M) rfl acc4.row ⟨w2.heap.size, 0, none⟩ 1 1 [.int .i64 1, .int .i64 j, .int .i64 0] rfl rfl (news3 w2 _ _ _) (by simp [Value.oneCell']) (by omega) (by unfold maxLen; omega) (by omega) (Nat.zero_le _) (w2.heap.size + 1) (by simp) ?_; intro gg c' w4 ho hg hat hgl)
            have acc5 := acc4.app hg (row_snoc (e := (1, (j : Int), 0)) ho) (hat.imp id (fun e => by simpa using e))
            clear ho hg hat hgl acc4
            go_roundw
            case rel => exact ⟨j + 1, g2, by omega, by go_num, by rw [hS.out]; exact acc5⟩
            case measure => simp [intOf]; omega
          · have hj1 : ¬ (j : Int) < (m : Int) := by omega
            generalize L ++ spans j = M at *
            obtain ⟨ao1, cap1, rfl⟩ := own_slice acc.row
            have hsz := acc.kept.size
            have hkw : Below w.heap.size w wr := (kW.any.next acc.kept (fun x hx hs => by have := kW.size; rcases hs with hs | hs <;> omega) : Kept (fun k => w.heap.size ≤ k) w wr).below (Nat.le_refl _) (fun k h => h)
            have hM : (M.length : Int) ≤ 3200 := by omega
            obtain ⟨q, hq⟩ : ∃ q, q = M.length := ⟨_, rfl⟩
            rw [← hq] at hM ⊢
            have HQ : Hid (q = M.length) := hq
            have R : EvRow wr (.slice ao1 q cap1) M := by rw [hq]; exact acc.row
            clear hq
            have T := acc.tr
            clear acc
            go_wp2_with fail
            refine (tEvents (some (p, g', M)) _ T).mono ?_
            rintro e w1 ⟨v1, rfl, r1, _, k1⟩
            go_wp2_with fail
            refine (rFirst _ M _ (R.grew k1) (by omega)).mono ?_
            rintro e w' ⟨v2, rfl, r2, _, rfl⟩
            go_wp2_with fail
            refine (lSame v1 v2 (M.take 1000) (M.take 1000) _ r1 r2 (take_len M)).mono ?_
            rintro e w2 ⟨rfl, k2⟩
            rw [decide_eq_true rfl]
            go_wp2_with fail
            refine (tMany (some (p, g', M)) _ ((T.grew k1).grew k2)).mono ?_
            rintro e w' ⟨rfl, rfl⟩
            rw [show ((trEvs (some (p, g', M))).length : Nat) = q from HQ.out.symm]
            go_wp2_with fail
            refine (tSum (some (p, g', M)) _ ((T.grew k1).grew k2)).mono ?_
            rintro e w' ⟨rfl, rfl⟩
            rw [show trEvs (some (p, g', M)) = M from rfl]
            go_wp2_with fail
            refine (rSum _ M _ ((R.grew k1).grew k2) (by omega)).mono ?_
            rintro e w3 ⟨rfl, k3⟩
            generalize evSum M = s at *
            go_wp2
            go_ret
            exact ⟨rfl, hkw.trans ((((k1.trans k2).trans k3).below (Nat.le_refl _) (fun _ f => f.elim)).mono (by have := hkw.size; omega))⟩
  · clear hA
    by_cases h1 : n ≤ 200
    · have h1' : ¬ (200 : Int) < (n : Int) := by omega
      by_cases h2 : often < 0
      · go_wp2
        go_ret
        exact ⟨rfl, k0.below (Nat.le_refl _) (fun _ f => f.elim)⟩
      · have h3 : (3000 : Int) < often := by omega
        go_wp2
        go_ret
        exact ⟨rfl, k0.below (Nat.le_refl _) (fun _ f => f.elim)⟩
    · have h1' : (200 : Int) < (n : Int) := by omega
      go_wp2
      go_ret
      exact ⟨rfl, k0.below (Nat.le_refl _) (fun _ f => f.elim)⟩

end Go.Proofs.Yticofdgmgmckbaa
