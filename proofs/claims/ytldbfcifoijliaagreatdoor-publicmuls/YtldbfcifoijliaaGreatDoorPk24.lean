/- Put together of: NatI PutN NatJ NatK. -/
import Derived.Test.YtldbfcifoijliaaGreatDoorPk23
import Derived.Deep.RegionLaw

/- Package nat: Of, walked. -/
namespace Go.Proofs.YtldbfcifoijliaaGreatDoor
open Go.RowKit Go.Shelf

attribute [local go_sem] Oper.semAt_some

set_option maxRecDepth 100000 in
set_option maxHeartbeats 2000000 in
/-- Of: the number lies in new memory. -/
theorem nOfO (v : Value) (bs : List Nat) (n : Int) (w : World) (h : Row .u8 w v bs) (hd : Digs 256 bs) :
    Calls Tryz.prog 27 #[v, .int .i64 n] w fun r w' => ∃ v', r = .returned (.tuple #[v', .int .i64 (resCode (bev bs) n)]) ∧ OwnN .u64 24 w' w.heap.size v' (resList (bev bs) n).length (resList (bev bs) n) ∧ Kept Nought w w' := by
  obtain ⟨i0, hi0, hz0, hz1, hz2⟩ := info_parts Tryz.info24
  have hE := nLenErr n w
  have hT := nTrim v bs w h
  refine (callsIn_wide (n := 9)).1 ?_
  refine callsIn_of_wp_marks Tryz.func27 rfl trivial ?_ rfl
  simp only [Tryz.ntmps27, List.size_toArray, List.length_cons, List.length_nil, Nat.reduceAdd, Nat.reduceSub, Array.replicate_succ, Array.replicate_zero, List.push_toArray, List.append_toArray, List.nil_append, List.cons_append]
  refine wpIn_wide.2 ?_
  obtain ⟨RC, hRC⟩ : ∃ RC, RC = resCode (bev bs) n := ⟨_, rfl⟩
  obtain ⟨RL, hRL⟩ : ∃ RL, RL = resList (bev bs) n := ⟨_, rfl⟩
  rw [← hRC, ← hRL]
  have HC : Hid (RC = resCode (bev bs) n) := hRC
  have HL : Hid (RL = resList (bev bs) n) := hRL
  clear hRC hRL
  by_cases h1 : 300 < n
  · obtain ⟨e1, e2⟩ := res_long (V := bev bs) h1
    rw [e1] at HC
    rw [e2] at HL
    rw [if_pos h1] at hE
    clear e1 e2 hT
    go_wp2_with fail
    refine hE.mono ?_
    rintro e w' ⟨rfl, rfl⟩
    go_wp2
    exact ⟨_, results_tmp2 rfl _ _ _, _, by rw [HC.out]; rfl, by rw [HL.out]; exact World.ownsRow_nil _ _ _ _, Kept.refl _ _⟩
  · rw [if_neg h1] at hE
    by_cases h2 : n < 0
    · obtain ⟨e1, e2⟩ := res_range (V := bev bs) h1 (.inl h2)
      rw [e1] at HC
      rw [e2] at HL
      rw [if_pos h2] at hE
      clear e1 e2 hT
      go_wp2_with fail
      refine hE.mono ?_
      rintro e w' ⟨rfl, rfl⟩
      go_wp2
      exact ⟨_, results_tmp2 rfl _ _ _, _, by rw [HC.out]; rfl, by rw [HL.out]; exact World.ownsRow_nil _ _ _ _, Kept.refl _ _⟩
    · rw [if_neg h2] at hE
      obtain ⟨m, rfl⟩ := Int.eq_ofNat_of_zero_le (show 0 ≤ n by omega)
      go_wp2_with fail
      refine hE.mono ?_
      rintro e w' ⟨rfl, rfl⟩
      go_wp2_with fail
      refine hT.mono ?_
      rintro e w' ⟨v', rfl, k, hr, hk, hz, hne, hob, rfl⟩
      have hbev := bev_drop hk hz
      have hdd := hd.drop k
      have hne' : (bs.drop k).length = 0 ∨ (bs.drop k).getD 0 0 ≠ 0 := by
        rcases hne with e | e
        · left; rw [List.length_drop]; omega
        · right; rw [List.getD_eq_getElem?_getD, List.getElem?_drop, ← List.getD_eq_getElem?_getD]; exact e
      have hwords := words_bytes hdd hne' m
      have hw7 := (words_bytes hdd hne' (((bs.drop k).length + 7) / 8)).2 (by omega)
      rw [← hbev] at HC HL
      clear hT hE hz hne hne' hbev hd h hk
      generalize bs.drop k = cs at *
      clear hob
      obtain ⟨ao, q, cap, rfl, hLq, g1, g2, g3, g4⟩ := hr.open
      rw [hLq.out] at hwords
      have h8 : wrap64 (8 * (m : Int)) = 8 * m := by simp [wrap64]; omega
      by_cases h3 : q ≤ 8 * m
      · obtain ⟨e1, e2⟩ := res_ok (V := bev cs) (n := m) (by omega) (hwords.2 h3)
        rw [e1] at HC
        rw [e2] at HL
        have h3' : ¬ (q : Int) > 8 * (m : Int) := by omega
        have HW : Hid (wordsN (bev cs) ≤ (cs.length + 7) / 8) := hw7
        have hL8 : (cs.length + 7) / 8 ≤ m := by have := hLq.out; omega
        clear e1 e2 hwords hw7
        have HROW : Hid (Row .u8 w' (.slice ao q cap) cs) := hr
        clear hr
        go_wp2_with (at_make; refine wpList_make_full _ rfl _ _ 23 rfl w'.heap.size 24 i0 _ 1 Tryz.underlying23 hi0 hz0 hz1 _ _ _ _ m rfl rfl rfl rfl (by rw [hz2]; omega) (by unfold maxLen; omega) (Nat.le_refl _) ?_; intro w1 ho1 hg1; rw [zeros_map] at ho1; have k1 := grown_kept hg1)
        have hblk := lt_of_block (own_block ho1)
        have HO1 : Hid _ := ho1
        clear ho1 hg1
        have hD := wobBox ao q cap (w1.alloc (.cells #[.slice (some ⟨w'.heap.size, 0, none⟩) m m] 23))
        refine hD.mono ?_
        rintro e w2 ⟨rfl, rfl⟩
        clear hD
        have bX := Boxed.new w1 23 (.slice (some ⟨w'.heap.size, 0, none⟩) m m)
        have bN := Boxed.new (w1.alloc (.cells #[.slice (some ⟨w'.heap.size, 0, none⟩) m m] 23)) 25 (.slice ao q cap)
        rw [World.size_alloc] at bN
        have kA := (k1.alloc (.cells #[.slice (some ⟨w'.heap.size, 0, none⟩) m m] 23)).alloc (.cells #[.slice ao q cap] 25)
        have hB0 := kA.below (Nat.le_refl _) (fun _ f => f.elim)
        have hrow := HROW.out.grew kA
        have hown : ∀ b, (Value.slice ao q cap).ownBlock = some b → 0 < (cs.length + 7) / 8 → b < w'.heap.size := by
          intro b hb hp
          obtain ⟨b', off, rfl, hc⟩ := g4 0 (by have := hLq.out; omega)
          cases hb
          exact World.block_lt_of_cell? w' _ hc
        clear g4
        obtain ⟨g, hg⟩ : ∃ g : Nat → Nat, ∀ j, dig 18446744073709551616 (bev cs) j = g j := ⟨_, fun _ => rfl⟩
        have HG : Hid (∀ j, dig 18446744073709551616 (bev cs) j = g j) := hg
        go_wp2_with fail
        refine (wpIn_wide (n := 9)).1 ?_
        refine wpIn_rangeFunc_ownG (F := Fence.wide) (n := 9) rfl (by omega) (gf := 75) (lb := #[.pointer (some ⟨w1.heap.size + 1, 0, none⟩)]) rfl trivial (enters_of Tryz.func75 (by kernel_rfl) rfl)
          (wobStops 8 (by omega) (w1.heap.size + 1) ((cs.length + 7) / 8) g (.slice ao q cap) cs hdd rfl hg (fun k => k = w1.heap.size + 1 ∨ ((Value.slice ao q cap).ownBlock = some k ∧ 0 < (cs.length + 7) / 8)) (.inl rfl) (fun b hb hp => .inr ⟨hb, hp⟩) _ ?hsw bN.cell hrow) KeepB.trans (KeepB.put ?hsw2) (Below.refl _ _) (fun _ => rfl)
          (fun pre W => ((∃ zs : List Nat, W.ownsRow w'.heap.size 24 1 (.slice (some ⟨w'.heap.size, 0, none⟩) m m) m (zs.map fun z => .int .u64 (z : Nat)) ∧ Put g ((cs.length + 7) / 8) m pre zs) ∧ Boxed W w1.heap.size 23 (.slice (some ⟨w'.heap.size, 0, none⟩) m m)) ∧ Below w'.heap.size w' W)
          (fun _ _ _ => False)
          (OwnFrom.and (Own.from (fun s A B row hs hg hr => ⟨by obtain ⟨zs, h1, h2⟩ := hs.1; exact ⟨zs, own_turn h1 hg hr, h2⟩, boxed_turn hs.2 hg hr⟩) _) (ownFrom_below (Nat.le_refl _) (by simp; omega)))
          (fun _ _ _ _ _ hs _ _ => hs)
          ⟨⟨⟨List.replicate m 0, World.ownsRow.alloc (World.ownsRow.alloc HO1.out _) _, by simp, fun j => by rw [List.getD_eq_getElem?_getD, List.getElem?_replicate]; split <;> simp⟩, bX.alloc _⟩, hB0⟩
          ?act ?assign ?body ?done ?stop
        case hsw =>
          rintro k (rfl | ⟨hk, hp⟩)
          · simp
          · have := hown k hk hp
            simp; omega
        case hsw2 =>
          rintro k (rfl | ⟨hk, hp⟩)
          · simp
          · have := hown k hk hp
            simp; omega
        case assign =>
          intro l x W K hK
          gi_wp2
          exact hK
        case body =>
          rintro l pre x W ⟨⟨⟨zs, hrw, hput⟩, hbx⟩, hB⟩ _
          have hx := x.isLt
          have hxm : x.val < m := by omega
          have hc : W.cell? ⟨w'.heap.size, x.val, none⟩ = some (.int .u64 (zs.getD x.val 0 : Nat)) := by
            rw [World.ownsRow.cellAt hrw x.val (by omega), List.getElem?_map, List.getElem?_eq_getElem (by rw [hput.1]; exact hxm), List.getD_eq_getElem?_getD, List.getElem?_eq_getElem (by rw [hput.1]; exact hxm)]
            rfl
          have hf := World.ownsRow.frozenAt hrw x.val
          have hst := (World.ownsRow.stored hrw x.val (.int .u64 (g x.val : Nat))).1
          have hbc := hbx.cell
          have HPUT : Hid (Put g ((cs.length + 7) / 8) m (pre ++ [x]) (zs.set x.val (g x.val))) := hput.step x hxm
          have HST : Hid (World.ownsRow (W.setCell ⟨w'.heap.size, x.val, none⟩ (.int .u64 (g x.val : Nat))) w'.heap.size 24 1 (.slice (some ⟨w'.heap.size, 0, none⟩) m m) m ((zs.map fun z => .int .u64 (z : Nat)).set x.val (.int .u64 (g x.val : Nat)))) := hst
          generalize zs.getD x.val 0 = old at *
          clear hst hput hg hrow
          gi_wp2
          refine ⟨(KeepsOthers.setCell _ _ _).from _, ?_, ⟨⟨zs.set x.val (g x.val), by rw [List.map_set]; exact HST.out, HPUT.out⟩, heapAt_set hbx (show w1.heap.size ≠ w'.heap.size by omega) _⟩, hB.setCell (p := ⟨w'.heap.size, x.val, none⟩) (Nat.le_refl _) _⟩
          rintro k (rfl | ⟨hk, hp⟩)
          · exact Below.heap_setCell W _ _ _ (show w1.heap.size + 1 ≠ w'.heap.size by omega)
          · have := hown k hk hp
            exact Below.heap_setCell W _ _ _ (show k ≠ w'.heap.size by omega)
        case done =>
          rintro D ys W hD hys ⟨⟨⟨zs, hrw, hput⟩, hbx⟩, hB⟩ hK
          have hzs := hput.all hys HG.out HW.out
          subst hzs
          have hbc := hbx.cell
          clear hput hg hrow hys
          go_wp2
          refine ⟨by simp, .inl ⟨_, _, rfl, run_takeDeferred hK, ?_⟩⟩
          have hBf := hB.trans (belowK_b (w := w') (Nat.le_refl _) W D _ (.deferred none) (by simp at hD; omega) hK rfl rfl)
          refine ⟨_, results_tmp2 rfl _ _ _, _, by rw [HC.out]; rfl, ?_, ⟨hBf.os, hBf.tape, hBf.output, hBf.size, fun k hk _ => hBf.block k hk⟩⟩
          rw [HL.out]
          rw [digs_length]
          exact own_turn hrw (grownBy_putObj' _ D (.deferred none)) (fun r e => by cases e; exact ⟨_, hK, rfl⟩)
        case stop =>
          rintro D c pre W _ _ h _
          exact h.elim
      · obtain ⟨e1, e2⟩ := res_range (V := bev cs) (n := (m : Int)) (by omega) (.inr (by simp; omega))
        rw [e1] at HC
        rw [e2] at HL
        have h3' : (q : Int) > 8 * (m : Int) := by omega
        clear e1 e2 hwords g4 hr
        go_wp2
        exact ⟨_, results_tmp2 rfl _ _ _, _, by rw [HC.out]; rfl, by rw [HL.out]; exact World.ownsRow_nil _ _ _ _, Kept.refl _ _⟩

/-- Of: in new memory. -/
theorem nOfF (v : Value) (bs : List Nat) (n : Int) (w : World) (h : Row .u8 w v bs) (hd : Digs 256 bs) :
    Calls Tryz.prog 27 #[v, .int .i64 n] w fun r w' => ∃ v', r = .returned (.tuple #[v', .int .i64 (resCode (bev bs) n)]) ∧ Row .u64 w' v' (resList (bev bs) n) ∧ (∀ b, v'.ownBlock = some b → w.heap.size ≤ b) ∧ Kept Nought w w' := by
  refine (nOfO v bs n w h hd).mono ?_
  rintro e w' ⟨v', he, h1, h2⟩
  exact ⟨v', he, Row.of_own h1, fun b hb => (World.ownsRow.lt h1 b hb).1, h2⟩

/-- Of. -/
theorem nOf (v : Value) (bs : List Nat) (n : Int) (w : World) (h : Row .u8 w v bs) (hd : Digs 256 bs) :
    Calls Tryz.prog 27 #[v, .int .i64 n] w fun r w' => ∃ v', r = .returned (.tuple #[v', .int .i64 (resCode (bev bs) n)]) ∧ Row .u64 w' v' (resList (bev bs) n) ∧ Kept Nought w w' := by
  refine (nOfF v bs n w h hd).mono ?_
  rintro e w' ⟨v', he, h1, _, h2⟩
  exact ⟨v', he, h1, h2⟩

end Go.Proofs.YtldbfcifoijliaaGreatDoor


/- What word.Put answers, for any word: its eight bytes, in new memory. -/
namespace Go.Proofs.YtldbfcifoijliaaGreatDoor
open Go.RowKit

/-- The bytes of a word, the highest ahead. -/
def putBytes (a : Int) : List Int := [a / 72057594037927936 % 256, a / 281474976710656 % 256, a / 1099511627776 % 256, a / 4294967296 % 256, a / 16777216 % 256, a / 65536 % 256, a / 256 % 256, a % 256]

/-- The array behind k rounds: the last k bytes are there. -/
def putCells (a : Int) (k : Nat) : Array Value := (((List.replicate (8 - k) 0 ++ (putBytes a).drop (8 - k)).map (Value.int .u8))).toArray

theorem pc0 (a : Int) : putCells a 0 = #[.int .u8 0, .int .u8 0, .int .u8 0, .int .u8 0, .int .u8 0, .int .u8 0, .int .u8 0, .int .u8 0] := rfl
theorem pc1 (a : Int) : putCells a 1 = #[.int .u8 0, .int .u8 0, .int .u8 0, .int .u8 0, .int .u8 0, .int .u8 0, .int .u8 0, .int .u8 (a % 256)] := rfl
theorem pc2 (a : Int) : putCells a 2 = #[.int .u8 0, .int .u8 0, .int .u8 0, .int .u8 0, .int .u8 0, .int .u8 0, .int .u8 (a / 256 % 256), .int .u8 (a % 256)] := rfl
theorem pc3 (a : Int) : putCells a 3 = #[.int .u8 0, .int .u8 0, .int .u8 0, .int .u8 0, .int .u8 0, .int .u8 (a / 65536 % 256), .int .u8 (a / 256 % 256), .int .u8 (a % 256)] := rfl
theorem pc4 (a : Int) : putCells a 4 = #[.int .u8 0, .int .u8 0, .int .u8 0, .int .u8 0, .int .u8 (a / 16777216 % 256), .int .u8 (a / 65536 % 256), .int .u8 (a / 256 % 256), .int .u8 (a % 256)] := rfl
theorem pc5 (a : Int) : putCells a 5 = #[.int .u8 0, .int .u8 0, .int .u8 0, .int .u8 (a / 4294967296 % 256), .int .u8 (a / 16777216 % 256), .int .u8 (a / 65536 % 256), .int .u8 (a / 256 % 256), .int .u8 (a % 256)] := rfl
theorem pc6 (a : Int) : putCells a 6 = #[.int .u8 0, .int .u8 0, .int .u8 (a / 1099511627776 % 256), .int .u8 (a / 4294967296 % 256), .int .u8 (a / 16777216 % 256), .int .u8 (a / 65536 % 256), .int .u8 (a / 256 % 256), .int .u8 (a % 256)] := rfl
theorem pc7 (a : Int) : putCells a 7 = #[.int .u8 0, .int .u8 (a / 281474976710656 % 256), .int .u8 (a / 1099511627776 % 256), .int .u8 (a / 4294967296 % 256), .int .u8 (a / 16777216 % 256), .int .u8 (a / 65536 % 256), .int .u8 (a / 256 % 256), .int .u8 (a % 256)] := rfl
theorem pc8 (a : Int) : putCells a 8 = #[.int .u8 (a / 72057594037927936 % 256), .int .u8 (a / 281474976710656 % 256), .int .u8 (a / 1099511627776 % 256), .int .u8 (a / 4294967296 % 256), .int .u8 (a / 16777216 % 256), .int .u8 (a / 65536 % 256), .int .u8 (a / 256 % 256), .int .u8 (a % 256)] := rfl

set_option maxHeartbeats 400000 in
/-- word.Put. -/
theorem wPut (a : Int) (a0 : 0 ≤ a) (a1 : a < 18446744073709551616) (w : World) :
    Calls Tryz.prog 57 #[.int .u64 a] w fun e w' => e = .returned (.slice (some ⟨w.heap.size, 0, none⟩) 8 8) ∧ w' = w.alloc (.cells (putCells a 8) 101) := by
  go_enter Tryz.func57, Tryz.ntmps57
  go_wp2_with fail
  go_loopw [5] (fun i wr => ∃ k : Nat, k ≤ 8 ∧ i = .int .i64 (k : Int) ∧ wr = w.alloc (.cells (putCells a k) 101)) (fun i _ => (8 - intOf i).toNat)
  case atStart => exact ⟨0, by omega, rfl, rfl⟩
  case round =>
    obtain ⟨k, hk, rfl, rfl⟩ := hrel
    have : k = 0 ∨ k = 1 ∨ k = 2 ∨ k = 3 ∨ k = 4 ∨ k = 5 ∨ k = 6 ∨ k = 7 ∨ k = 8 := by omega
    rcases this with rfl | rfl | rfl | rfl | rfl | rfl | rfl | rfl | rfl
    · rw [pc0]
      go_wp2_with fail
      go_roundw
      case rel => exact ⟨1, by omega, rfl, by rw [pc1]⟩
      case measure => simp [intOf]
    · rw [pc1]
      go_wp2_with fail
      go_roundw
      case rel => exact ⟨2, by omega, rfl, by rw [pc2]⟩
      case measure => simp [intOf]
    · rw [pc2]
      go_wp2_with fail
      go_roundw
      case rel => exact ⟨3, by omega, rfl, by rw [pc3]⟩
      case measure => simp [intOf]
    · rw [pc3]
      go_wp2_with fail
      go_roundw
      case rel => exact ⟨4, by omega, rfl, by rw [pc4]⟩
      case measure => simp [intOf]
    · rw [pc4]
      go_wp2_with fail
      go_roundw
      case rel => exact ⟨5, by omega, rfl, by rw [pc5]⟩
      case measure => simp [intOf]
    · rw [pc5]
      go_wp2_with fail
      go_roundw
      case rel => exact ⟨6, by omega, rfl, by rw [pc6]⟩
      case measure => simp [intOf]
    · rw [pc6]
      go_wp2_with fail
      go_roundw
      case rel => exact ⟨7, by omega, rfl, by rw [pc7]⟩
      case measure => simp [intOf]
    · rw [pc7]
      go_wp2_with fail
      go_roundw
      case rel => exact ⟨8, by omega, rfl, by rw [pc8, show a / 72057594037927936 % 256 = a / 72057594037927936 by omega]⟩
      case measure => simp [intOf]
    · go_wp2_with fail
      go_ret
      exact ⟨rfl, rfl⟩
end Go.Proofs.YtldbfcifoijliaaGreatDoor


/- Package nat: layAtEnd: the end of a word's bytes, laid at the end of a row's beginning. -/
namespace Go.Proofs.YtldbfcifoijliaaGreatDoor
open Go.RowKit Go.Shelf

set_option maxRecDepth 20000 in
set_option maxHeartbeats 1000000 in
/-- layAtEnd, where there is room. -/
theorem nLay (g p r cap many : Nat) (cur cs : List Value) (tg : TypeId) (w : World) (hr : 0 < r) (hrc : r ≤ cap) (hcm : cap ≤ 100000) (hm : many = min r 8) (hg : w.heap[g]? = some (.cells cur.toArray tg (0, 0))) (hcur : cur.length = cap) (hcs : cs.length = many)
    (hp : ∀ j u, cs[j]? = some u → w.cell? ⟨p, 8 - many + j, none⟩ = some u) (h1 : ∀ u ∈ cs, u.oneCell' = true) :
    Calls Tryz.prog 56 #[.slice (some ⟨g, 0, none⟩) r cap, .slice (some ⟨p, 0, none⟩) 8 8] w fun e w' => e = .returned (.slice (some ⟨g, 0, none⟩) (r - many) cap) ∧ w'.heap[g]? = some (.cells (splice cur (r - many) cs).toArray tg (0, 0)) ∧ Kept (fun b => b = g) w w' := by
  obtain ⟨i0, hi0, hz0, hz1, hz2⟩ := info_parts Tryz.info5
  have a1 : min (r : Int) 8 = (many : Int) := by omega
  have m1 : many ≤ r := by omega
  have m2 : many ≤ 8 := by omega
  have m3 : 0 < many := by omega
  obtain ⟨w2, hrun, hb2, k2⟩ := run_copy_part (P := Tryz.prog) (w := w.drew) 25 25 3 5 g (r - many) (r - (r - many)) (cap - (r - many)) (some ⟨g, r - many, none⟩) (some ⟨p, 8 - many, none⟩) (8 - (8 - many)) (8 - (8 - many)) cur tg cs Tryz.underlying25 (by rw [hi0]; simp [hz1]) hg (by rw [hcs]; show many = min _ _; omega) (fun _ => ⟨rfl, _, rfl, fun j u hu => by rw [show (⟨p, 8 - many, none⟩ : Addr).add j = ⟨p, 8 - many + j, none⟩ by simp [Addr.add]]; exact hp j u hu⟩) (by omega) h1
  have HB : Hid (w2.heap[g]? = some (.cells (splice cur (r - many) cs).toArray tg (0, 0))) := hb2
  have hk : Kept (fun b => b = g) w w2 := ⟨k2.os, k2.tape, k2.output, k2.size, k2.block⟩
  clear hp hg hb2 h1 hm hcs k2
  go_enter Tryz.func56, Tryz.ntmps56
  go_wp2_with fail
  go_region
  go_wp2
  go_ret
  exact ⟨rfl, HB.out, hk⟩

set_option maxRecDepth 20000 in
set_option maxHeartbeats 1000000 in
/-- layAtEnd, where there is no room. -/
theorem nLay0 (g p cap : Nat) (w : World) (hcm : cap ≤ 100000) :
    Calls Tryz.prog 56 #[.slice (some ⟨g, 0, none⟩) 0 cap, .slice (some ⟨p, 0, none⟩) 8 8] w fun e w' => e = .returned (.slice (some ⟨g, 0, none⟩) 0 cap) ∧ w'.heap[g]? = w.heap[g]? ∧ Kept Nought w w' := by
  obtain ⟨i0, hi0, hz0, hz1, hz2⟩ := info_parts Tryz.info5
  have hrun := fun d a dc sc => run_copy_none (P := Tryz.prog) w.drew 25 25 3 5 d a 0 dc 0 sc Tryz.underlying25 (by rw [hi0]; simp [hz1]) rfl
  have a1 : min (0 : Int) 8 = 0 := by omega
  by_cases hc : cap = 0
  · subst hc
    go_enter Tryz.func56, Tryz.ntmps56
    go_wp2_with fail
    go_region
    go_wp2
    go_ret
    exact ⟨rfl, rfl, (Kept.refl _ _).drew⟩
  · have hc1 : ¬ (0 : Nat) = cap := by omega
    go_enter Tryz.func56, Tryz.ntmps56
    go_wp2_with fail
    go_region
    go_wp2
    go_ret
    exact ⟨rfl, rfl, (Kept.refl _ _).drew⟩

end Go.Proofs.YtldbfcifoijliaaGreatDoor


/- Package nat: Bytes: any number as so many bytes, or refused. -/
namespace Go.Proofs.YtldbfcifoijliaaGreatDoor
open Go.RowKit Go.Shelf

/-- A word's eight bytes, the highest ahead. -/
def bytes8 (x : Nat) : List Nat := (List.range 8).map fun j => dig 256 x (7 - j)

theorem put_cells (x : Nat) : putCells (x : Int) 8 = ((bytes8 x).map fun z => Value.int .u8 (z : Nat)).toArray := by
  rw [pc8]
  simp [bytes8, dig, List.range_succ]

/-- What lies in n bytes when i words have been laid. -/
def laidB (V n i : Nat) : List Nat := (List.range n).map fun j => if n - 8 * i ≤ j then dig 256 V (n - 1 - j) else 0

theorem laidB_length (V n i : Nat) : (laidB V n i).length = n := by simp [laidB]

theorem laidB_zero (V n : Nat) : laidB V n 0 = List.replicate n 0 := by
  apply List.ext_getElem
  · simp [laidB]
  · intro j h1 h2
    simp only [laidB, List.length_map, List.length_range] at h1
    simp only [laidB, List.getElem_map, List.getElem_range, List.getElem_replicate]
    rw [if_neg (by omega)]

theorem bes_get (V n : Nat) : ∀ i j, j < i → (bes V n i)[j]? = some (dig 256 V (n - 1 - j))
  | 0, j, h => by omega
  | i + 1, j, h => by
    unfold bes
    by_cases e : j < i
    · rw [List.getElem?_append_left (by rw [bes_length]; exact e)]; exact bes_get V n i j e
    · obtain rfl : j = i := by omega
      rw [List.getElem?_append_right (by rw [bes_length]; omega), bes_length, Nat.sub_self]; rfl

theorem dig256_above {V L k : Nat} (h : wordsN V ≤ L) (hk : 8 * L ≤ k) : dig 256 V k = 0 := by
  unfold dig
  rw [Nat.div_eq_of_lt, Nat.zero_mod]
  have h1 := (wordsN_le V L).1 h
  rw [show (18446744073709551616 : Nat) ^ L = 256 ^ (8 * L) by rw [Nat.pow_mul]] at h1
  exact Nat.lt_of_lt_of_le h1 (Nat.pow_le_pow_right (by omega) hk)

theorem laidB_all {V n L : Nat} (h : wordsN V ≤ L) : laidB V n L = bes V n n := by
  apply List.ext_getElem?
  intro j
  by_cases hj : j < n
  · rw [bes_get V n n j hj]
    simp only [laidB, List.getElem?_map, List.getElem?_range hj, Option.map_some]
    by_cases e : n - 8 * L ≤ j
    · rw [if_pos e]
    · rw [if_neg e, dig256_above h (by omega)]
  · rw [List.getElem?_eq_none (by rw [laidB_length]; omega), List.getElem?_eq_none (by rw [bes_length]; omega)]

/-- Byte s of word i. -/
theorem dig_byte (V i s : Nat) (h : s < 8) : dig 256 (dig 18446744073709551616 V i) s = dig 256 V (8 * i + s) := by
  unfold dig
  have e1 : (18446744073709551616 : Nat) ^ i = 256 ^ (8 * i) := by rw [Nat.pow_mul]
  rw [e1, show (18446744073709551616 : Nat) = 256 ^ s * 256 ^ (8 - s) by rw [← Nat.pow_add, show s + (8 - s) = 8 by omega], Nat.mod_mul_right_div_self, Nat.div_div_eq_div_mul, ← Nat.pow_add, Nat.mod_mod_of_dvd]
  exact ⟨256 ^ (7 - s), by rw [show 8 - s = (7 - s) + 1 by omega, Nat.pow_succ, Nat.mul_comm]⟩

theorem splice_get {α : Type} (L : List α) (off : Nat) (cs : List α) (h : off + cs.length ≤ L.length) (j : Nat) : (splice L off cs)[j]? = if j < off then L[j]? else if j < off + cs.length then cs[j - off]? else L[j]? := by
  unfold splice
  by_cases h1 : j < off
  · rw [if_pos h1, List.getElem?_append_left (by rw [List.length_take]; omega), List.getElem?_take, if_pos h1]
  · rw [if_neg h1, List.getElem?_append_right (by rw [List.length_take]; omega), List.length_take, Nat.min_eq_left (by omega)]
    by_cases h2 : j < off + cs.length
    · rw [if_pos h2, List.getElem?_append_left (by omega)]
    · rw [if_neg h2, List.getElem?_append_right (by omega), List.getElem?_drop]
      congr 1
      omega

theorem laidB_step {V n i : Nat} (hr : 0 < n - 8 * i) : splice (laidB V n i) (n - 8 * i - min (n - 8 * i) 8) ((bytes8 (dig 18446744073709551616 V i)).drop (8 - min (n - 8 * i) 8)) = laidB V n (i + 1) := by
  have hl : ((bytes8 (dig 18446744073709551616 V i)).drop (8 - min (n - 8 * i) 8)).length = min (n - 8 * i) 8 := by simp [bytes8]; omega
  apply List.ext_getElem?
  intro j
  rw [splice_get _ _ _ (by rw [hl, laidB_length]; omega), hl]
  by_cases hj : j < n
  · have g : ∀ i, (laidB V n i)[j]? = some (if n - 8 * i ≤ j then dig 256 V (n - 1 - j) else 0) := fun i => by
      simp only [laidB, List.getElem?_map, List.getElem?_range hj, Option.map_some]
    by_cases h1 : j < n - 8 * i - min (n - 8 * i) 8
    · rw [if_pos h1, g, g, if_neg (by omega), if_neg (by omega)]
    · rw [if_neg h1]
      by_cases h2 : j < n - 8 * i - min (n - 8 * i) 8 + min (n - 8 * i) 8
      · rw [if_pos h2, g, if_pos (by omega), List.getElem?_drop, bytes8, List.getElem?_map, List.getElem?_range (by omega), Option.map_some, dig_byte _ _ _ (by omega)]
        congr 2
        omega
      · rw [if_neg h2, g, g, if_pos (by omega), if_pos (by omega)]
  · rw [if_neg (by omega), if_neg (by omega), List.getElem?_eq_none (by rw [laidB_length]; omega), List.getElem?_eq_none (by rw [laidB_length]; omega)]

theorem splice_map {α β : Type} (f : α → β) (L : List α) (off : Nat) (cs : List α) : splice (L.map f) off (cs.map f) = (splice L off cs).map f := by
  simp [splice]

end Go.Proofs.YtldbfcifoijliaaGreatDoor

