/- Put together of: NatH NatI. -/
import Derived.Test.YtcjaafmlflonhaaGreatDoorPk32

/- Package nat: Of: any bytes as a number of a length, or refused. -/
namespace Go.Proofs.YtcjaafmlflonhaaGreatDoor
open Go.RowKit Go.Shelf

attribute [local go_sem] Oper.semAt_some

theorem bev_drop {bs : List Nat} {k : Nat} (hk : k ≤ bs.length) (hz : ∀ i, i < k → bs.getD i 0 = 0) : bev (bs.drop k) = bev bs := by
  have h : bev (bs.take k) = 0 := by
    have hall : ∀ d ∈ bs.take k, d = 0 := by
      intro d hd
      obtain ⟨i, hi, rfl⟩ := List.mem_iff_getElem.1 hd
      have hik : i < k := by rw [List.length_take] at hi; omega
      have := hz i hik
      rw [List.getD_eq_getElem?_getD, List.getElem?_eq_getElem (by omega)] at this
      simpa using this
    have : ∀ l : List Nat, (∀ d ∈ l, d = 0) → bev l = 0 := by
      intro l
      induction l with
      | nil => intro _; rfl
      | cons x m ih =>
        intro h
        have e := bev_append [x] m
        rw [List.singleton_append] at e
        rw [e, ih (fun d hd => h d (by simp [hd])), show bev [x] = x by simp [bev], h x (by simp), Nat.zero_mul]
    exact this _ hall
  have e := bev_append (bs.take k) (bs.drop k)
  rw [List.take_append_drop, h, Nat.zero_mul, Nat.zero_add] at e
  exact e.symm

/-- Bytes with none that is 0 ahead: how many words they need. -/
theorem words_bytes {bs : List Nat} (hd : Digs 256 bs) (hne : bs.length = 0 ∨ bs.getD 0 0 ≠ 0) (m : Nat) : wordsN (bev bs) ≤ m ↔ bs.length ≤ 8 * m := by
  rw [wordsN_le]
  have hp : (18446744073709551616 : Nat) ^ m = 256 ^ (8 * m) := by rw [Nat.pow_mul]
  rw [hp]
  constructor
  · intro h
    rcases hne with h0 | h0
    · omega
    · cases bs with
      | nil => simp
      | cons x t =>
        have hx : x ≠ 0 := by simpa using h0
        have e := bev_append [x] t
        rw [List.singleton_append, show bev [x] = x by simp [bev]] at e
        have h1 : 1 * 256 ^ t.length ≤ x * 256 ^ t.length := Nat.mul_le_mul_right _ (by omega)
        have h2 : (256 : Nat) ^ t.length < 256 ^ (8 * m) := by omega
        have := (Nat.pow_lt_pow_iff_right (by omega : 1 < 256)).1 h2
        simp only [List.length_cons]
        omega
  · intro h
    exact Nat.lt_of_lt_of_le (bev_lt hd) (Nat.pow_le_pow_right (by omega) h)

/-- Which words have been put: those that came. -/
def Put (g : Nat → Nat) (L n : Nat) (pre : List (Fin L)) (zs : List Nat) : Prop := zs.length = n ∧ ∀ j, zs.getD j 0 = if j ∈ pre.map Fin.val then g j else 0

theorem Put.step {g : Nat → Nat} {L n : Nat} {pre : List (Fin L)} {zs : List Nat} (h : Put g L n pre zs) (x : Fin L) (hx : x.val < n) : Put g L n (pre ++ [x]) (zs.set x.val (g x.val)) := by
  refine ⟨by rw [List.length_set]; exact h.1, fun j => ?_⟩
  rw [List.getD_eq_getElem?_getD, List.getElem?_set, List.map_append]
  by_cases e : x.val = j
  · subst e
    simp [h.1, hx]
  · rw [if_neg e, ← List.getD_eq_getElem?_getD, h.2 j]
    have : ¬ j = x.val := fun h => e h.symm
    simp [this]

theorem Put.all {g : Nat → Nat} {L n V : Nat} {pre : List (Fin L)} {zs : List Nat} (h : Put g L n pre zs) (hp : pre.map Fin.val = List.range L) (hg : ∀ j, dig 18446744073709551616 V j = g j) (hV : wordsN V ≤ L) : zs = digs 18446744073709551616 V n := by
  apply List.ext_getElem
  · rw [h.1, digs_length]
  · intro i h1 h2
    have e := h.2 i
    rw [hp, List.getD_eq_getElem?_getD, List.getElem?_eq_getElem h1, Option.getD_some] at e
    have e2 := digs_getD 18446744073709551616 V n i (by rw [← h.1]; exact h1)
    rw [List.getD_eq_getElem?_getD, List.getElem?_eq_getElem h2, Option.getD_some] at e2
    rw [e, e2]
    by_cases hi : i < L
    · rw [if_pos (by simpa using hi), hg]
    · rw [if_neg (by simpa using hi)]
      unfold dig
      rw [Nat.div_eq_of_lt ((wordsN_le V i).1 (by omega)), Nat.zero_mod]

end Go.Proofs.YtcjaafmlflonhaaGreatDoor


/- Package nat: Of, walked. -/
namespace Go.Proofs.YtcjaafmlflonhaaGreatDoor
open Go.RowKit Go.Shelf

attribute [local go_sem] Oper.semAt_some

set_option maxRecDepth 100000 in
set_option maxHeartbeats 2000000 in
/-- Of: the number lies in new memory. -/
theorem nOfO (v : Value) (bs : List Nat) (n : Int) (w : World) (h : Row .u8 w v bs) (hd : Digs 256 bs) :
    Calls Tryz.prog 34 #[v, .int .i64 n] w fun r w' => ∃ v', r = .returned (.tuple #[v', .int .i64 (resCode (bev bs) n)]) ∧ OwnN .u64 23 w' w.heap.size v' (resList (bev bs) n).length (resList (bev bs) n) ∧ Kept Nought w w' := by
  obtain ⟨i0, hi0, hz0, hz1, hz2⟩ := info_parts Tryz.info23
  have hE := nLenErr n w
  have hT := nTrim v bs w h
  refine (callsIn_wide (n := 9)).1 ?_
  refine callsIn_of_wp_marks Tryz.func34 rfl trivial ?_ rfl
  simp only [Tryz.ntmps34, List.size_toArray, List.length_cons, List.length_nil, Nat.reduceAdd, Nat.reduceSub, Array.replicate_succ, Array.replicate_zero, List.push_toArray, List.append_toArray, List.nil_append, List.cons_append]
  refine wpIn_wide.2 ?_
  obtain ⟨RC, hRC⟩ : ∃ RC, RC = resCode (bev bs) n := ⟨_, rfl⟩
  obtain ⟨RL, hRL⟩ : ∃ RL, RL = resList (bev bs) n := ⟨_, rfl⟩
  rw [← hRC, ← hRL]
  have HC : Hid (RC = resCode (bev bs) n) := hRC
  have HL : Hid (RL = resList (bev bs) n) := hRL
  clear hRC hRL
  by_cases h1 : 300 < n
  · obtain ⟨e1, e2⟩ := res_long (V := bev bs) h1
    rw [e1] at HC
    rw [e2] at HL
    rw [if_pos h1] at hE
    clear e1 e2 hT
    go_wp2_with fail
    refine hE.mono ?_
    rintro e w' ⟨rfl, rfl⟩
    go_wp2
    exact ⟨_, results_tmp2 rfl _ _ _, _, by rw [HC.out]; rfl, by rw [HL.out]; exact World.ownsRow_nil _ _ _ _, Kept.refl _ _⟩
  · rw [if_neg h1] at hE
    by_cases h2 : n < 0
    · obtain ⟨e1, e2⟩ := res_range (V := bev bs) h1 (.inl h2)
      rw [e1] at HC
      rw [e2] at HL
      rw [if_pos h2] at hE
      clear e1 e2 hT
      go_wp2_with fail
      refine hE.mono ?_
      rintro e w' ⟨rfl, rfl⟩
      go_wp2
      exact ⟨_, results_tmp2 rfl _ _ _, _, by rw [HC.out]; rfl, by rw [HL.out]; exact World.ownsRow_nil _ _ _ _, Kept.refl _ _⟩
    · rw [if_neg h2] at hE
      obtain ⟨m, rfl⟩ := Int.eq_ofNat_of_zero_le (show 0 ≤ n by omega)
      go_wp2_with fail
      refine hE.mono ?_
      rintro e w' ⟨rfl, rfl⟩
      go_wp2_with fail
      refine hT.mono ?_
      rintro e w' ⟨v', rfl, k, hr, hk, hz, hne, hob, rfl⟩
      have hbev := bev_drop hk hz
      have hdd := hd.drop k
      have hne' : (bs.drop k).length = 0 ∨ (bs.drop k).getD 0 0 ≠ 0 := by
        rcases hne with e | e
        · left; rw [List.length_drop]; omega
        · right; rw [List.getD_eq_getElem?_getD, List.getElem?_drop, ← List.getD_eq_getElem?_getD]; exact e
      have hwords := words_bytes hdd hne' m
      have hw7 := (words_bytes hdd hne' (((bs.drop k).length + 7) / 8)).2 (by omega)
      rw [← hbev] at HC HL
      clear hT hE hz hne hne' hbev hd h hk
      generalize bs.drop k = cs at *
      clear hob
      obtain ⟨ao, q, cap, rfl, hLq, g1, g2, g3, g4⟩ := hr.open
      rw [hLq.out] at hwords
      have h8 : wrap64 (8 * (m : Int)) = 8 * m := by simp [wrap64]; omega
      by_cases h3 : q ≤ 8 * m
      · obtain ⟨e1, e2⟩ := res_ok (V := bev cs) (n := m) (by omega) (hwords.2 h3)
        rw [e1] at HC
        rw [e2] at HL
        have h3' : ¬ (q : Int) > 8 * (m : Int) := by omega
        have HW : Hid (wordsN (bev cs) ≤ (cs.length + 7) / 8) := hw7
        have hL8 : (cs.length + 7) / 8 ≤ m := by have := hLq.out; omega
        clear e1 e2 hwords hw7
        have HROW : Hid (Row .u8 w' (.slice ao q cap) cs) := hr
        clear hr
        go_wp2_with (at_make; refine wpList_make_full _ rfl _ _ 31 rfl w'.heap.size 23 i0 _ 1 Tryz.underlying31 hi0 hz0 hz1 _ _ _ _ m rfl rfl rfl rfl (by rw [hz2]; omega) (by unfold maxLen; omega) (Nat.le_refl _) ?_; intro w1 ho1 hg1; rw [zeros_map] at ho1; have k1 := grown_kept hg1)
        have hblk := lt_of_block (own_block ho1)
        have HO1 : Hid _ := ho1
        clear ho1 hg1
        have hD := wobBox ao q cap (w1.alloc (.cells #[.slice (some ⟨w'.heap.size, 0, none⟩) m m] 31))
        refine hD.mono ?_
        rintro e w2 ⟨rfl, rfl⟩
        clear hD
        have bX := Boxed.new w1 31 (.slice (some ⟨w'.heap.size, 0, none⟩) m m)
        have bN := Boxed.new (w1.alloc (.cells #[.slice (some ⟨w'.heap.size, 0, none⟩) m m] 31)) 22 (.slice ao q cap)
        rw [World.size_alloc] at bN
        have kA := (k1.alloc (.cells #[.slice (some ⟨w'.heap.size, 0, none⟩) m m] 31)).alloc (.cells #[.slice ao q cap] 22)
        have hB0 := kA.below (Nat.le_refl _) (fun _ f => f.elim)
        have hrow := HROW.out.grew kA
        have hown : ∀ b, (Value.slice ao q cap).ownBlock = some b → 0 < (cs.length + 7) / 8 → b < w'.heap.size := by
          intro b hb hp
          obtain ⟨b', off, rfl, hc⟩ := g4 0 (by have := hLq.out; omega)
          cases hb
          exact World.block_lt_of_cell? w' _ hc
        clear g4
        obtain ⟨g, hg⟩ : ∃ g : Nat → Nat, ∀ j, dig 18446744073709551616 (bev cs) j = g j := ⟨_, fun _ => rfl⟩
        have HG : Hid (∀ j, dig 18446744073709551616 (bev cs) j = g j) := hg
        go_wp2_with fail
        refine (wpIn_wide (n := 9)).1 ?_
        refine wpIn_rangeFunc_ownG (F := Fence.wide) (n := 9) rfl (by omega) (gf := 102) (lb := #[.pointer (some ⟨w1.heap.size + 1, 0, none⟩)]) rfl trivial (enters_of Tryz.func102 (by kernel_rfl) rfl)
          (wobStops 8 (by omega) (w1.heap.size + 1) ((cs.length + 7) / 8) g (.slice ao q cap) cs hdd rfl hg (fun k => k = w1.heap.size + 1 ∨ ((Value.slice ao q cap).ownBlock = some k ∧ 0 < (cs.length + 7) / 8)) (.inl rfl) (fun b hb hp => .inr ⟨hb, hp⟩) _ ?hsw bN.cell hrow) KeepB.trans (KeepB.put ?hsw2) (Below.refl _ _) (fun _ => rfl)
          (fun pre W => ((∃ zs : List Nat, W.ownsRow w'.heap.size 23 1 (.slice (some ⟨w'.heap.size, 0, none⟩) m m) m (zs.map fun z => .int .u64 (z : Nat)) ∧ Put g ((cs.length + 7) / 8) m pre zs) ∧ Boxed W w1.heap.size 31 (.slice (some ⟨w'.heap.size, 0, none⟩) m m)) ∧ Below w'.heap.size w' W)
          (fun _ _ _ => False)
          (OwnFrom.and (Own.from (fun s A B row hs hg hr => ⟨by obtain ⟨zs, h1, h2⟩ := hs.1; exact ⟨zs, own_turn h1 hg hr, h2⟩, boxed_turn hs.2 hg hr⟩) _) (ownFrom_below (Nat.le_refl _) (by simp; omega)))
          (fun _ _ _ _ _ hs _ _ => hs)
          ⟨⟨⟨List.replicate m 0, World.ownsRow.alloc (World.ownsRow.alloc HO1.out _) _, by simp, fun j => by rw [List.getD_eq_getElem?_getD, List.getElem?_replicate]; split <;> simp⟩, bX.alloc _⟩, hB0⟩
          ?act ?assign ?body ?done ?stop
        case hsw =>
          rintro k (rfl | ⟨hk, hp⟩)
          · simp
          · have := hown k hk hp
            simp; omega
        case hsw2 =>
          rintro k (rfl | ⟨hk, hp⟩)
          · simp
          · have := hown k hk hp
            simp; omega
        case assign =>
          intro l x W K hK
          gi_wp2
          exact hK
        case body =>
          rintro l pre x W ⟨⟨⟨zs, hrw, hput⟩, hbx⟩, hB⟩ _
          have hx := x.isLt
          have hxm : x.val < m := by omega
          have hc : W.cell? ⟨w'.heap.size, x.val, none⟩ = some (.int .u64 (zs.getD x.val 0 : Nat)) := by
            rw [World.ownsRow.cellAt hrw x.val (by omega), List.getElem?_map, List.getElem?_eq_getElem (by rw [hput.1]; exact hxm), List.getD_eq_getElem?_getD, List.getElem?_eq_getElem (by rw [hput.1]; exact hxm)]
            rfl
          have hf := World.ownsRow.frozenAt hrw x.val
          have hst := (World.ownsRow.stored hrw x.val (.int .u64 (g x.val : Nat))).1
          have hbc := hbx.cell
          have HPUT : Hid (Put g ((cs.length + 7) / 8) m (pre ++ [x]) (zs.set x.val (g x.val))) := hput.step x hxm
          have HST : Hid (World.ownsRow (W.setCell ⟨w'.heap.size, x.val, none⟩ (.int .u64 (g x.val : Nat))) w'.heap.size 23 1 (.slice (some ⟨w'.heap.size, 0, none⟩) m m) m ((zs.map fun z => .int .u64 (z : Nat)).set x.val (.int .u64 (g x.val : Nat)))) := hst
          generalize zs.getD x.val 0 = old at *
          clear hst hput hg hrow
          gi_wp2
          refine ⟨(KeepsOthers.setCell _ _ _).from _, ?_, ⟨⟨zs.set x.val (g x.val), by rw [List.map_set]; exact HST.out, HPUT.out⟩, heapAt_set hbx (show w1.heap.size ≠ w'.heap.size by omega) _⟩, hB.setCell (p := ⟨w'.heap.size, x.val, none⟩) (Nat.le_refl _) _⟩
          rintro k (rfl | ⟨hk, hp⟩)
          · exact Below.heap_setCell W _ _ _ (show w1.heap.size + 1 ≠ w'.heap.size by omega)
          · have := hown k hk hp
            exact Below.heap_setCell W _ _ _ (show k ≠ w'.heap.size by omega)
        case done =>
          rintro D ys W hD hys ⟨⟨⟨zs, hrw, hput⟩, hbx⟩, hB⟩ hK
          have hzs := hput.all hys HG.out HW.out
          subst hzs
          have hbc := hbx.cell
          clear hput hg hrow hys
          go_wp2
          refine ⟨by simp, .inl ⟨_, _, rfl, run_takeDeferred hK, ?_⟩⟩
          have hBf := hB.trans (belowK_b (w := w') (Nat.le_refl _) W D _ (.deferred none) (by simp at hD; omega) hK rfl rfl)
          refine ⟨_, results_tmp2 rfl _ _ _, _, by rw [HC.out]; rfl, ?_, ⟨hBf.os, hBf.tape, hBf.output, hBf.size, fun k hk _ => hBf.block k hk⟩⟩
          rw [HL.out]
          rw [digs_length]
          exact own_turn hrw (grownBy_putObj' _ D (.deferred none)) (fun r e => by cases e; exact ⟨_, hK, rfl⟩)
        case stop =>
          rintro D c pre W _ _ h _
          exact h.elim
      · obtain ⟨e1, e2⟩ := res_range (V := bev cs) (n := (m : Int)) (by omega) (.inr (by simp; omega))
        rw [e1] at HC
        rw [e2] at HL
        have h3' : (q : Int) > 8 * (m : Int) := by omega
        clear e1 e2 hwords g4 hr
        go_wp2
        exact ⟨_, results_tmp2 rfl _ _ _, _, by rw [HC.out]; rfl, by rw [HL.out]; exact World.ownsRow_nil _ _ _ _, Kept.refl _ _⟩

/-- Of: in new memory. -/
theorem nOfF (v : Value) (bs : List Nat) (n : Int) (w : World) (h : Row .u8 w v bs) (hd : Digs 256 bs) :
    Calls Tryz.prog 34 #[v, .int .i64 n] w fun r w' => ∃ v', r = .returned (.tuple #[v', .int .i64 (resCode (bev bs) n)]) ∧ Row .u64 w' v' (resList (bev bs) n) ∧ (∀ b, v'.ownBlock = some b → w.heap.size ≤ b) ∧ Kept Nought w w' := by
  refine (nOfO v bs n w h hd).mono ?_
  rintro e w' ⟨v', he, h1, h2⟩
  exact ⟨v', he, Row.of_own h1, fun b hb => (World.ownsRow.lt h1 b hb).1, h2⟩

end Go.Proofs.YtcjaafmlflonhaaGreatDoor

