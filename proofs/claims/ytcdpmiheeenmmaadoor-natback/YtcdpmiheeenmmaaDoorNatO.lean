/- Package nat: Show, walked: any number as a text. -/
import Derived.Test.YtcdpmiheeenmmaaDoorNatN
namespace Go.Proofs.YtcdpmiheeenmmaaDoor
open Go.RowKit Go.Shelf

attribute [local go_sem] Oper.semAt_some

theorem kept_of_below {w w' : World} (h : Below w.heap.size w w') : Kept Nought w w' := ⟨h.os, h.tape, h.output, h.size, fun k hk _ => h.block k hk⟩

theorem repeat48 : ∀ c, Lib.repeatL [48] c = List.replicate c 48
  | 0 => rfl
  | c + 1 => by rw [Lib.repeatL, repeat48 c, List.replicate_succ]; rfl

theorem nRepeat (c : Nat) (hc : c ≤ 16) (w : World) :
    Calls Tryd.prog 55 #[.string { data := #[48] }, .int .i64 c] w fun e w' => e = .returned (.string ⟨(List.replicate c (48 : UInt8)).toArray⟩) ∧ Kept Nought w w' := by
  refine (Any.strings_Repeat l105 lBld { data := #[48] } c w (by omega) (by simp [ByteArray.size]; omega)).mono ?_
  rintro e w' ⟨rfl, h⟩
  refine ⟨?_, kept_of_below h⟩
  rw [← repeat48]

/-- What a write into the builder leaves of other blocks. -/
theorem others_at {b k : Nat} {w w' : World} {c : Array Value} {t : TypeId} {f : Nat × Nat} (h : Lib.OthersKept 5 (some b) w w') (hk : w.heap[k]? = some (Obj.cells c t f)) (hne : k ≠ b) (ht : t ≠ 5) : w'.heap[k]? = some (Obj.cells c t f) :=
  h k _ hk (fun e => hne (by cases e; rfl)) (fun c' f' e => by cases e; exact ht rfl)

theorem others_noncells {B b : Nat} {w w' : World} (h : Lib.OthersKept 5 (some b) w w') (hb : Below B w w') (l : List UInt8) (hB : Bld B b l w) : KeepsOthers w w' := by
  refine ⟨hb.size, fun k o hk ho => h k o hk (fun e => ?_) (fun c f e => by subst e; cases ho)⟩
  cases e
  rcases hB with hx | hx
  · obtain ⟨_, v, hbb, _⟩ := hx
    rw [hbb] at hk
    cases hk
    cases ho
  · obtain ⟨_, v, hbb, _⟩ := hx
    rw [hbb] at hk
    cases hk
    cases ho

theorem kept_below {w w1 w2 : World} {B : Nat} (k : Kept Nought w w1) (b : Below B w1 w2) (hB : w.heap.size ≤ B) : Kept Nought w w2 :=
  ⟨b.os.trans k.os, b.tape.trans k.tape, b.output.trans k.output, Nat.le_trans k.size b.size, fun i hi h => (b.block i (by omega)).trans (k.block i hi h)⟩

theorem others_kept {b : Nat} {w w' : World} (k : Kept Nought w w') : Lib.OthersKept 5 (some b) w w' := fun i _ hi _ _ => (k.block i (Array.getElem?_eq_some_iff.1 hi).1 (fun f => f)).trans hi

theorem others_trans {b : Nat} {w1 w2 w3 : World} (h : Lib.OthersKept 5 (some b) w1 w2) (k : Lib.OthersKept 5 (some b) w2 w3) : Lib.OthersKept 5 (some b) w1 w3 := fun i o hi h1 h2 => k i o (h i o hi h1 h2) h1 h2

theorem below_kept {B : Nat} {w w' : World} (k : Kept Nought w w') (hB : B ≤ w.heap.size) : Below B w w' := k.below hB (fun _ f => f.elim)

/-- What a round of Show leaves. -/
theorem show_round {B b Bs bx p : Nat} {l l' : List UInt8} {sv : Value} {W W4 : World} (hb : Bld B b l W) (hb4 : Bld B b l' W4) (bel : Below B W W4) (oth : Lib.OthersKept 5 (some b) W W4) (hbx : Boxed W bx 25 sv) (hbs : Boxed W Bs 25 sv) (h1 : bx < B) (h2 : Bs ≠ b) (hown : ∀ k, sv.ownBlock = some k → 0 < p → k < B) :
    KeepsOthers W W4 ∧ KeepB (fun k => k = Bs ∨ (sv.ownBlock = some k ∧ 0 < p)) W W4 ∧ Bld B b l' W4 ∧ Boxed W4 bx 25 sv ∧ Boxed W4 Bs 25 sv := by
  have hs : W4.heap[Bs]? = W.heap[Bs]? := (others_at oth hbs h2 (by decide)).trans (show W.heap[Bs]? = _ from hbs).symm
  refine ⟨others_noncells oth bel l hb, ?_, hb4, (bel.block bx h1).trans hbx, others_at oth hbs h2 (by decide)⟩
  rintro k (rfl | ⟨hk, hp⟩)
  · exact hs
  · exact bel.block k (hown k hk hp)

set_option maxRecDepth 100000 in
set_option maxHeartbeats 4000000 in
/-- Show. -/
theorem nShow (u : Value) (xs : List Nat) (w : World) (hu : Row .u64 w u xs) (hdx : Digs 18446744073709551616 xs) (hl : xs.length ≤ 1000000) (hT : Tab w) :
    Calls Tryd.prog 29 #[u] w fun r w' => r = .returned (.string ⟨(showL (val 18446744073709551616 xs)).toArray⟩) ∧ Kept Nought w w' := by
  obtain ⟨R, hR⟩ : ∃ R, R = showL (val 18446744073709551616 xs) := ⟨_, rfl⟩
  rw [← hR]
  have HR : Hid (R = showL (val 18446744073709551616 xs)) := hR
  clear hR
  have hNx := fun ao n cap (e : u = .slice ao n cap) W (hk : Kept Nought w W) => nNeedS ao n cap xs W (e ▸ hu.grew hk) hdx
  obtain ⟨ao, n, cap, rfl, hLx, c1, c2, c3, hnx⟩ := hu.open
  have hNd := hNx ao n cap rfl
  clear hNx
  obtain ⟨A, hA, lA, dA, vA, gA⟩ := need_list hdx
  have rA : Row .u64 w (.slice ao (wordsN (val 18446744073709551616 xs)) cap) A := hA ▸ hu.cut (words_len hdx)
  have w1 : wordsN (val 18446744073709551616 xs) ≤ 1000000 := by have := words_len hdx; omega
  obtain ⟨g, hg⟩ : ∃ g : Nat → Nat, ∀ j, A.getD j 0 = g j := ⟨_, fun _ => rfl⟩
  have HG : Hid (∀ j, dig 18446744073709551616 (val 18446744073709551616 xs) j = g j) := fun j => by rw [← vA, dig_val (by omega) dA, hg]
  have HGB : Hid (∀ j, g j < 18446744073709551616) := fun j => by rw [← hg]; exact dA.getD (by omega) j
  obtain ⟨p, hp⟩ : ∃ p, p = wordsN (val 18446744073709551616 xs) := ⟨_, rfl⟩
  rw [← hp] at lA rA w1 hNd
  have HP : Hid (wordsN (val 18446744073709551616 xs) = p) := hp.symm
  clear hA gA hu hnx hdx hLx hp
  generalize val 18446744073709551616 xs = V at *
  have hk0 : Kept Nought w (w.alloc (.cells #[.slice ao n cap] 25)) := (Kept.refl Nought w).alloc _
  have hN := hNd _ hk0
  have bX := (Boxed.new w 25 (.slice ao n cap)).set (.slice ao p cap)
  have hc1 := (Boxed.new w 25 (.slice ao n cap)).cell
  have hf1 := (Boxed.new w 25 (.slice ao n cap)).frozen
  have kX := hk0.setCell ⟨w.heap.size, 0, none⟩ (fun h => absurd h (by simp)) (.slice ao p cap)
  have sX : ((w.alloc (.cells #[.slice ao n cap] 25)).setCell ⟨w.heap.size, 0, none⟩ (.slice ao p cap)).heap.size = w.heap.size + 1 := by simp
  refine (callsIn_wide (n := 9)).1 ?_
  refine callsIn_of_wp_marks Tryd.func29 rfl trivial ?_ rfl
  simp only [Tryd.ntmps29, List.size_toArray, List.length_cons, List.length_nil, Nat.reduceAdd, Nat.reduceSub, Array.replicate_succ, Array.replicate_zero, List.push_toArray, List.append_toArray, List.nil_append, List.cons_append]
  refine wpIn_wide.2 ?_
  go_wp2_with fail
  refine hN.mono ?_
  rintro e w' ⟨rfl, rfl⟩
  have hbc := bX.cell
  clear hN hNd hk0
  cases p with
  | zero =>
    go_wp2
    refine ⟨_, results_tmp rfl _ _ _, ?_, ?_⟩
    · have hV : V = 0 := by
        have := (wordsN_le V 0).1 (by rw [HP.out]; exact Nat.le_refl _)
        omega
      rw [HR.out, hV, show_zero]
      rfl
    · exact (Kept.refl _ _).alloc _
  | succ q =>
    clear hc1 hf1 kX sX hbc bX
    obtain ⟨W1, hW1⟩ : ∃ W1, W1 = (w.alloc (.cells #[.slice ao (q + 1) cap] 25)).alloc (.cells #[.pointer none, .slice none 0 0] 89) := ⟨_, rfl⟩
    have hb1 : Bld (w.heap.size + 1) (w.heap.size + 1) [] W1 := by
      have := Lib.fresh_isBuilder 89 5 (w.alloc (.cells #[.slice ao (q + 1) cap] 25))
      rw [World.size_alloc] at this
      rw [hW1]
      exact Lib.IsBuilderF.of this
    have bx1 : Boxed W1 w.heap.size 25 (.slice ao (q + 1) cap) := by rw [hW1]; exact (Boxed.new w 25 (.slice ao (q + 1) cap)).alloc _
    have k1 : Kept Nought w W1 := by rw [hW1]; exact ((Kept.refl Nought w).alloc _).alloc _
    have s1 : W1.heap.size = w.heap.size + 2 := by rw [hW1]; simp
    have hWr := nWrite (w.heap.size + 1) (w.heap.size + 1) [] { data := #[48, 120] } W1 hb1 (by simp [ByteArray.size]) (by omega)
    go_wp2_with fail
    rw [← hW1]
    clear hW1
    refine hWr.mono ?_
    rintro e W2 ⟨rfl, hb2, bel2, oth2⟩
    rw [List.nil_append] at hb2
    have bx2 : Boxed W2 w.heap.size 25 (.slice ao (q + 1) cap) := (bel2.block w.heap.size (by omega)).trans bx1
    have k2 : Kept Nought w W2 := kept_below k1 bel2 (by omega)
    have s2 : w.heap.size + 2 ≤ W2.heap.size := by have := bel2.size; omega
    have hbc := bx2.cell
    have hD := callsIn_wide.1 (downBox Fence.wide 0 trivial rfl ao (q + 1) cap W2)
    clear hWr bel2 oth2 k1 bx1 hb1 s1
    go_wp2_with fail
    refine hD.mono ?_
    rintro e w4 ⟨rfl, rfl⟩
    clear hD
    have bN := Boxed.new W2 25 (.slice ao (q + 1) cap)
    have k3 := k2.alloc (.cells #[.slice ao (q + 1) cap] 25)
    have hB0 := below_kept k3 (Nat.le_refl _)
    have hrA := rA.grew k3
    have hown : ∀ b, (Value.slice ao (q + 1) cap).ownBlock = some b → 0 < q + 1 → b < w.heap.size := by
      intro b hb hp
      obtain ⟨ao', n', cap', e1, hl', _, _, _, h4⟩ := rA.open
      cases e1
      obtain ⟨b', off, rfl, hc⟩ := h4 0 hp
      cases hb
      exact World.block_lt_of_cell? w _ hc
    have HOWN : Hid (∀ b, (Value.slice ao (q + 1) cap).ownBlock = some b → 0 < q + 1 → b < w.heap.size) := hown
    go_wp2_with fail
    refine (wpIn_wide (n := 9)).1 ?_
    refine wpIn_rangeFunc_ownG (F := Fence.wide) (n := 9) rfl (by omega) (gf := 65) (lb := #[.pointer (some ⟨W2.heap.size, 0, none⟩)]) rfl trivial (enters_of Tryd.func65 (by kernel_rfl) rfl)
      (downStops Fence.wide 8 trivial rfl (by omega) W2.heap.size (q + 1) g (.slice ao (q + 1) cap) A lA hg (fun k => k = W2.heap.size ∨ ((Value.slice ao (q + 1) cap).ownBlock = some k ∧ 0 < q + 1)) (.inl rfl) (fun b hb hp => .inr ⟨hb, hp⟩) _ ?hsw bN.cell hrA) KeepB.trans (KeepB.put ?hsw2) (Below.refl _ _) (fun _ => rfl)
      (fun pre W => (Bld (w.heap.size + 1) (w.heap.size + 1) ([48, 120] ++ (pre.map fun x => piece g (q + 1) x.val).flatten) W ∧ Boxed W w.heap.size 25 (.slice ao (q + 1) cap) ∧ Boxed W W2.heap.size 25 (.slice ao (q + 1) cap)) ∧ Below w.heap.size w W)
      (fun _ _ _ => False)
      (OwnFrom.and (Own.from (fun s A B row hs hg hr => ⟨hs.1.turn hg hr, boxed_turn hs.2.1 hg hr, boxed_turn hs.2.2 hg hr⟩) _) (ownFrom_below (Nat.le_refl _) (by simp; omega)))
      (fun _ _ _ _ _ hs _ _ => hs)
      ⟨⟨by simpa using hb2.grew ((Kept.refl Nought W2).alloc _), bx2.alloc _, bN⟩, hB0⟩
      ?act ?assign ?body ?done ?stop
    case hsw =>
      rintro k (rfl | ⟨hk, hp⟩)
      · simp
      · have := HOWN.out k hk hp
        simp; omega
    case hsw2 =>
      rintro k (rfl | ⟨hk, hp⟩)
      · simp
      · have := HOWN.out k hk hp
        simp; omega
    case assign =>
      intro l x W K hK
      gi_wp2
      exact hK
    case body =>
      rintro l pre x W ⟨⟨hb, hbx, hbs⟩, hB⟩ hlen
      have hx := x.isLt
      have hsW : w.heap.size + 1 ≤ W.heap.size := by have := hbx.lt; omega
      have hy := HGB.out x.val
      have hF := nFmt (g x.val) hy W (hT.grew (kept_of_below hB))
      obtain ⟨D, hD⟩ : ∃ D : ByteArray, D = ⟨(hexW (g x.val)).toArray⟩ := ⟨_, rfl⟩
      rw [← hD] at hF
      obtain ⟨m, hm⟩ : ∃ m, m = (hexW (g x.val)).length := ⟨_, rfl⟩
      have hDs : D.size = m := by rw [hD, hm]; simp [ByteArray.size]
      have HDL : Hid (D.data.toList = hexW (g x.val)) := by rw [hD]; rfl
      have hm16 : m ≤ 16 := by rw [hm]; exact hexW_le hy
      have HM : Hid (m = (hexW (g x.val)).length) := hm
      obtain ⟨l0, hl0⟩ : ∃ l0 : List UInt8, l0 = [48, 120] ++ (pre.map fun x : Fin (q + 1) => piece g (q + 1) x.val).flatten := ⟨_, rfl⟩
      rw [← hl0] at hb
      have hlen0 : l0.length ≤ 20000000 := by
        have h1 := pieces_le HGB.out pre
        rw [hl0, List.length_append]
        have h2 : ([48, 120] : List UInt8).length = 2 := rfl
        omega
      have HPC : Hid ([48, 120] ++ ((pre ++ [x]).map fun x : Fin (q + 1) => piece g (q + 1) x.val).flatten = l0 ++ piece g (q + 1) x.val) := by
        unfold Hid
        rw [hl0, List.map_append, List.flatten_append, List.map_singleton, List.flatten_singleton, List.append_assoc]
      clear hl0
      clear hD hm hg hrA rA hb2 bx2 bN hbc
      gi_wp2_with fail
      refine ⟨trivial, ?_⟩
      refine (CallsIn.inRound l (callsIn_wide.2 hF)).mono ?_
      rintro e Wa ⟨rfl, ka⟩
      have hba := hb.grew ka
      have hbxa : Boxed Wa w.heap.size 25 (.slice ao (q + 1) cap) := (ka.block _ hbx.lt (fun f => f)).trans hbx
      have hbca := hbxa.cell
      clear hF
      by_cases hlt : x.val < q
      · have hlt' : (x.val : Int) < (q : Int) := by omega
        obtain ⟨c, hc⟩ : ∃ c, c = 16 - m := ⟨_, rfl⟩
        have hc' : (16 : Int) - (m : Int) = (c : Int) := by omega
        have hRp := nRepeat c (by omega) Wa
        obtain ⟨Z, hZ⟩ : ∃ Z : ByteArray, Z = ⟨(List.replicate c (48 : UInt8)).toArray⟩ := ⟨_, rfl⟩
        rw [← hZ] at hRp
        have hZs : Z.size = c := by rw [hZ]; simp [ByteArray.size]
        have HZL : Hid (Z.data.toList = List.replicate c 48) := by rw [hZ]; rfl
        have HC : Hid (c = 16 - m) := hc
        clear hZ hc
        gi_wp2_with fail
        refine ⟨trivial, ?_⟩
        refine (CallsIn.inRound l (callsIn_wide.2 hRp)).mono ?_
        rintro e Wb ⟨rfl, kb⟩
        have hW1 := nWrite (w.heap.size + 1) (w.heap.size + 1) l0 Z Wb (hba.grew kb) (by omega) (by have := ka.size; have := kb.size; omega)
        clear hRp
        gi_wp2_with fail
        refine ⟨trivial, ?_⟩
        refine (CallsIn.inRound l (callsIn_wide.2 hW1)).mono ?_
        rintro e Wc ⟨rfl, hbc, belc, othc⟩
        have hlz : (l0 ++ Z.data.toList).length ≤ 20000016 := by rw [List.length_append, ← size_list]; omega
        have hW2 := nWrite (w.heap.size + 1) (w.heap.size + 1) (l0 ++ Z.data.toList) D Wc hbc (by omega) (by have := ka.size; have := kb.size; have := belc.size; omega)
        clear hW1
        gi_wp2_with fail
        refine ⟨trivial, ?_⟩
        refine (CallsIn.inRound l (callsIn_wide.2 hW2)).mono ?_
        rintro e Wd ⟨rfl, hbd, beld, othd⟩
        clear hW2
        gi_wp2
        have bel := ((below_kept (ka.trans kb) hsW).trans belc).trans beld
        have oth := others_trans (others_trans (others_kept (ka.trans kb)) othc) othd
        obtain ⟨r1, r2, r3, r4, r5⟩ := show_round (p := q + 1) hb hbd bel oth hbx hbs (by omega) (by omega) (fun k hk hp => by have := HOWN.out k hk hp; omega)
        refine ⟨r1.from _, r2, ⟨?_, r4, r5⟩, hB.trans (bel.mono (by omega))⟩
        have e : l0 ++ Z.data.toList ++ D.data.toList = [48, 120] ++ ((pre ++ [x]).map fun x : Fin (q + 1) => piece g (q + 1) x.val).flatten := by
          rw [HPC.out, HZL.out, HDL.out, piece, if_pos (by omega), HC.out, HM.out, List.append_assoc]
        rw [← e]
        exact r3
      · have hlt' : ¬ (x.val : Int) < (q : Int) := by omega
        have hW2 := nWrite (w.heap.size + 1) (w.heap.size + 1) l0 D Wa hba (by omega) (by have := ka.size; omega)
        gi_wp2_with fail
        refine ⟨trivial, ?_⟩
        refine (CallsIn.inRound l (callsIn_wide.2 hW2)).mono ?_
        rintro e Wd ⟨rfl, hbd, beld, othd⟩
        clear hW2
        gi_wp2
        have bel := (below_kept ka hsW).trans beld
        have oth := others_trans (others_kept ka) othd
        obtain ⟨r1, r2, r3, r4, r5⟩ := show_round (p := q + 1) hb hbd bel oth hbx hbs (by omega) (by omega) (fun k hk hp => by have := HOWN.out k hk hp; omega)
        refine ⟨r1.from _, r2, ⟨?_, r4, r5⟩, hB.trans (bel.mono (by omega))⟩
        have e : l0 ++ D.data.toList = [48, 120] ++ ((pre ++ [x]).map fun x : Fin (q + 1) => piece g (q + 1) x.val).flatten := by
          rw [HPC.out, HDL.out, piece, if_neg (by omega)]
        rw [← e]
        exact r3
    case done =>
      rintro Dd ys W hDd hys ⟨⟨hb, hbx, hbs⟩, hB⟩ hK
      have hsW : w.heap.size + 1 ≤ W.heap.size := by have := hbx.lt; omega
      have hpc := pieces HG.out HP.out (by omega)
      have hmap : (ys.map fun x : Fin (q + 1) => piece g (q + 1) x.val) = (downIdx (q + 1) 0).map (piece g (q + 1)) := by rw [← hys, List.map_map]; rfl
      rw [hmap, hpc] at hb
      have hV : V ≠ 0 := by
        intro e
        have : wordsN V = 0 := by rw [e]; rfl
        have := HP.out
        omega
      rw [← show_pos hV rfl, ← HR.out] at hb
      clear hmap hpc hys hg hrA rA hb2 bx2 bN hbc
      have hSt := Any.Builder_String_any_k l169 lBld (w.heap.size + 1) (w.heap.size + 1) R W hb (by omega)
      go_wp2_with fail
      refine hSt.mono ?_
      rintro e W5 ⟨rfl, hb5, bel5, oth5⟩
      have hK5 := (others_noncells oth5 bel5 R hb).same Dd _ hK rfl
      clear hSt
      go_wp2
      refine ⟨by simp, .inl ⟨_, _, rfl, run_takeDeferred hK5, ?_⟩⟩
      have hB5 : Below w.heap.size w W5 := hB.trans (bel5.mono (by omega))
      have hBf := hB5.trans (belowK_b (w := w) (Nat.le_refl _) W5 Dd _ (.deferred none) (by simp at hDd; omega) hK5 rfl rfl)
      exact ⟨_, results_tmp rfl _ _ _, rfl, kept_of_below hBf⟩
    case stop =>
      rintro D c pre W _ _ h _
      exact h.elim

end Go.Proofs.YtcdpmiheeenmmaaDoor
