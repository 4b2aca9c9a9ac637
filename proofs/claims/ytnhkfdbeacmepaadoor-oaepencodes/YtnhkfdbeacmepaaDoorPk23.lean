/- Put together of: Mgf3. -/
import Derived.Test.YtnhkfdbeacmepaaDoorPk22

/- Package mgf: Mask. -/
namespace Go.Proofs.YtnhkfdbeacmepaaDoor
open Go.RowKit Go.Shelf

attribute [local go_sem] Oper.semAt_some

theorem splice_app {A Z C : List Nat} (f : Nat → Value) {n : Nat} (hn : A.length = n) : splice ((A ++ Z).map f) n (C.map f) = (A ++ C ++ Z.drop C.length).map f := by
  subst hn
  simp [splice, List.drop_append]

/-- What stands between two rounds of Mask: k blocks at gM, the rest of it in the box gR. -/
structure BtwK (w W : World) (gM gR n z k : Nat) (h : Int) (seed : List Nat) : Prop where
  few : k = 0 ∨ k * z < n
  arr : Arr .u8 5 W gM (mskL h seed k ++ List.replicate (n - k * z) 0)
  box : Boxed W gR 22 (.slice (some ⟨gM, k * z, none⟩) (n - k * z) (n - k * z))
  old : Kept Nought w W

theorem kept_low {w A C : World} {B : Nat} (k : Kept Nought w A) (hb : Below B A C) (hB : w.heap.size ≤ B) : Kept Nought w C :=
  ⟨hb.os.trans k.os, hb.tape.trans k.tape, hb.output.trans k.output, Nat.le_trans k.size hb.size, fun i hi hs => (hb.block i (by omega)).trans (k.block i hi hs)⟩

theorem arr_low {A C : World} {B g : Nat} {t : TypeId} {zs : List Nat} (h : Arr .u8 t A g zs) (hb : Below B A C) (hg : g < B) : Arr .u8 t C g zs := (hb.block g hg).trans h

theorem BtwK.low {w A C : World} {gM gR n z k B : Nat} {h : Int} {seed : List Nat} (b : BtwK w A gM gR n z k h seed) (hb : Below B A C) (h1 : w.heap.size ≤ B) (h2 : gM < B) (h3 : gR < B) : BtwK w C gM gR n z k h seed :=
  ⟨b.few, arr_low b.arr hb h2, (hb.block _ h3).trans b.box, kept_low b.old hb h1⟩

/-- One block more, and there is room for others. -/
theorem msk_more (h : Int) (seed : List Nat) {n z k : Nat} (hz : z = hszN h) : mskL h seed k ++ (mblk h seed k).take z ++ (List.replicate (n - k * z) 0).drop z = mskL h seed (k + 1) ++ List.replicate (n - (k + 1) * z) 0 := by
  have e1 : (mblk h seed k).take z = mblk h seed k := List.take_of_length_le (by unfold mblk; rw [hshN_length, hz]; omega)
  have e2 : mskL h seed (k + 1) = mskL h seed k ++ mblk h seed k := rfl
  rw [e1, e2, List.drop_replicate, Nat.succ_mul, Nat.sub_sub]

/-- The last block. -/
theorem msk_last (h : Int) (seed : List Nat) {n z k : Nat} (hz : z = hszN h) (hp : 0 < z) (hk : k * z ≤ n) (hr : n - k * z ≤ z) : mskL h seed k ++ (mblk h seed k).take (n - k * z) ++ (List.replicate (n - k * z) 0).drop (n - k * z) = mskN h seed n := by
  have e0 : (mskL h seed k).length = k * z := by rw [mskL_length, hz]
  have e1 : mskL h seed k ++ (mblk h seed k).take (n - k * z) = (mskL h seed (k + 1)).take n := by
    show _ = (mskL h seed k ++ mblk h seed k).take n
    rw [List.take_append, e0, List.take_of_length_le (l := mskL h seed k) (by omega)]
  rw [e1, List.drop_of_length_le (by simp), List.append_nil]
  unfold mskN
  by_cases hkn : k + 1 ≤ n
  · refine (mskL_take h seed hkn ?_).symm
    rw [mskL_length, ← hz, Nat.succ_mul]
    omega
  · refine mskL_take h seed (by omega) ?_
    rw [mskL_length, ← hz]
    exact Nat.le_mul_of_pos_right n hp

set_option maxRecDepth 100000 in
set_option maxHeartbeats 4000000 in
/-- Mask. -/
theorem gMask (h : Int) (v : Value) (seed : List Nat) (n : Nat) (w : World) (hT : TabH w) (hr : Row .u8 w v seed) (hd : Digs 256 seed) (hl : seed.length ≤ 900000) (hE : mskE h n = 0) :
    Calls Tryd.prog 50 #[.int .i64 h, v, .int .i64 (n : Int)] w fun e w' => ∃ v', e = .returned (.tuple #[v', .int .i64 0]) ∧ OwnB w' w.heap.size v' (mskN h seed n) ∧ Kept Nought w w' := by
  obtain ⟨i0, hi0, hz0, hz1, hz2⟩ := info_parts Tryd.info8s
  obtain ⟨hz, _, hn⟩ := mskE_zero hE
  have J := toHid fun W => z13Size h W
  obtain ⟨ao, L, cap, rfl, hLs, _⟩ := hr.open
  have hLb : L ≤ 900000 := by have := hLs.out; omega
  obtain ⟨z, hzz⟩ : ∃ z, z = hszN h := ⟨_, rfl⟩
  rw [← hzz] at J hz
  have HZ := toHid hzz
  have HR := toHid hr
  have HD := toHid hd
  have HT := toHid hT
  have HZP : Hid (0 < z) := by unfold Hid; omega
  have h0' : ((z : Int) == 0) = false := beq_eq_false_iff_ne.2 (by omega)
  have h0'' : ¬ (z : Int) = 0 := by omega
  have h1 : ¬ (n : Int) < 0 := by omega
  have h2 : ¬ (n : Int) > 10000 := by omega
  have h2' : ¬ (10000 : Int) < (n : Int) := by omega
  have h2n : n ≤ 10000 := by omega
  have h3 : (0 : Int) ≤ (n : Int) := by omega
  clear hE hr hd hl hn hz hzz hLs hT
  refine (callsIn_wide (n := 9)).1 ?_
  refine callsIn_of_wp_marks Tryd.func50 rfl trivial ?_ rfl
  simp only [Tryd.ntmps50, List.size_toArray, List.length_cons, List.length_nil, Nat.reduceAdd, Nat.reduceSub, Array.replicate_succ, Array.replicate_zero, List.push_toArray, List.append_toArray, List.nil_append, List.cons_append]
  refine wpIn_wide.2 ?_
  go_wp2_with fail
  refine (J.out _).mono ?_
  rintro e w1 ⟨rfl, k1⟩
  clear J
  go_wp2_with (at_make; refine wpList_make_full _ rfl _ _ 22 rfl w1.heap.size 5 i0 _ 1 Tryd.underlying22 hi0 hz0 hz1 _ _ _ _ n rfl rfl rfl rfl (by rw [hz2]; omega) (by unfold maxLen; omega) (Nat.le_refl _) ?_; intro w2 ho2 hg2; rw [zeros_map] at ho2; have k2 := grown_kept hg2; have hA2 : Arr .u8 5 w2 w1.heap.size (List.replicate n 0) := own_block ho2; have HA2 := toHid hA2; have HK2 := toHid (k1.trans k2); have hgM := lt_of_block hA2; have hB := gBlocks h ao L cap (w2.alloc (.cells #[.slice (some ⟨w1.heap.size, 0, none⟩) n n] 22)); rw [World.size_alloc] at hB; clear ho2 hg2 k2 hA2)
  refine hB.mono ?_
  rintro e w3 ⟨rfl, rfl⟩
  clear hB
  have hgw := k1.size
  have kW : Kept Nought w (((w2.alloc (.cells #[.slice (some ⟨w1.heap.size, 0, none⟩) n n] 22)).alloc (.cells #[.int .i64 h] 3)).alloc (.cells #[.slice ao L cap] 22)) := ((HK2.out.alloc _).alloc _).alloc _
  have hsW : (((w2.alloc (.cells #[.slice (some ⟨w1.heap.size, 0, none⟩) n n] 22)).alloc (.cells #[.int .i64 h] 3)).alloc (.cells #[.slice ao L cap] 22)).heap.size = w2.heap.size + 3 := by simp
  have bxR := ((Boxed.new w2 22 (.slice (some ⟨w1.heap.size, 0, none⟩) n n)).alloc (.cells #[.int .i64 h] 3)).alloc (.cells #[.slice ao L cap] 22)
  have bxH := (Boxed.new (w2.alloc (.cells #[.slice (some ⟨w1.heap.size, 0, none⟩) n n] 22)) 3 (.int .i64 h)).alloc (.cells #[.slice ao L cap] 22)
  have bxS := Boxed.new ((w2.alloc (.cells #[.slice (some ⟨w1.heap.size, 0, none⟩) n n] 22)).alloc (.cells #[.int .i64 h] 3)) 22 (.slice ao L cap)
  rw [World.size_alloc, World.size_alloc] at bxS
  rw [World.size_alloc] at bxH
  have hAW : Arr .u8 5 (((w2.alloc (.cells #[.slice (some ⟨w1.heap.size, 0, none⟩) n n] 22)).alloc (.cells #[.int .i64 h] 3)).alloc (.cells #[.slice ao L cap] 22)) w1.heap.size (List.replicate n 0) := HA2.out.grew ((((Kept.refl Nought w2).alloc _).alloc _).alloc _)
  have B0 : Hid (BtwK w (((w2.alloc (.cells #[.slice (some ⟨w1.heap.size, 0, none⟩) n n] 22)).alloc (.cells #[.int .i64 h] 3)).alloc (.cells #[.slice ao L cap] 22)) w1.heap.size w2.heap.size n z 0 h seed) := by
    refine ⟨.inl rfl, ?_, ?_, kW⟩
    · rw [Nat.zero_mul, Nat.sub_zero]
      exact hAW
    · rw [Nat.zero_mul, Nat.sub_zero]
      exact bxR
  have HKW := toHid kW
  clear HA2 HK2 hAW bxR k1 kW
  go_wp2_with fail
  generalize ((w2.alloc (.cells #[.slice (some ⟨w1.heap.size, 0, none⟩) n n] 22)).alloc (.cells #[.int .i64 h] 3)).alloc (.cells #[.slice ao L cap] 22) = W3 at *
  obtain ⟨gM, hM⟩ : ∃ gM, gM = w1.heap.size := ⟨_, rfl⟩
  obtain ⟨gR, hR⟩ : ∃ gR, gR = w2.heap.size := ⟨_, rfl⟩
  rw [← hM] at hgw hgM B0 ⊢
  rw [← hR] at hgM hsW bxH bxS B0 ⊢
  have HSW := toHid hsW
  clear hM hR hsW
  refine (wpIn_wide (n := 9)).1 ?_
  refine wpIn_range_cells (n := 9) (by omega) (gf := 84) (lb := #[.pointer (some ⟨gR + 2, 0, none⟩), .pointer (some ⟨gR + 1, 0, none⟩)]) rfl (enters_of Tryd.func84 (by kernel_rfl) rfl)
    (gBlocks1 8 (by omega) (gR + 2) (gR + 1) h ao L cap (n + 1) seed w W3 (fun b => b = gM ∨ b = gR) HT.out HR.out HD.out hLb HKW.out bxS bxH (by omega) ?hSb ?hs1 ?hs2) (fun _ => rfl) ?hSb2 (fun _ _ _ _ _ o' hx hl ho => row_put o' hx hl ho)
    (fun pre W => BtwK w W gM gR n z pre.length h seed) (fun c _ W => c = .exit 1 ∧ Arr .u8 5 W gM (mskN h seed n) ∧ Kept Nought w W)
    ?low ?lowx ?few B0.out ?act ?assign ?body ?done ?stop
  case hSb =>
    have := HSW.out
    rintro b (rfl | rfl) <;> omega
  case hs1 => omega
  case hs2 => omega
  case hSb2 =>
    have := HSW.out
    rintro b (rfl | rfl) <;> omega
  case low =>
    have := HSW.out
    exact fun s A C hi hb => hi.low hb HKW.out.size (by omega) (by omega)
  case lowx =>
    have := HSW.out
    exact fun c s A C hi hb => ⟨hi.1, arr_low hi.2.1 hb (by omega), kept_low hi.2.2 hb HKW.out.size⟩
  case few =>
    intro s A hi
    rcases hi.few with e | e
    · omega
    · have : s.length * 1 ≤ s.length * z := Nat.mul_le_mul_left _ HZP.out
      omega
  case assign =>
    intro l x W K hK
    gi_wp2
    exact hK
  case body =>
    rintro l pre x W hI hX
    have hX' : Row .u8 W x (mblk h seed pre.length) := hX
    obtain ⟨xo, xn, xc, rfl, hxl, _⟩ := hX'.open
    obtain rfl : xn = z := by
      have := hxl.out
      unfold mblk at this
      rw [hshN_length] at this
      rw [HZ.out]
      exact this.symm
    obtain ⟨k, hk⟩ : ∃ k, k = pre.length := ⟨_, rfl⟩
    have HPL : Hid (pre.length = k) := hk.symm
    rw [← hk] at hI hX'
    clear hk hX hxl
    have hkz : k * xn ≤ n := by
      rcases hI.few with e | e
      · rw [e]; omega
      · omega
    obtain ⟨off, hoff⟩ : ∃ off, off = k * xn := ⟨_, rfl⟩
    obtain ⟨r, hrr⟩ : ∃ r, r = n - k * xn := ⟨_, rfl⟩
    have HOFF := toHid hoff
    have HRR := toHid hrr
    have HI := toHid hI
    have HEnd : Hid (∀ wE, Kept (fun b => b = gM ∨ b = gR) W wE → Arr .u8 5 wE gM (mskN h seed n) → leftC (fun b => b = gM ∨ b = gR) (fun pre W => BtwK w W gM gR n xn pre.length h seed) (fun c _ W => c = .exit 1 ∧ Arr .u8 5 W gM (mskN h seed n) ∧ Kept Nought w W) (pre ++ [Value.slice xo xn xc]) W (.exit 1) { tmps := #[], defers := [] } wE) := fun wE k1 hA => by
      refine ⟨k1, rfl, hA, HI.out.old.next k1 ?_⟩
      rintro b hb (e | e) <;> omega
    have HMore : Hid (∀ wE, Kept (fun b => b = gM ∨ b = gR) W wE → Arr .u8 5 wE gM (mskL h seed (k + 1) ++ List.replicate (n - (k + 1) * xn) 0) → Boxed wE gR 22 (.slice (some ⟨gM, (k + 1) * xn, none⟩) (n - (k + 1) * xn) (n - (k + 1) * xn)) → (k + 1) * xn < n → Kept (fun b => b = gM ∨ b = gR) W wE ∧ BtwK w wE gM gR n xn (pre ++ [Value.slice xo xn xc]).length h seed) := fun wE k1 hA hb hlt => by
      rw [List.length_append, HPL.out]
      refine ⟨k1, .inr hlt, hA, hb, HI.out.old.next k1 ?_⟩
      rintro b hb (e | e) <;> omega
    have bR := hI.box
    have aM := hI.arr
    rw [← hrr, ← hoff] at bR
    have cR := bR.cell
    have fR := bR.frozen
    obtain ⟨c, hc⟩ : ∃ c, c = min xn r := ⟨_, rfl⟩
    have hlenM : (mskL h seed k).length = off := by rw [mskL_length, hoff, HZ.out]
    obtain ⟨w2', hrun, hb2, k2⟩ := run_copy_part (P := Tryd.prog) (w := W.drew) 22 22 3 5 gM off r r (some ⟨gM, off, none⟩) xo xn xc _ 5 (((mblk h seed k).take c).map fun z : Nat => Value.int .u8 (z : Int)) Tryd.underlying22 (by rw [hi0]; simp [hz1]) (show W.drew.heap[gM]? = _ from aM) (by
        rw [List.length_map, List.length_take]
        unfold mblk
        rw [hshN_length, ← HZ.out, hc]
        show min (min xn r) xn = min xn r
        omega) (fun hp => ⟨rfl, row_src (n := c) (cap := xc) (hX'.cut (m := c) (by unfold mblk; rw [hshN_length, ← HZ.out]; omega)) (Kept.refl Nought W).drew hp⟩) (by
        rw [List.length_map, List.length_take, List.length_map, List.length_append, List.length_replicate, hlenM, ← hrr]
        omega) (ones8 _ _)
    have hcl : ((mblk h seed k).take c).length = c := by
      rw [List.length_take]
      unfold mblk
      rw [hshN_length, ← HZ.out]
      omega
    rw [List.length_map, hcl] at hrun
    rw [splice_app _ hlenM, hcl] at hb2
    have HB2 := toHid hb2
    have HK2 : Hid (Kept (fun b => b = gM) W w2') := ⟨k2.os, k2.tape, k2.output, k2.size, k2.block⟩
    have bR2 : Boxed w2' gR 22 (.slice (some ⟨gM, off, none⟩) r r) := boxed_but bR HK2.out (by omega)
    have cR2 := bR2.cell
    have fR2 := bR2.frozen
    have cR1 : W.drew.cell? ⟨gR, 0, none⟩ = some (.slice (some ⟨gM, off, none⟩) r r) := cR
    have HBR2 := toHid bR2
    clear hI bR aM hlenM hcl hb2 k2 bR2 hX'
    by_cases hzr : xn < r
    · obtain rfl : c = xn := by omega
      have g1 : (c : Int) ≤ (r : Int) := by omega
      have g2 : (0 : Int) ≤ (c : Int) := by omega
      have g3 : c ≤ r := by omega
      have g4 : ¬ r = c := by omega
      have g5 : ¬ c = r := by omega
      have g6 : ¬ ((r - c : Nat) : Int) = 0 := by omega
      have g7 : ¬ (r - c) = 0 := by omega
      have hk1 : (k + 1) * c = off + c := by rw [Nat.succ_mul, ← HOFF.out]
      have hk2 : n - (k + 1) * c = r - c := by rw [hk1, HRR.out, ← HOFF.out]; omega
      have bE := HBR2.out.set (.slice (some ⟨gM, off + c, none⟩) (r - c) (r - c))
      have cE := bE.cell
      have HFin : Hid _ := HMore.out (w2'.setCell ⟨gR, 0, none⟩ (.slice (some ⟨gM, off + c, none⟩) (r - c) (r - c))) ((HK2.out.mono (fun _ _ e => .inl e)).setCell ⟨gR, 0, none⟩ (fun _ => .inr rfl) _) (by
        have := HB2.out
        rw [msk_more h seed HZ.out] at this
        exact heapAt_set this (by show gM ≠ gR; omega) _) (by
        rw [hk1, show n - (off + c) = r - c by rw [← hk1]; exact hk2]
        exact bE) (by rw [hk1]; have := HRR.out; have := HOFF.out; omega)
      clear hc hrr hoff hkz hk1 hk2 bE
      gi_wp2_with fail
      refine region_round (S := fun _ => True) (by kernel_rfl) (by kernel_rfl) (by rintro ⟨a, w, h⟩; exact h) ?_
      refine wpAnyH_take (i := 2) (v := .slice xo c xc) rfl (by kernel_rfl) (by kernel_rfl) (by kernel_rfl) (fun _ _ _ h => h) (Or.inl ⟨by rfl, fun w9 hw9 => ?_⟩) trivial ?_
      · go_simp
      simp only [Act.put, List.getElem_toArray, List.getElem_cons_succ, List.getElem_cons_zero, List.setIfInBounds_toArray, List.set_cons_zero, List.set_cons_succ]
      refine wpAnyH_ready (rs := [0, 1]) (by kernel_rfl) (by simp) ?_
      refine AllReadyH.cons rfl (fun K hK => ?_) (AllReadyH.cons rfl (fun K hK => ?_) AllReadyH.nil)
      · go_simp
        refine hK.out _ _ trivial (fun _ => ?_)
        refine wpAnyH_ready (rs := [1]) (by kernel_rfl) (by simp) ?_
        refine AllReadyH.cons rfl (fun K hK => ?_) AllReadyH.nil
        go_simp
        refine hK.out _ _ trivial (fun _ => ?_)
        refine wpAnyH_ready (rs := [3]) (by kernel_rfl) (by simp) ?_
        refine AllReadyH.cons rfl (fun K hK => ?_) AllReadyH.nil
        go_simp
        refine hK.out _ _ trivial (fun _ => ?_)
        refine wpAnyH_ready (rs := [4]) (by kernel_rfl) (by simp) ?_
        refine AllReadyH.cons rfl (fun K hK => ?_) AllReadyH.nil
        go_simp
        refine hK.out _ _ trivial (fun _ => ?_)
        refine wpAnyH_ready (rs := [5]) (by kernel_rfl) (by simp) ?_
        refine AllReadyH.cons rfl (fun K hK => ?_) AllReadyH.nil
        go_simp
        refine hK.out _ _ trivial (fun _ => ?_)
        refine wpAnyH_done (by kernel_rfl) ?_ _
        gi_wp2_with fail
        exact HFin.out
      · go_simp
        refine hK.out _ _ trivial (fun _ => ?_)
        refine wpAnyH_ready (rs := [0, 3]) (by kernel_rfl) (by simp) ?_
        refine AllReadyH.cons rfl (fun K hK => ?_) (AllReadyH.cons rfl (fun K hK => ?_) AllReadyH.nil)
        · go_simp
          refine hK.out _ _ trivial (fun _ => ?_)
          refine wpAnyH_ready (rs := [3]) (by kernel_rfl) (by simp) ?_
          refine AllReadyH.cons rfl (fun K hK => ?_) AllReadyH.nil
          go_simp
          refine hK.out _ _ trivial (fun _ => ?_)
          refine wpAnyH_ready (rs := [4]) (by kernel_rfl) (by simp) ?_
          refine AllReadyH.cons rfl (fun K hK => ?_) AllReadyH.nil
          go_simp
          refine hK.out _ _ trivial (fun _ => ?_)
          refine wpAnyH_ready (rs := [5]) (by kernel_rfl) (by simp) ?_
          refine AllReadyH.cons rfl (fun K hK => ?_) AllReadyH.nil
          go_simp
          refine hK.out _ _ trivial (fun _ => ?_)
          refine wpAnyH_done (by kernel_rfl) ?_ _
          gi_wp2_with fail
          exact HFin.out
        · go_simp
          refine hK.out _ _ trivial (fun _ => ?_)
          refine wpAnyH_ready (rs := [0]) (by kernel_rfl) (by simp) ?_
          refine AllReadyH.cons rfl (fun K hK => ?_) AllReadyH.nil
          go_simp
          refine hK.out _ _ trivial (fun _ => ?_)
          refine wpAnyH_ready (rs := [4]) (by kernel_rfl) (by simp) ?_
          refine AllReadyH.cons rfl (fun K hK => ?_) AllReadyH.nil
          go_simp
          refine hK.out _ _ trivial (fun _ => ?_)
          refine wpAnyH_ready (rs := [5]) (by kernel_rfl) (by simp) ?_
          refine AllReadyH.cons rfl (fun K hK => ?_) AllReadyH.nil
          go_simp
          refine hK.out _ _ trivial (fun _ => ?_)
          refine wpAnyH_done (by kernel_rfl) ?_ _
          gi_wp2_with fail
          exact HFin.out
    · obtain rfl : c = r := by omega
      have g1 : (c : Int) ≤ (c : Int) := by omega
      have g2 : (0 : Int) ≤ (c : Int) := by omega
      have bE := HBR2.out.set (.slice (some ⟨gM, off, none⟩) 0 0)
      have cE := bE.cell
      have HFin : Hid _ := HEnd.out (w2'.setCell ⟨gR, 0, none⟩ (.slice (some ⟨gM, off, none⟩) 0 0)) ((HK2.out.mono (fun _ _ e => .inl e)).setCell ⟨gR, 0, none⟩ (fun _ => .inr rfl) _) (by
        have := HB2.out
        rw [show c = n - k * xn from HRR.out, msk_last h seed HZ.out HZP.out hkz (by have := HRR.out; omega)] at this
        exact heapAt_set this (by show gM ≠ gR; omega) _)
      clear hc hrr hoff hkz bE
      gi_wp2_with fail
      refine region_round (S := fun _ => True) (by kernel_rfl) (by kernel_rfl) (by rintro ⟨a, w, h⟩; exact h) ?_
      refine wpAnyH_take (i := 2) (v := .slice xo xn xc) rfl (by kernel_rfl) (by kernel_rfl) (by kernel_rfl) (fun _ _ _ h => h) (Or.inl ⟨by rfl, fun w9 hw9 => ?_⟩) trivial ?_
      · go_simp
      simp only [Act.put, List.getElem_toArray, List.getElem_cons_succ, List.getElem_cons_zero, List.setIfInBounds_toArray, List.set_cons_zero, List.set_cons_succ]
      refine wpAnyH_ready (rs := [0, 1]) (by kernel_rfl) (by simp) ?_
      refine AllReadyH.cons rfl (fun K hK => ?_) (AllReadyH.cons rfl (fun K hK => ?_) AllReadyH.nil)
      · go_simp
        refine hK.out _ _ trivial (fun _ => ?_)
        refine wpAnyH_ready (rs := [1]) (by kernel_rfl) (by simp) ?_
        refine AllReadyH.cons rfl (fun K hK => ?_) AllReadyH.nil
        go_simp
        refine hK.out _ _ trivial (fun _ => ?_)
        refine wpAnyH_ready (rs := [3]) (by kernel_rfl) (by simp) ?_
        refine AllReadyH.cons rfl (fun K hK => ?_) AllReadyH.nil
        go_simp
        refine hK.out _ _ trivial (fun _ => ?_)
        refine wpAnyH_ready (rs := [4]) (by kernel_rfl) (by simp) ?_
        refine AllReadyH.cons rfl (fun K hK => ?_) AllReadyH.nil
        go_simp
        refine hK.out _ _ trivial (fun _ => ?_)
        refine wpAnyH_ready (rs := [5]) (by kernel_rfl) (by simp) ?_
        refine AllReadyH.cons rfl (fun K hK => ?_) AllReadyH.nil
        go_simp
        refine hK.out _ _ trivial (fun _ => ?_)
        refine wpAnyH_done (by kernel_rfl) ?_ _
        gi_wp2_with fail
        exact ⟨HFin.out.1, rfl, HFin.out.2.2⟩
      · go_simp
        refine hK.out _ _ trivial (fun _ => ?_)
        refine wpAnyH_ready (rs := [0, 3]) (by kernel_rfl) (by simp) ?_
        refine AllReadyH.cons rfl (fun K hK => ?_) (AllReadyH.cons rfl (fun K hK => ?_) AllReadyH.nil)
        · go_simp
          refine hK.out _ _ trivial (fun _ => ?_)
          refine wpAnyH_ready (rs := [3]) (by kernel_rfl) (by simp) ?_
          refine AllReadyH.cons rfl (fun K hK => ?_) AllReadyH.nil
          go_simp
          refine hK.out _ _ trivial (fun _ => ?_)
          refine wpAnyH_ready (rs := [4]) (by kernel_rfl) (by simp) ?_
          refine AllReadyH.cons rfl (fun K hK => ?_) AllReadyH.nil
          go_simp
          refine hK.out _ _ trivial (fun _ => ?_)
          refine wpAnyH_ready (rs := [5]) (by kernel_rfl) (by simp) ?_
          refine AllReadyH.cons rfl (fun K hK => ?_) AllReadyH.nil
          go_simp
          refine hK.out _ _ trivial (fun _ => ?_)
          refine wpAnyH_done (by kernel_rfl) ?_ _
          gi_wp2_with fail
          exact ⟨HFin.out.1, rfl, HFin.out.2.2⟩
        · go_simp
          refine hK.out _ _ trivial (fun _ => ?_)
          refine wpAnyH_ready (rs := [0]) (by kernel_rfl) (by simp) ?_
          refine AllReadyH.cons rfl (fun K hK => ?_) AllReadyH.nil
          go_simp
          refine hK.out _ _ trivial (fun _ => ?_)
          refine wpAnyH_ready (rs := [4]) (by kernel_rfl) (by simp) ?_
          refine AllReadyH.cons rfl (fun K hK => ?_) AllReadyH.nil
          go_simp
          refine hK.out _ _ trivial (fun _ => ?_)
          refine wpAnyH_ready (rs := [5]) (by kernel_rfl) (by simp) ?_
          refine AllReadyH.cons rfl (fun K hK => ?_) AllReadyH.nil
          go_simp
          refine hK.out _ _ trivial (fun _ => ?_)
          refine wpAnyH_done (by kernel_rfl) ?_ _
          gi_wp2_with fail
          exact ⟨HFin.out.1, rfl, HFin.out.2.2⟩
  case done =>
    rintro D s W _ h _ _
    exact h.elim
  case stop =>
    rintro D c s W hD ⟨rfl, hA, hk⟩ hK
    gi_wp2
    go_wp2_with fail
    refine ⟨by simp, .inl ⟨_, _, rfl, run_takeDeferred hK, ?_⟩⟩
    have hA' : Arr .u8 5 (W.putObj D (.deferred none)) gM (mskN h seed n) := (World.putObj_heap_other (by have := HSW.out; omega)).trans hA
    refine ⟨.tuple #[.slice (some ⟨gM, 0, none⟩) n n, .int .i64 0], by simp [results, Tryd.f50, go_sem], _, rfl, OwnB.of (own_of_block hA' ?_ (by unfold maxLen; omega) hgw), kept_low hk (low_put _ hD) HKW.out.size⟩
    unfold mskN
    rw [List.length_take, mskL_length, ← HZ.out]
    have : n * 1 ≤ n * z := Nat.mul_le_mul_left _ HZP.out
    omega

end Go.Proofs.YtnhkfdbeacmepaaDoor

