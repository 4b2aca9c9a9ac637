/- Package mgf: the blocks of a mask, as a range over a function hands them out (blocks): for ever, over memory of the iterator's own. -/
import Derived.Test.YtglioppchhepmaaDoorMgf1
import Derived.Test.YtglioppchhepmaaDoorSeq2
import Derived.Test.YtglioppchhepmaaDoorHas2
namespace Go.Proofs.YtglioppchhepmaaDoor
open Go.RowKit Go.Shelf

attribute [local go_sem] Oper.semAt_some

/-- A block of a mask. -/
def mblk (h : Int) (seed : List Nat) (k : Nat) : List Nat := hshN h (seed ++ cnt4 k)

/-- What is handed out. -/
def BlkX (h : Int) (seed : List Nat) (pre : List Value) (v : Value) (A : World) : Prop := Row .u8 A v (mblk h seed pre.length)

/-- blocks: both parameters are boxed; the function value holds the boxes. -/
theorem gBlocks (h : Int) (ao : Option Addr) (len cap : Nat) (w : World) :
    Calls Tryd.prog 13 #[.int .i64 h, .slice ao len cap] w fun e w' => e = .returned (.func (.func 16) #[] #[.pointer (some ⟨w.heap.size + 1, 0, none⟩), .pointer (some ⟨w.heap.size, 0, none⟩)]) ∧ w' = (w.alloc (.cells #[.int .i64 h] 3)).alloc (.cells #[.slice ao len cap] 22) := by
  go_enter Tryd.func13, Tryd.ntmps13
  go_wp2
  go_ret
  exact ⟨rfl, rfl⟩

theorem boxed_grew {w w' : World} {b : Nat} {t : TypeId} {v : Value} (h : Boxed w b t v) (k : Kept Nought w w') : Boxed w' b t v := (k.block _ h.lt (fun f => f)).trans h

theorem boxed_but {S : Nat → Prop} {w w' : World} {b : Nat} {t : TypeId} {v : Value} (h : Boxed w b t v) (k : Kept S w w') (hs : ¬ S b) : Boxed w' b t v := (k.block _ h.lt hs).trans h

/-- What stands between two rounds: the iterator's own bytes at block G, both boxes, all that lay in w0. -/
structure BtwM (w0 W wr : World) (G bs bh : Nat) (sv : Value) (h : Int) (seed : List Nat) : Prop where
  arr : ∃ ps : List Nat, ps.length = 4 ∧ Arr .u8 5 wr G (seed ++ ps)
  sb : Boxed wr bs 22 sv
  hb : Boxed wr bh 3 (.int .i64 h)
  old : Kept Nought w0 wr
  size : W.heap.size ≤ wr.heap.size

theorem BtwM.grew {w0 W wr w' : World} {G bs bh : Nat} {sv : Value} {h : Int} {seed : List Nat} (B : BtwM w0 W wr G bs bh sv h seed) (k : Kept Nought wr w') : BtwM w0 W w' G bs bh sv h seed := by
  obtain ⟨⟨ps, h1, h2⟩, h3, h4, h5, h6⟩ := B
  exact ⟨⟨ps, h1, h2.grew k⟩, boxed_grew h3 k, boxed_grew h4 k, h5.trans k, Nat.le_trans h6 k.size⟩

theorem BtwM.lay {w0 w W wr w' : World} {bs bh : Nat} {sv : Value} {h : Int} {seed ps : List Nat} (B : BtwM w0 W wr W.heap.size bs bh sv h seed) (k : Kept (fun b => b = W.heap.size) wr w') (hs : bs < w.heap.size) (hh : bh < w.heap.size) (hW : w.heap.size ≤ W.heap.size) (hp : ps.length = 4) (hA : Arr .u8 5 w' W.heap.size (seed ++ ps)) (h0 : w0.heap.size ≤ w.heap.size) : BtwM w0 W w' W.heap.size bs bh sv h seed := by
  obtain ⟨_, h3, h4, h5, h6⟩ := B
  exact ⟨⟨ps, hp, hA⟩, boxed_but h3 k (by omega), boxed_but h4 k (by omega), kept_new h5 k (by omega), Nat.le_trans h6 k.size⟩

theorem BtwM.turn {w0 w W wr w' : World} {bs bh l : Nat} {Sb : Nat → Prop} {sv : Value} {h : Int} {seed : List Nat} (B : BtwM w0 W wr W.heap.size bs bh sv h seed) (k : Kept (fun b => Sb b ∨ b = l ∨ b + 1 = l) wr w') (hs : bs < w.heap.size) (hh : bh < w.heap.size) (hW : W.heap.size = w.heap.size + 2) (hl : l = w.heap.size + 1) (s1 : ¬ Sb bs) (s2 : ¬ Sb bh) (hSb : ∀ b, Sb b → w0.heap.size ≤ b ∧ b < w.heap.size) (h0 : w0.heap.size ≤ w.heap.size) : BtwM w0 W w' W.heap.size bs bh sv h seed := by
  obtain ⟨⟨ps, h1, h2⟩, h3, h4, h5, h6⟩ := B
  refine ⟨⟨ps, h1, h2.kept k ?_⟩, boxed_but h3 k ?_, boxed_but h4 k ?_, h5.next k ?_, Nat.le_trans h6 k.size⟩
  · rintro (e | e | e)
    · have := (hSb _ e).2
      omega
    · omega
    · omega
  · rintro (e | e | e)
    · exact s1 e
    · omega
    · omega
  · rintro (e | e | e)
    · exact s2 e
    · omega
    · omega
  · rintro x hx (e | e | e)
    · have := (hSb _ e).1
      omega
    · omega
    · omega

set_option maxRecDepth 100000 in
set_option maxHeartbeats 2000000 in
/-- blocks' value, as a range over it wants it. -/
theorem gBlocks1 (n : Nat) (hn : 1 ≤ n) (bs bh : Nat) (h : Int) (ao : Option Addr) (L cap N : Nat) (seed : List Nat) (w0 w : World) (Sb : Nat → Prop) (hT : TabH w0) (hr : Row .u8 w0 (.slice ao L cap) seed) (hd : Digs 256 seed) (hL : L ≤ 900000) (hk : Kept Nought w0 w)
    (hbs : Boxed w bs 22 (.slice ao L cap)) (hbh : Boxed w bh 3 (.int .i64 h)) (hN : N ≤ 4294967295) (hSb : ∀ b, Sb b → w0.heap.size ≤ b ∧ b < w.heap.size) (hs1 : ¬ Sb bs) (hs2 : ¬ Sb bh) :
    SeqC n Tryd.prog 16 #[.pointer (some ⟨bs, 0, none⟩), .pointer (some ⟨bh, 0, none⟩)] (fun v : Value => #[v]) (BlkX h seed) Sb (fun _ => False) N w := by
  rintro l J Jx W hkW hlW hsW hJ hJN hY h0
  obtain ⟨i0, hi0, hz0, hz1, hz2⟩ := info_parts Tryd.info8s
  have hkw := hk.size
  have bsW : Boxed W bs 22 (.slice ao L cap) := (hkW.block _ hbs.lt (fun f => f)).trans hbs
  have bhW : Boxed W bh 3 (.int .i64 h) := (hkW.block _ hbh.lt (fun f => f)).trans hbh
  have HLT : Hid (bs < w.heap.size ∧ bh < w.heap.size) := ⟨hbs.lt, hbh.lt⟩
  obtain ⟨_, _, _, e0, hLs, _, _, _, _⟩ := hr.open
  cases e0
  obtain ⟨CS, hCS⟩ : ∃ CS, CS = seed.map fun z : Nat => Value.int .u8 (z : Int) := ⟨_, rfl⟩
  have HC := toHid hCS
  have HLC : Hid (CS.length = L) := by unfold Hid; rw [hCS, List.length_map]; exact hLs.out
  have HSRC : Hid (∀ A, Kept Nought w0 A → 0 < CS.length → ∃ ad, ao = some ad ∧ ∀ j u, CS[j]? = some u → A.cell? (ad.add j) = some u) := by rw [hCS]; exact fun A k hp => row_src hr k hp
  have HO1 : Hid (∀ u ∈ CS, u.oneCell' = true) := by rw [hCS]; exact ones8 _ _
  obtain ⟨m, hm⟩ : ∃ m, m = L + 4 := ⟨_, rfl⟩
  have gm : (L : Int) + 4 = (m : Int) := by omega
  have HM := toHid hm
  have hmb : m ≤ 900004 := by omega
  have gLm : (L : Int) ≤ (m : Int) := by omega
  have gL0 : (0 : Int) ≤ (L : Int) := by omega
  have HKW := toHid (hk.trans hkW)
  have cbs := bsW.cell
  have fbs := bsW.frozen
  have HBS := toHid bsW
  have HBH := toHid bhW
  have HTab : Hid (∀ A, Kept Nought w0 A → TabH A) := fun A k => hT.grew k
  have HDS := toHid hd
  have HH0 := toHid h0
  have HJN := toHid hJN
  have HSW := toHid hsW
  have HLW := toHid hlW
  clear hCS hm bsW bhW hT hr hd hk hkW hbs hbh h0 hJN hsW hlW
  refine callsIn_of_wp Tryd.func16 rfl trivial ?_ rfl
  simp only [Tryd.ntmps16, List.size_toArray, List.length_cons, List.length_nil, Nat.reduceAdd, Nat.reduceSub, Array.replicate_succ, Array.replicate_zero, List.push_toArray, List.append_toArray, List.nil_append, List.cons_append]
  refine wpIn_wide.2 ?_
  go_wp2_with (at_make; refine wpList_make_full _ rfl _ _ 22 rfl W.heap.size 5 i0 _ 1 Tryd.underlying22 hi0 hz0 hz1 _ _ _ _ m rfl rfl (by first | rfl | omega) (by first | rfl | omega) (by rw [hz2]; omega) (by unfold maxLen; omega) (Nat.le_refl _) ?_; intro w1 ho1 hg1; rw [zeros_map] at ho1; have k1 := grown_kept hg1; obtain ⟨w2, hrun, hb2, k2⟩ := run_copy_part (P := Tryd.prog) 22 22 3 5 W.heap.size 0 m m (some ⟨W.heap.size, 0, none⟩) ao L cap _ 5 CS Tryd.underlying22 (by rw [hi0]; simp [hz1]) (own_block ho1) (by rw [HLC.out]; exact (Nat.min_eq_left (by omega)).symm) (fun hp => ⟨rfl, HSRC.out _ (HKW.out.trans k1) hp⟩) (by have := HLC.out; simp; omega) HO1.out; rw [HLC.out] at hrun; have HB2 : Hid _ := hb2; have HK2 := toHid (kept_new k1 k2 (Nat.le_refl _)); have cbs1 := k1.cellN cbs; clear hb2 ho1 hg1 k1 k2)
  have HA2 : Hid (Arr .u8 5 w2 W.heap.size (seed ++ List.replicate 4 0)) := by
    have := HB2.out
    rw [HC.out, splice_fill, hLs.out, HM.out, show L + 4 - L = 4 by omega] at this
    exact this
  have H0 : Hid (BtwM w0 W w2 W.heap.size bs bh (.slice ao L cap) h seed) := ⟨⟨_, List.length_replicate, HA2.out⟩, boxed_grew HBS.out HK2.out, boxed_grew HBH.out HK2.out, HKW.out.trans HK2.out, HK2.out.size⟩
  have HJ0 : Hid (J [] w2) := hJ _ _ _ HH0.out (below_kept HK2.out (Nat.le_refl _))
  have HLS := toHid hLs
  rw [show m - L = 4 by have := HM.out; omega]
  clear HB2 HSRC HO1 HLC HC hrun HA2 HH0 cbs cbs1 fbs HBS HBH hLs
  refine (wpIn_wide (n := n)).1 ?_
  gi_loopw [6] (fun iv wr => ∃ (k : Nat) (pre : List Value), iv = .int .u32 (k : Int) ∧ Hid (pre.length = k) ∧ Hid (J pre wr) ∧ Hid (BtwM w0 W wr W.heap.size bs bh (.slice ao L cap) h seed)) (fun iv _ => N - (intOf iv).toNat)
  case atStart => exact ⟨0, [], rfl, rfl, HJ0.out, H0.out⟩
  case round =>
    clear HJ0 H0 HK2
    obtain ⟨k, pre, rfl, HP, HJ, HB⟩ := hrel
    have hkN : k < N := by have := HJN.out _ _ HJ.out; have := HP.out; omega
    have gk1 : IntKind.u32.wrap ((k : Int) + 1) = (k : Int) + 1 := by rw [IntKind.wrap_u32]; omega
    obtain ⟨ps, hps, hA⟩ := HB.out.arr
    have hLay := gLay W.heap.size L 4 k seed ps wr hA HLS.out.out hps
    clear hA hps
    gi_wp2_with fail
    refine ⟨trivial, ?_⟩
    refine (callsIn_wide.2 hLay).mono ?_
    rintro e w3 ⟨⟨v3, rfl⟩, hA3, k3⟩
    have B3 := toHid (HB.out.lay k3 HLT.out.1 HLT.out.2 (by have := HSW.out; omega) (cnt4_length k) hA3 hkw)
    have HJ3 := toHid (hJ _ _ _ HJ.out (k3.below HB.out.size (fun _ e => by omega)))
    have hSum := z13Sum h (.slice (some ⟨W.heap.size, 0, none⟩) m m) (seed ++ cnt4 k) w3 (HTab.out _ B3.out.old) (Row.of_block hA3 (by rw [List.length_append, HLS.out.out, cnt4_length]; exact HM.out.symm) (by unfold maxLen; omega)) (HDS.out.append (cnt4_digs k)) (by rw [List.length_append, HLS.out.out, cnt4_length]; omega)
    have cbh := B3.out.hb.cell
    clear hLay hA3 k3 HJ HB
    gi_wp2_with fail
    refine ⟨trivial, ?_⟩
    refine (callsIn_wide.2 hSum).mono ?_
    rintro e w4 ⟨v4, rfl, r4, _, k4⟩
    have B4 := toHid (B3.out.grew k4)
    have HJ4 := toHid (hJ _ _ _ HJ3.out (below_kept k4 B3.out.size))
    have hx4 : BlkX h seed pre v4 w4 := by unfold BlkX mblk; rw [HP.out]; exact r4
    obtain ⟨fn, tmps, assign, body, hy, hR⟩ := hY pre v4 w4 HJ4.out hx4
    obtain ⟨xo, xn, xc, rfl, _⟩ := r4.open
    clear hSum r4 k4 cbh hx4 B3 HJ3
    gi_wp2_with fail
    refine hR.mono ?_
    rintro e w5 (⟨rfl, hJ5, k5⟩ | ⟨rfl, hJx5⟩)
    · have B5 := toHid (B4.out.turn k5 HLT.out.1 HLT.out.2 HSW.out HLW.out hs1 hs2 hSb hkw)
      have HJ5 := toHid hJ5
      clear hR hy hJ5 k5 B4 HJ4
      gi_wp2_with fail
      go_roundw
      case rel => exact ⟨k + 1, pre ++ [Value.slice xo xn xc], by first | rfl | (rw [gk1]; rfl), by unfold Hid; rw [List.length_append, HP.out]; rfl, HJ5, B5⟩
      case measure => simp [intOf]; omega
    · gi_wp2_with fail
      refine bodyPost_ret (results_none rfl _ _ _) rfl ?_
      exact ⟨⟨_, rfl⟩, .inr ⟨_, hJx5⟩⟩

end Go.Proofs.YtglioppchhepmaaDoor
