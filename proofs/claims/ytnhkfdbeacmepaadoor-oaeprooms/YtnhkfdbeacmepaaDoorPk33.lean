/- Put together of: Lsc1 Lsc2 Lsc3 Base3 BigM Scr3 Seq3 Seq0 NatF. -/
import Derived.Test.YtnhkfdbeacmepaaDoorPk1
import Derived.Test.YtnhkfdbeacmepaaDoorPk21
import Derived.Test.YtnhkfdbeacmepaaDoorPk22
import Derived.Test.YtnhkfdbeacmepaaDoorPk24
import Derived.Deep.RegionHeld3
import Derived.Deep.DrawnRows
import Derived.Deep.RegionWith
import Derived.BigRegion
import Derived.Test.YtnhkfdbeacmepaaDoorRows
import Derived.Shelf.Strconv.Itoa0
import Derived.Lib.ItoaNum
import Derived.Laws.CopyOwn
import Derived.Shelf.Strings.BuilderK
import Derived.Shelf.Strings.Repeat
import Derived.Shelf.Small.Wraps
import Derived.RangeFuncNested
import Derived.RangeFuncBound
import Derived.RangeFuncCalls
import Derived.RangeFuncLeaves
import Derived.RangeFuncBox
import Derived.Shelf.Abstract
import Derived.Shelf.RegionOpen
import Derived.OwnWalkIn
import Derived.TacticsInMore
import Derived.LoopNIn
import Derived.LoopIn

/- Package script: a script in memory; copyOf, New, Left. -/
namespace Go.Proofs.YtnhkfdbeacmepaaDoor
open Go.RowKit

/-- A script at block b with the bytes bs left: the slice v that was laid, its bytes, the place. -/
def LscB (w : World) (b B : Nat) (v : Value) (ps : List Nat) (k : Nat) : Prop :=
  w.heap[b]? = some (.cells #[v, .int .i64 (k : Nat)] 55 (0, 0)) ∧ Row .u8 w v ps ∧ k ≤ ps.length ∧ ps.length ≤ 1000000 ∧ b < B ∧ (ps ≠ [] → ∀ x, v.ownBlock = some x → x < B ∧ x ≠ b)

/-- The script that p shows (nil: one without bytes) has the bytes bs left; it and they lie below block B. -/
def Lsc (w : World) (p : Option Addr) (B : Nat) (bs : List Nat) : Prop := (p = none ∧ bs = []) ∨ ∃ b v ps k, p = some ⟨b, 0, none⟩ ∧ bs = ps.drop k ∧ LscB w b B v ps k

/-- The block that p shows. -/
def ofP (p : Option Addr) (x : Nat) : Prop := p.map Addr.block = some x

theorem LscB.lt {w : World} {b B k : Nat} {v : Value} {ps : List Nat} (h : LscB w b B v ps k) : b < w.heap.size := lt_of_block h.1

theorem LscB.cells {w : World} {b B k : Nat} {v : Value} {ps : List Nat} (h : LscB w b B v ps k) : w.cell? ⟨b, 0, none⟩ = some v ∧ w.cell? ⟨b, 1, none⟩ = some (.int .i64 (k : Nat)) :=
  ⟨(cell_of_row w b 0 _ _ _ h.1).trans rfl, (cell_of_row w b 1 _ _ _ h.1).trans rfl⟩

theorem LscB.free {w : World} {b B k : Nat} {v : Value} {ps : List Nat} (h : LscB w b B v ps k) : w.frozen? ⟨b, 1, none⟩ = false := by simp [World.frozen?, h.1]

theorem LscB.kept {S : Nat → Prop} {w w' : World} {b B k : Nat} {v : Value} {ps : List Nat} (h : LscB w b B v ps k) (kk : Kept S w w') (hS : ∀ x, x < B → ¬ S x) : LscB w' b B v ps k :=
  ⟨(kk.block b h.lt (hS b h.2.2.2.2.1)).trans h.1, h.2.1.kept' kk (fun e x hx => hS x (h.2.2.2.2.2 e x hx).1), h.2.2⟩

theorem LscB.put {w : World} {b B k : Nat} {v : Value} {ps : List Nat} (h : LscB w b B v ps k) (m : Nat) (hm : m ≤ ps.length) : LscB (w.setCell ⟨b, 1, none⟩ (.int .i64 (m : Nat))) b B v ps m := by
  refine ⟨?_, h.2.1.kept' ((Kept.refl (fun x => x = b) w).setCell ⟨b, 1, none⟩ (fun _ => rfl) _) (fun e x hx => (h.2.2.2.2.2 e x hx).2), hm, h.2.2.2⟩
  have := heap_setCell_same w b 1 _ 55 (.int .i64 (m : Nat)) h.1
  rw [this]
  rfl

theorem LscB.lsc {w : World} {b B k : Nat} {v : Value} {ps : List Nat} (h : LscB w b B v ps k) : Lsc w (some ⟨b, 0, none⟩) B (ps.drop k) := .inr ⟨b, v, ps, k, rfl, rfl, h⟩

theorem Lsc.len {w : World} {p : Option Addr} {B : Nat} {bs : List Nat} (h : Lsc w p B bs) : bs.length ≤ 1000000 := by
  rcases h with ⟨_, rfl⟩ | ⟨b, v, ps, k, _, rfl, _, _, _, h, _⟩
  · simp
  · rw [List.length_drop]
    omega

theorem Lsc.kept {S : Nat → Prop} {w w' : World} {p : Option Addr} {B : Nat} {bs : List Nat} (h : Lsc w p B bs) (k : Kept S w w') (hS : ∀ x, x < B → ¬ S x) : Lsc w' p B bs := by
  rcases h with h | ⟨b, v, ps, k', e, e2, h⟩
  · exact .inl h
  · exact .inr ⟨b, v, ps, k', e, e2, h.kept k hS⟩

theorem Lsc.grew {w w' : World} {p : Option Addr} {B : Nat} {bs : List Nat} (h : Lsc w p B bs) (k : Kept Nought w w') : Lsc w' p B bs := h.kept k fun _ _ f => f

theorem Lsc.put {w : World} {p : Option Addr} {B l : Nat} {bs : List Nat} {o : Obj} (o' : Obj) (h : Lsc w p B bs) (hl : w.heap[l]? = some o) (ho : o.isCells = false) : Lsc (w.putObj l o') p B bs := by
  rcases h with h | ⟨b, v, ps, k, e, e2, h1, h2, h3⟩
  · exact .inl h
  · refine .inr ⟨b, v, ps, k, e, e2, (World.putObj_heap_other fun e => ?_).trans h1, row_put o' h2 hl ho, h3⟩
    subst e
    rw [hl] at h1
    cases h1
    cases ho

set_option maxRecDepth 20000 in
set_option maxHeartbeats 1000000 in
/-- copyOf. -/
theorem xCopy (v : Value) (bs : List Nat) (w : World) (h : Row .u8 w v bs) (hl : bs.length ≤ 1000000) :
    Calls Tryd.prog 22 #[v] w fun e w' => ∃ u, e = .returned u ∧ OwnB w' w.heap.size u bs ∧ Kept Nought w w' := by
  obtain ⟨i0, hi0, hz0, hz1, hz2⟩ := info_parts Tryd.info8s
  have HX := toHid h
  obtain ⟨ao, na, ca, rfl, hLa, hac, ham, _⟩ := h.open
  obtain ⟨CS, hCS⟩ : ∃ CS, CS = bs.map fun z : Nat => Value.int .u8 (z : Int) := ⟨_, rfl⟩
  have HC := toHid hCS
  have HLC : Hid (CS.length = na) := by unfold Hid; rw [hCS, List.length_map]; exact hLa.out
  have HSRC : Hid (∀ W, Kept Nought w W → 0 < CS.length → ∃ ad, ao = some ad ∧ ∀ j u, CS[j]? = some u → W.cell? (ad.add j) = some u) := by rw [hCS]; exact fun W k hp => row_src HX.out k hp
  have HO1 : Hid (∀ u ∈ CS, u.oneCell' = true) := by rw [hCS]; exact ones8 _ _
  have hna : na ≤ 1000000 := by have := hLa.out; omega
  clear h hCS
  go_enter Tryd.func22, Tryd.ntmps22
  go_wp2_with (at_make; refine wpList_make_full _ rfl _ _ 22 rfl w.heap.size 5 i0 _ 1 Tryd.underlying22 hi0 hz0 hz1 _ _ _ _ na rfl rfl rfl rfl (by rw [hz2]; omega) (by unfold maxLen; omega) (Nat.le_refl _) ?_; intro w1 ho1 hg1; rw [zeros_map] at ho1; have k1 := grown_kept hg1; obtain ⟨w2, hrun, hb2, k2⟩ := run_copy_part (P := Tryd.prog) 22 22 3 5 w.heap.size 0 na na (some ⟨w.heap.size, 0, none⟩) ao na ca _ 5 CS Tryd.underlying22 (by rw [hi0]; simp [hz1]) (own_block ho1) (by rw [HLC.out]; exact (Nat.min_self _).symm) (fun hp => ⟨rfl, HSRC.out _ k1 hp⟩) (by have := HLC.out; simp; omega) HO1.out; have HB2 : Hid _ := hb2; have HK2 := toHid (kept_new k1 k2 (Nat.le_refl _)); clear hb2 ho1 hg1 k1 k2)
  have hA := HB2.out
  rw [HC.out, splice_fill, hLa.out, Nat.sub_self, List.replicate_zero, List.append_nil] at hA
  go_ret
  exact ⟨_, rfl, OwnB.of (own_of_block hA hLa.out (by unfold maxLen; omega) (Nat.le_refl _)), HK2.out⟩

set_option maxRecDepth 20000 in
set_option maxHeartbeats 1000000 in
/-- New. -/
theorem xNew (v : Value) (bs : List Nat) (w : World) (h : Row .u8 w v bs) (hl : bs.length ≤ 1000000) :
    Calls Tryd.prog 10 #[v] w fun e w' => ∃ b, e = .returned (.pointer (some ⟨b, 0, none⟩)) ∧ w.heap.size ≤ b ∧ Lsc w' (some ⟨b, 0, none⟩) w'.heap.size bs ∧ Kept Nought w w' := by
  have J := xCopy v bs w h hl
  clear h
  go_enter Tryd.func10, Tryd.ntmps10
  go_wp2_with fail
  refine J.mono ?_
  rintro e w1 ⟨u, rfl, hO, k1⟩
  have hs := k1.size
  have k2 : Kept Nought w1 (w1.alloc (.cells #[u, .int .i64 0] 55)) := (Kept.refl _ _).alloc _
  have HR : Hid (LscB (w1.alloc (.cells #[u, .int .i64 0] 55)) w1.heap.size (w1.alloc (.cells #[u, .int .i64 0] 55)).heap.size u bs 0) := by
    refine ⟨World.alloc_heap_new w1 _, hO.row.grew k2, Nat.zero_le _, hl, by simp, fun _ x hx => ?_⟩
    have := (hO.lt x hx).2
    rw [World.size_alloc]
    omega
  have HK := toHid (k1.alloc (.cells #[u, .int .i64 0] 55))
  obtain ⟨ao, cap, rfl⟩ := own_slice hO
  clear J k1 k2 hO
  go_wp2_with fail
  go_ret
  exact ⟨_, rfl, hs, HR.out.lsc, HK.out⟩

set_option maxRecDepth 20000 in
set_option maxHeartbeats 1000000 in
/-- Left. -/
theorem xLeft (p : Option Addr) (B : Nat) (bs : List Nat) (w : World) (h : Lsc w p B bs) :
    Calls Tryd.prog 14 #[.pointer p] w fun e w' => e = .returned (.int .i64 (bs.length : Nat)) ∧ Kept Nought w w' := by
  rcases h with ⟨rfl, rfl⟩ | ⟨b, v, ps, k, rfl, rfl, h⟩
  · go_enter Tryd.func14, Tryd.ntmps14
    go_wp2_with fail
    go_ret
    exact ⟨rfl, Kept.refl _ _⟩
  · obtain ⟨c0, c1⟩ := h.cells
    obtain ⟨ao, L, cap, rfl, hL, hLc, hcm, hnn, hnum⟩ := h.2.1.open
    have hk : k ≤ L := by rw [← hL.out]; exact h.2.2.1
    have hLb : L ≤ 1000000 := by rw [← hL.out]; exact h.2.2.2.1
    have e1 : (ps.drop k).length = L - k := by rw [List.length_drop, hL.out]
    rw [e1]
    obtain ⟨d, hd⟩ : ∃ d, d = L - k := ⟨_, rfl⟩
    rw [← hd]
    have g1 : (L : Int) - (k : Int) = (d : Int) := by omega
    clear hd e1 hnum h hnn
    go_enter Tryd.func14, Tryd.ntmps14
    go_wp2_with fail
    go_quiet (fail)
    go_wp2_with fail
    go_ret
    exact ⟨rfl, (Kept.refl _ _).drewN _⟩

end Go.Proofs.YtnhkfdbeacmepaaDoor


/- Package script: take, Read. -/
namespace Go.Proofs.YtnhkfdbeacmepaaDoor
open Go.RowKit

set_option maxRecDepth 20000 in
set_option maxHeartbeats 1000000 in
/-- take of a script that nobody made. -/
theorem xTakeNil (B n : Nat) (w : World) :
    Calls Tryd.prog 43 #[.pointer none, .int .i64 (n : Int)] w fun e w' => ∃ u, e = .returned (.tuple #[u, .int .i64 (readE [] n : Nat)]) ∧ Row .u8 w' u (readL [] n) ∧ Lsc w' none B (readR [] n) ∧ Kept (ofP none) w w' := by
  have hR : readR [] (n : Int) = [] := by unfold readR; split <;> simp
  have hL : readL [] (n : Int) = [] := by unfold readL; split <;> simp
  rw [hR, hL]
  have J := xNew (.slice none 0 0) [] w (Row.nil _ _) (by simp)
  by_cases h0 : n = 0
  · subst h0
    have hE : readE [] ((0 : Nat) : Int) = 0 := rfl
    rw [hE]
    clear hE hR hL
    go_enter Tryd.func43, Tryd.ntmps43
    go_wp2_with fail
    refine J.mono ?_
    rintro e w1 ⟨b, rfl, hb, h1, k1⟩
    have J2 := xLeft _ _ _ w1 h1
    have HK1 := toHid k1
    have H1 := toHid h1
    clear J k1 h1
    go_wp2_with fail
    refine J2.mono ?_
    rintro e w2 ⟨rfl, k2⟩
    have HK2 := toHid (HK1.out.trans k2)
    have h2 := H1.out.grew k2
    rcases h2 with ⟨e, _⟩ | ⟨b', v, ps, k, e, ed, h2⟩
    · cases e
    cases e
    obtain ⟨c0, c1⟩ := h2.cells
    have f1 := h2.free
    have h3 := h2.put k h2.2.2.1
    obtain ⟨d0, d1⟩ := h3.cells
    have hkb := h2.2.2.2.1
    have hkl : k = ps.length := by
      have e1 := congrArg List.length ed
      rw [List.length_drop] at e1
      have e2 := h2.2.2.1
      have e3 : ([] : List Nat).length = 0 := rfl
      omega
    obtain ⟨ao, L, cap, rfl, hL, hLc, hcm, hnn, hnum⟩ := h2.2.1.open
    obtain rfl : k = L := hkl.trans hL.out
    have HK3 : Hid (Kept (ofP none) w (w2.setCell ⟨b, 1, none⟩ (.int .i64 (k : Nat)))) := (HK2.out.any (S := ofP none)).setCell _ (fun h => absurd h (by show ¬ b < w.heap.size; omega)) _
    have g1 : (k : Int) + 0 = (k : Int) := by omega
    have g0 : (0 : Int) ≤ (k : Int) := by omega
    have g2 : (k : Int) ≤ (cap : Int) := by omega
    have hkb2 : k ≤ 1000000 := by omega
    have HN := toHid hnn
    have HB := toHid hb
    clear J2 h2 h3 k2 hnum hnn HK1 HK2 H1 ed hkl hL hkb hb
    cases ao with
    | none =>
      obtain rfl := HN.out rfl
      obtain rfl : k = 0 := by omega
      go_wp2_with fail
      go_quiet (fail)
      go_wp2_with fail
      go_ret2
      exact ⟨_, rfl, Row.nil _ _, .inl ⟨rfl, rfl⟩, HK3.out.drewN _⟩
    | some ad =>
      by_cases hck : cap = k
      · subst hck
        go_wp2_with fail
        go_quiet (fail)
        go_wp2_with fail
        go_ret2
        exact ⟨_, rfl, row_empty (fun e => by cases e) (by unfold maxLen at *; omega), .inl ⟨rfl, rfl⟩, HK3.out.drewN _⟩
      · go_wp2_with fail
        go_quiet (fail)
        go_wp2_with fail
        go_ret2
        exact ⟨_, rfl, row_empty (fun e => by cases e) (by unfold maxLen at *; omega), .inl ⟨rfl, rfl⟩, HK3.out.drewN _⟩
  · have hE : readE [] (n : Int) = 150 := by unfold readE; rw [if_neg (by omega), if_pos (by simp; omega)]
    rw [hE]
    have g1 : (n : Int) > ((0 : Nat) : Int) := by omega
    have g2 : ((0 : Nat) : Int) < (n : Int) := by omega
    have g3 : (0 : Int) < (n : Int) := by omega
    clear hE hR hL
    go_enter Tryd.func43, Tryd.ntmps43
    go_wp2_with fail
    refine J.mono ?_
    rintro e w1 ⟨b, rfl, hb, h1, k1⟩
    have J2 := xLeft _ _ _ w1 h1
    have HK1 := toHid k1
    have H1 := toHid h1
    clear J k1 h1
    go_wp2_with fail
    refine J2.mono ?_
    rintro e w2 ⟨rfl, k2⟩
    have HK2 := toHid (HK1.out.trans k2)
    have h2 := H1.out.grew k2
    rcases h2 with ⟨e, _⟩ | ⟨b', v, ps, k, e, ed, h2⟩
    · cases e
    cases e
    obtain ⟨c0, c1⟩ := h2.cells
    have f1 := h2.free
    obtain ⟨ao, L, cap, rfl, hL, hLc, hcm, hnn, hnum⟩ := h2.2.1.open
    have HK3 : Hid (Kept (ofP none) w (w2.setCell ⟨b, 1, none⟩ (.int .i64 (L : Nat)))) := (HK2.out.any (S := ofP none)).setCell _ (fun h => absurd h (by show ¬ b < w.heap.size; omega)) _
    clear J2 h2 k2 hnum hnn HK1 HK2 H1 ed
    go_wp2_with fail
    go_ret2
    exact ⟨_, rfl, Row.nil _ _, .inl ⟨rfl, rfl⟩, HK3.out⟩

set_option maxRecDepth 20000 in
set_option maxHeartbeats 1000000 in
/-- take of a script in memory. -/
theorem xTakeB (b B n k : Nat) (v : Value) (ps : List Nat) (w : World) (h : LscB w b B v ps k) :
    Calls Tryd.prog 43 #[.pointer (some ⟨b, 0, none⟩), .int .i64 (n : Int)] w fun e w' => ∃ u, e = .returned (.tuple #[u, .int .i64 (readE (ps.drop k) n : Nat)]) ∧ Row .u8 w' u (readL (ps.drop k) n) ∧ Lsc w' (some ⟨b, 0, none⟩) B (readR (ps.drop k) n) ∧ Kept (fun x => x = b) w w' := by
  have J := xLeft _ _ _ w h.lsc
  have H := toHid h
  obtain ⟨ao, L, cap, rfl, hL, hLc, hcm, hnn, hnum⟩ := h.2.1.open
  have hkL : k ≤ L := by rw [← hL.out]; exact h.2.2.1
  have hLb : L ≤ 1000000 := by rw [← hL.out]; exact h.2.2.2.1
  have hd : (ps.drop k).length = L - k := by rw [List.length_drop, hL.out]
  rw [hd] at J
  obtain ⟨d, hdd⟩ : ∃ d, d = L - k := ⟨_, rfl⟩
  rw [← hdd] at J hd
  by_cases h1 : d < n
  · have e1 : readE (ps.drop k) (n : Int) = 150 := by unfold readE; rw [if_neg (by omega), if_pos (by omega)]
    have e2 : readL (ps.drop k) (n : Int) = [] := by unfold readL; rw [e1]; rfl
    have e3 : readR (ps.drop k) (n : Int) = ps.drop ps.length := by
      unfold readR
      rw [if_neg (by omega), List.drop_of_length_le (by rw [hd]; show d ≤ ((n : Int)).toNat; omega), List.drop_of_length_le (Nat.le_refl _)]
    rw [e1, e2, e3]
    have g1 : (n : Int) > (d : Int) := by omega
    have g2 : (d : Int) < (n : Int) := by omega
    have HPL := toHid hL.out
    clear e1 e2 e3 h hnum hnn hdd hd hL
    go_enter Tryd.func43, Tryd.ntmps43
    go_wp2_with fail
    refine J.mono ?_
    rintro e w1 ⟨rfl, k1⟩
    have H1 := toHid (H.out.kept k1 (fun _ _ f => f))
    obtain ⟨c0, c1⟩ := H1.out.cells
    have f1 := H1.out.free
    have HP := toHid (H1.out.put L (by rw [HPL.out]; exact Nat.le_refl _))
    have HK := toHid ((k1.any (S := fun x => x = b)).setCell ⟨b, 1, none⟩ (fun _ => rfl) (.int .i64 (L : Nat)))
    clear J k1
    go_wp2_with fail
    go_ret2
    exact ⟨_, rfl, Row.nil _ _, by rw [HPL.out]; exact HP.out.lsc, HK.out⟩
  · have e1 : readE (ps.drop k) (n : Int) = 0 := by unfold readE; rw [if_neg (by omega), if_neg (by omega)]
    have e2 : readL (ps.drop k) (n : Int) = (ps.drop k).take n := by unfold readL; rw [e1]; rfl
    have e3 : readR (ps.drop k) (n : Int) = ps.drop (k + n) := by
      unfold readR
      rw [if_neg (by omega), List.drop_drop]
      rfl
    rw [e1, e2, e3]
    obtain ⟨m, hm⟩ : ∃ m, m = k + n := ⟨_, rfl⟩
    rw [← hm]
    have g1 : ¬ (n : Int) > (d : Int) := by omega
    have g2 : ¬ (d : Int) < (n : Int) := by omega
    have g3 : (k : Int) + (n : Int) = (m : Int) := by omega
    have g4 : (k : Int) ≤ (m : Int) := by omega
    have g5 : (m : Int) ≤ (cap : Int) := by omega
    have g6 : (0 : Int) ≤ (k : Int) := by omega
    have g7 : m - k = n := by omega
    have hmL : m ≤ L := by omega
    have hmc : m ≤ cap := by omega
    have hkm : k ≤ m := by omega
    have HPL := toHid hL.out
    have hkb : k ≤ 1000000 := by omega
    have hmb : m ≤ 1000000 := by omega
    have HN := toHid hnn
    have HLE := toHid (show k + n ≤ L by omega)
    clear e1 e2 e3 h hnum hdd hd hL hm
    go_enter Tryd.func43, Tryd.ntmps43
    go_wp2_with fail
    refine J.mono ?_
    rintro e w1 ⟨rfl, k1⟩
    have H1 := toHid (H.out.kept k1 (fun _ _ f => f))
    obtain ⟨c0, c1⟩ := H1.out.cells
    have f1 := H1.out.free
    have HP := toHid (H1.out.put m (by rw [HPL.out]; exact hmL))
    obtain ⟨d0, d1⟩ := HP.out.cells
    have HK := toHid ((k1.any (S := fun x => x = b)).setCell ⟨b, 1, none⟩ (fun _ => rfl) (.int .i64 (m : Nat)))
    have HC := toHid (row_cut HP.out.2.1 HLE.out)
    clear J k1
    cases ao with
    | none =>
      obtain rfl := HN.out rfl
      obtain rfl : L = 0 := by omega
      obtain rfl : m = 0 := by omega
      obtain rfl : k = 0 := by omega
      obtain rfl : n = 0 := by omega
      have HC2 := toHid (HC.out.1 rfl)
      clear HC hnn
      go_wp2_with fail
      go_quiet (fail)
      go_wp2_with fail
      go_ret2
      exact ⟨_, rfl, HC2.out.kept' (S := Nought) ((Kept.refl _ _).drewN _) (fun _ _ _ f => f), HP.out.lsc.grew ((Kept.refl _ _).drewN _), HK.out.drewN _⟩
    | some ad =>
      by_cases hck : cap = k
      · have HC2 := toHid (HC.out.2.1 ad rfl hck)
        obtain rfl : m = k := by omega
        obtain rfl : n = 0 := by omega
        subst hck
        clear HC hnn
        go_wp2_with fail
        go_quiet (fail)
        go_wp2_with fail
        go_ret2
        exact ⟨_, rfl, HC2.out.kept' (S := Nought) ((Kept.refl _ _).drewN _) (fun _ _ _ f => f), HP.out.lsc.grew ((Kept.refl _ _).drewN _), HK.out.drewN _⟩
      · have HC2 := toHid (HC.out.2.2 ad rfl hck)
        clear HC hnn
        go_wp2_with fail
        go_quiet (fail)
        go_wp2_with fail
        go_ret2
        exact ⟨_, rfl, HC2.out.kept' (S := Nought) ((Kept.refl _ _).drewN _) (fun _ _ _ f => f), HP.out.lsc.grew ((Kept.refl _ _).drewN _), HK.out.drewN _⟩

/-- take: any script. -/
theorem xTake (p : Option Addr) (B n : Nat) (bs : List Nat) (w : World) (h : Lsc w p B bs) :
    Calls Tryd.prog 43 #[.pointer p, .int .i64 (n : Int)] w fun e w' => ∃ u, e = .returned (.tuple #[u, .int .i64 (readE bs n : Nat)]) ∧ Row .u8 w' u (readL bs n) ∧ Lsc w' p B (readR bs n) ∧ Kept (ofP p) w w' := by
  rcases h with ⟨rfl, rfl⟩ | ⟨b, v, ps, k, rfl, rfl, h⟩
  · exact xTakeNil B n w
  · refine (xTakeB b B n k v ps w h).mono ?_
    rintro e w' ⟨u, he, h1, h2, h3⟩
    exact ⟨u, he, h1, h2, h3.mono fun x _ e => by cases e; rfl⟩

theorem readE_or (bs : List Nat) (n : Nat) : readE bs n = 0 ∨ readE bs n = 150 := by
  unfold readE
  rw [if_neg (by omega)]
  split <;> simp

theorem readL_le (bs : List Nat) (n : Int) : (readL bs n).length ≤ bs.length := by
  unfold readL
  split
  · rw [List.length_take]
    omega
  · simp

set_option maxRecDepth 20000 in
set_option maxHeartbeats 1000000 in
/-- Read. -/
theorem xRead (p : Option Addr) (B : Nat) (bs : List Nat) (n : Int) (w : World) (h : Lsc w p B bs) :
    Calls Tryd.prog 23 #[.pointer p, .int .i64 n] w fun e w' => ∃ u, e = .returned (.tuple #[u, .int .i64 (readE bs n : Nat)]) ∧ OwnB w' w.heap.size u (readL bs n) ∧ Lsc w' p B (readR bs n) ∧ Kept (ofP p) w w' := by
  have H := toHid h
  by_cases h1 : n < 0
  · have e1 : readE bs n = 1 := by unfold readE; rw [if_pos h1]
    have e2 : readL bs n = [] := by unfold readL; rw [e1]; rfl
    have e3 : readR bs n = bs := by unfold readR; rw [if_pos h1]
    rw [e1, e2, e3]
    clear e1 e2 e3 h
    go_enter Tryd.func23, Tryd.ntmps23
    go_wp2_with fail
    go_ret2
    exact ⟨_, rfl, OwnB.nil _ _, H.out, Kept.refl _ _⟩
  · obtain ⟨m, rfl⟩ := Int.eq_ofNat_of_zero_le (show 0 ≤ n by omega)
    have J := xTake p B m bs w h
    have hb := (readL_le bs (m : Int))
    have hbl := h.len
    have HE := readE_or bs m
    have HL : Hid (readE bs (m : Int) ≠ 0 → readL bs (m : Int) = []) := fun e => if_neg e
    generalize readL bs (m : Int) = l at *
    generalize readE bs (m : Int) = E at *
    generalize readR bs (m : Int) = r at *
    clear h
    go_enter Tryd.func23, Tryd.ntmps23
    go_wp2_with fail
    refine J.mono ?_
    rintro e w1 ⟨u, rfl, hr, h1', k1⟩
    have J2 := xCopy u l w1 hr (by omega)
    have HS := toHid h1'
    have HK := toHid k1
    obtain ⟨ao, L, cap, rfl, _⟩ := hr.open
    clear J k1 h1' hr
    rcases HE with rfl | rfl
    · clear HL
      go_wp2_with fail
      refine J2.mono ?_
      rintro e w2 ⟨u2, rfl, hO, k2⟩
      have HS2 := toHid (HS.out.grew k2)
      have HO := toHid (hO.base HK.out.size)
      have HK2 := toHid (HK.out.trans k2.any)
      clear J2 k2 hO
      go_wp2_with fail
      go_ret2
      exact ⟨_, rfl, HO.out, HS2.out, HK2.out⟩
    · obtain rfl := HL.out (by decide)
      clear J2
      go_wp2_with fail
      go_ret2
      exact ⟨_, rfl, OwnB.nil _ _, HS.out, HK.out⟩

end Go.Proofs.YtnhkfdbeacmepaaDoor


/- Package script: Filled. -/
namespace Go.Proofs.YtnhkfdbeacmepaaDoor
open Go.RowKit

/-- How many bytes the script at p has left. -/
def lscLen (p : Option Addr) (w : World) : Nat := match p with
  | none => 0
  | some a => match w.cell? ⟨a.block, 0, none⟩, w.cell? ⟨a.block, 1, none⟩ with
    | some v, some (.int _ k) => sliceLen v - k.toNat
    | _, _ => 0

theorem Lsc.left {w : World} {p : Option Addr} {B : Nat} {bs : List Nat} (h : Lsc w p B bs) : lscLen p w = bs.length := by
  rcases h with ⟨rfl, rfl⟩ | ⟨b, v, ps, k, rfl, rfl, h⟩
  · rfl
  · obtain ⟨c0, c1⟩ := h.cells
    obtain ⟨_, _, e, _⟩ := h.2.1
    unfold lscLen
    simp only [c0, c1]
    rw [e, List.length_drop]
    rfl

end Go.Proofs.YtnhkfdbeacmepaaDoor


/- Melted of: BigBytes BigBit RefNat. -/

/- The plain numbers in bytes: ToBytes, FromBytes. -/
namespace Go.Proofs.YtnhkfdbeacmepaaDoor
open Go.RowKit

/-- The number of bytes, the highest ahead. -/
def bev (l : List Nat) : Nat := l.foldl (fun a b => a * 256 + b) 0

end Go.Proofs.YtnhkfdbeacmepaaDoor

/- The plain numbers' bits: Bit, BitLen; whether two numbers are alike with their lengths: Same. -/
namespace Go.Proofs.YtnhkfdbeacmepaaDoor
open Go.RowKit

end Go.Proofs.YtnhkfdbeacmepaaDoor

/- The plain answers of layer 3: OfBytes, Resize, Word, Bytes. -/
namespace Go.Proofs.YtnhkfdbeacmepaaDoor
open Go.RowKit

end Go.Proofs.YtnhkfdbeacmepaaDoor


/- Melted of: BigMod BigGcd BigExp BigInv. -/

/- The plain rest, and reckoning with members. -/
namespace Go.Proofs.YtnhkfdbeacmepaaDoor
open Go.RowKit

attribute [local go_sem ↓] Go.wp_at_zero Go.wp_at_succ

end Go.Proofs.YtnhkfdbeacmepaaDoor

/- The plain greatest divisor. -/
namespace Go.Proofs.YtnhkfdbeacmepaaDoor
open Go.RowKit

attribute [local go_sem ↓] Go.wp_at_zero Go.wp_at_succ

theorem Row.inj {k : IntKind} {w : World} {v : Value} {zs ys : List Nat} (h : Row k w v zs) (h' : Row k w v ys) : zs = ys := by
  obtain ⟨ao, cap, e1, _, _, _, h4⟩ := h
  obtain ⟨ao', cap', e2, _, _, _, h4'⟩ := h'
  rw [e1] at e2
  injection e2 with e3 e4 e5
  subst e3
  refine List.ext_getElem e4 ?_
  intro i h1 h2
  obtain ⟨b, off, q1, q2⟩ := h4 i h1
  obtain ⟨b', off', q1', q2'⟩ := h4' i h2
  rw [q1] at q1'
  injection q1' with q3
  injection q3 with q4 q5
  subst q4 q5
  rw [q2] at q2'
  injection q2' with q6
  injection q6 with q7 q8
  have q9 : zs.getD i 0 = ys.getD i 0 := by omega
  rwa [List.getD_eq_getElem?_getD, List.getD_eq_getElem?_getD, List.getElem?_eq_getElem h1, List.getElem?_eq_getElem h2] at q9

theorem IsBig.inj {w : World} {v : Value} {V V' : Nat} (h : IsBig w v V) (h' : IsBig w v V') : V = V' := by
  obtain ⟨ds, h1, _, _, h2, _⟩ := h
  obtain ⟨es, g1, _, _, g2, _⟩ := h'
  rw [← h2, ← g2, h1.inj g1]

/-- The number that a cell holds, 0 where it holds none. -/
def cellN (w : World) (a : Addr) : Nat :=
  match w.cell? a with
  | some (.int _ z) => z.toNat
  | _ => 0

/-- The number that a slice is, 0 where it is none. -/
def bigOf (w : World) : Value → Nat
  | .slice (some a) n _ => val 4294967296 ((List.range n).map fun i => cellN w ⟨a.block, a.off + i, none⟩)
  | _ => 0

theorem IsBig.of {w : World} {v : Value} {V : Nat} (h : IsBig w v V) : bigOf w v = V := by
  obtain ⟨ds, h1, _, _, rfl, _⟩ := h
  obtain ⟨ao, cap, rfl, _, _, _, hc⟩ := h1
  cases ao with
  | none =>
    have : ds = [] := by
      rcases ds with _ | ⟨d, r⟩
      · rfl
      · obtain ⟨b, off, e, _⟩ := hc 0 (by simp)
        cases e
    subst this
    rfl
  | some a =>
    show val 4294967296 ((List.range ds.length).map fun i => cellN w ⟨a.block, a.off + i, none⟩) = _
    congr 1
    refine List.ext_getElem (by simp) (fun i h1 h2 => ?_)
    obtain ⟨b, off, e, hcell⟩ := hc i h2
    cases e
    rw [List.getElem_map, List.getElem_range]
    unfold cellN
    rw [hcell, List.getD_eq_getElem?_getD, List.getElem?_eq_getElem h2]
    simp

/-- A number as a slice: its length is 0 or above it, as the number is. -/
theorem IsBig.length {w : World} {v : Value} {V : Nat} (h : IsBig w v V) : ∃ ao n cap, v = .slice ao n cap ∧ Hid (n = dlen V) ∧ n ≤ 1000000000 := by
  obtain ⟨ds, h1, h2, h3, h4, h5⟩ := h
  obtain ⟨ao, n, cap, e, hN, _⟩ := h1.open
  refine ⟨ao, n, cap, e, ?_, by rw [← hN.out]; exact h5⟩
  have := len_dlen h2 h3
  rw [h4] at this
  unfold Hid
  rw [← this, hN.out]

end Go.Proofs.YtnhkfdbeacmepaaDoor

/- The plain power. -/
namespace Go.Proofs.YtnhkfdbeacmepaaDoor
open Go.RowKit

attribute [local go_sem ↓] Go.wp_at_zero Go.wp_at_succ

end Go.Proofs.YtnhkfdbeacmepaaDoor

/- The plain inverse. -/
namespace Go.Proofs.YtnhkfdbeacmepaaDoor
open Go.RowKit

attribute [local go_sem ↓] Go.wp_at_zero Go.wp_at_succ

end Go.Proofs.YtnhkfdbeacmepaaDoor


/- The plain side of layer 15: Below. -/
namespace Go.Proofs.YtnhkfdbeacmepaaDoor
open Go.RowKit

/-- Draws of z bytes, cut to t bits, until one is above 0 and below M: the number (0: there is none), how many draws, what is left. -/
def belF (M t z : Nat) : Nat → List Nat → Nat → Nat × Nat × List Nat
  | 0, _, _ => (0, 0, [])
  | f + 1, bs, k => if bs.length < z then (0, 0, []) else if 0 < bev (bs.take z) % 2 ^ t ∧ bev (bs.take z) % 2 ^ t < M then (bev (bs.take z) % 2 ^ t, k, bs.drop z) else belF M t z f (bs.drop z) (k + 1)

end Go.Proofs.YtnhkfdbeacmepaaDoor


/- A range over a function whose iterator writes old memory too (the blocks of T): what the caller keeps through it speaks of other memory alone; how the iterator ends, and what it hands out, may speak of all. -/
namespace Go.Proofs.YtnhkfdbeacmepaaDoor
open Go.RowKit Go.Shelf

/-- What stands through everything that leaves memory below B alone, but for the blocks of T. -/
def LowT {β : Type} (B : Nat) (T : Nat → Prop) (J : β → World → Prop) : Prop := ∀ s A C, J s A → Kept (fun x => T x ∨ B ≤ x) A C → J s C

theorem below_keptT {A C : World} {B : Nat} {T : Nat → Prop} (h : Below B A C) : Kept (fun x => T x ∨ B ≤ x) A C :=
  ⟨h.os, h.tape, h.output, h.size, fun i _ hs => h.block i (Nat.lt_of_not_le fun e => hs (.inr e))⟩

theorem LowT.below {β : Type} {B : Nat} {T : Nat → Prop} {J : β → World → Prop} (h : LowT B T J) {s : β} {A C : World} (j : J s A) (k : Below B A C) : J s C := h s A C j (below_keptT k)

end Go.Proofs.YtnhkfdbeacmepaaDoor


/- What a range over a function asks of memory (Rnd1: a drawn region in a round). -/

/- What a range over a function asks of memory: blocks that lie as they lay; numbers and variables while the loop's own books are turned. -/
namespace Go.Proofs.YtnhkfdbeacmepaaDoor
open Go.RowKit Go.Shelf

/-- The blocks of S lie as they lay. -/
def KeepB (S : Nat → Prop) (W W' : World) : Prop := ∀ k, S k → W'.heap[k]? = W.heap[k]?

theorem KeepB.refl (S : Nat → Prop) (W : World) : KeepB S W W := fun _ _ => rfl

theorem KeepB.trans {S : Nat → Prop} {A B C : World} (h : KeepB S A B) (k : KeepB S B C) : KeepB S A C := fun i hi => (k i hi).trans (h i hi)

theorem KeepB.put {S : Nat → Prop} {w : World} (hS : ∀ k, S k → k < w.heap.size) (W : World) (l : Nat) (o o' : Obj) (hl : w.heap.size ≤ l) (_ : W.heap[l]? = some o) (_ : o.isCells = false) (_ : o.isWalk = false) : KeepB S W (W.putObj l o') := fun k hk =>
  World.putObj_heap_other (fun e => by have := hS k hk; omega)

theorem KeepB.cell {S : Nat → Prop} {W W' : World} (h : KeepB S W W') {p : Addr} (hp : S p.block) : W'.cell? p = W.cell? p := World.cell?_of_block (h p.block hp)

theorem KeepB.row {S : Nat → Prop} {k : IntKind} {W W' : World} {v : Value} {zs : List Nat} (h : KeepB S W W') (hs : ∀ b, v.ownBlock = some b → 0 < zs.length → S b) (hr : Row k W v zs) : Row k W' v zs := by
  obtain ⟨ao, cap, rfl, h1, h2, h3, h4⟩ := hr
  refine ⟨ao, cap, rfl, h1, h2, h3, fun i hi => ?_⟩
  obtain ⟨b, off, rfl, hc⟩ := h4 i hi
  exact ⟨b, off, rfl, (h.cell (p := ⟨b, off + i, none⟩) (hs b rfl (by omega))).trans hc⟩

/-- What the loop's own books are when they are turned: a new block, or one that is no variable's. -/
def Turn (B : Nat) (W W' : World) : Prop := ∃ row, W.grownBy W' row ∧ ∀ r, row = some r → B ≤ r ∧ ∃ o : Obj, W.heap[r]? = some o ∧ o.isCells = false

/-- A row of the call's own stands while blocks turn that are no rows. -/
theorem own_turn {W W' : World} {row : Option Nat} {base size n : Nat} {e : TypeId} {v : Value} {xs : List Value} (h : W.ownsRow base e size v n xs) (hg : W.grownBy W' row) (hr : ∀ r, row = some r → ∃ o : Obj, W.heap[r]? = some o ∧ o.isCells = false) : W'.ownsRow base e size v n xs := by
  refine ⟨h.1, ?_⟩
  rcases h.2 with h1 | ⟨g, cap, cur, e1, hb, hblk, h4⟩
  · exact .inl h1
  · refine .inr ⟨g, cap, cur, e1, hb, ?_, h4⟩
    rw [hg.block g (Array.getElem?_eq_some_iff.1 hblk).1 ?_]
    · exact hblk
    · intro e
      obtain ⟨o, ho, hc⟩ := hr g e.symm
      rw [hblk] at ho
      cases ho
      cases hc

theorem Turn.cells {B : Nat} {W W' : World} (t : Turn B W W') {b : Nat} {c : Array Value} {ty : TypeId} {f : Nat × Nat} (h : W.heap[b]? = some (.cells c ty f)) : W'.heap[b]? = some (.cells c ty f) := by
  obtain ⟨row, hg, hr⟩ := t
  rw [hg.block b (Array.getElem?_eq_some_iff.1 h).1 ?_]
  · exact h
  · intro e
    obtain ⟨_, o, ho, hc⟩ := hr b e.symm
    rw [h] at ho
    cases ho
    cases hc

theorem Turn.kept {B : Nat} {S : Nat → Prop} {w W W' : World} (t : Turn B W W') (k : Kept S w W) (hB : w.heap.size ≤ B) : Kept S w W' := by
  obtain ⟨row, hg, hr⟩ := t
  exact k.grown hg (fun b e hb => by have := (hr b e).1; omega)

theorem Turn.own {B : Nat} {W W' : World} (t : Turn B W W') {base size n : Nat} {e : TypeId} {v : Value} {xs : List Value} (h : W.ownsRow base e size v n xs) : W'.ownsRow base e size v n xs := by
  obtain ⟨row, hg, hr⟩ := t
  exact own_turn h hg (fun r e => (hr r e).2)

theorem Turn.cell {B : Nat} {W W' : World} (t : Turn B W W') {a : Addr} {v : Value} (h : W.cell? a = some v) : W'.cell? a = some v := by
  obtain ⟨row, hg, hr⟩ := t
  exact cell_kept h hg (fun r e => (hr r e).2)

theorem Turn.row {B : Nat} {W W' : World} (t : Turn B W W') {k : IntKind} {v : Value} {zs : List Nat} (h : Row k W v zs) : Row k W' v zs := by
  obtain ⟨ao, cap, rfl, h1, h2, h3, h4⟩ := h
  refine ⟨ao, cap, rfl, h1, h2, h3, fun i hi => ?_⟩
  obtain ⟨b, off, rfl, hc⟩ := h4 i hi
  exact ⟨b, off, rfl, t.cell hc⟩

end Go.Proofs.YtnhkfdbeacmepaaDoor


/- Bytes as words: word.Get on at most eight bytes; noughts ahead cut off (bytes.TrimLeft); the words of bytes, the lowest ahead, as a range over a function hands them out (wordsOfBytes). -/
namespace Go.Proofs.YtnhkfdbeacmepaaDoor
open Go.RowKit Go.Shelf

attribute [local go_sem] Oper.semAt_some

/-- The slice behind its first element. -/
theorem Row.tail {k : IntKind} {w : World} {b off m cap : Nat} {z : Nat} {zs : List Nat} (h : Row k w (.slice (some ⟨b, off, none⟩) (m + 1) cap) (z :: zs)) (hc : 1 < cap) : Row k w (.slice (some ⟨b, off + 1, none⟩) m (cap - 1)) zs := by
  obtain ⟨ao, cap', e, h1, h2, _, h4⟩ := h
  cases e
  refine ⟨_, _, rfl, by simp at h1; omega, by omega, (fun e => by cases e), fun i hi => ?_⟩
  obtain ⟨b', off', e, hcell⟩ := h4 (i + 1) (by simp; omega)
  cases e
  exact ⟨b, off + 1, rfl, by rw [show off + 1 + i = off + (i + 1) by omega, hcell]; rfl⟩

end Go.Proofs.YtnhkfdbeacmepaaDoor

