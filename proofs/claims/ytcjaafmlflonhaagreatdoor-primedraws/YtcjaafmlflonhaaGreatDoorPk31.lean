/- Put together of: Lsc1 Cut0 Lsc2 Lsc3. -/
import Derived.Test.YtcjaafmlflonhaaGreatDoorPk27
import Derived.Test.YtcjaafmlflonhaaGreatDoorPk28
import Derived.Test.YtcjaafmlflonhaaGreatDoorPk30

/- Package script: a script in memory; copyOf, New, Left. -/
namespace Go.Proofs.YtcjaafmlflonhaaGreatDoor
open Go.RowKit

/-- A script at block b with the bytes bs left: the slice v that was laid, its bytes, the place. -/
def LscB (w : World) (b B : Nat) (v : Value) (ps : List Nat) (k : Nat) : Prop :=
  w.heap[b]? = some (.cells #[v, .int .i64 (k : Nat)] 50 (0, 0)) ∧ Row .u8 w v ps ∧ k ≤ ps.length ∧ ps.length ≤ 1000000 ∧ b < B ∧ (ps ≠ [] → ∀ x, v.ownBlock = some x → x < B ∧ x ≠ b)

/-- The script that p shows (nil: one without bytes) has the bytes bs left; it and they lie below block B. -/
def Lsc (w : World) (p : Option Addr) (B : Nat) (bs : List Nat) : Prop := (p = none ∧ bs = []) ∨ ∃ b v ps k, p = some ⟨b, 0, none⟩ ∧ bs = ps.drop k ∧ LscB w b B v ps k

/-- The block that p shows. -/
def ofP (p : Option Addr) (x : Nat) : Prop := p.map Addr.block = some x

theorem LscB.lt {w : World} {b B k : Nat} {v : Value} {ps : List Nat} (h : LscB w b B v ps k) : b < w.heap.size := lt_of_block h.1

theorem LscB.cells {w : World} {b B k : Nat} {v : Value} {ps : List Nat} (h : LscB w b B v ps k) : w.cell? ⟨b, 0, none⟩ = some v ∧ w.cell? ⟨b, 1, none⟩ = some (.int .i64 (k : Nat)) :=
  ⟨(cell_of_row w b 0 _ _ _ h.1).trans rfl, (cell_of_row w b 1 _ _ _ h.1).trans rfl⟩

theorem LscB.free {w : World} {b B k : Nat} {v : Value} {ps : List Nat} (h : LscB w b B v ps k) : w.frozen? ⟨b, 1, none⟩ = false := by simp [World.frozen?, h.1]

theorem LscB.kept {S : Nat → Prop} {w w' : World} {b B k : Nat} {v : Value} {ps : List Nat} (h : LscB w b B v ps k) (kk : Kept S w w') (hS : ∀ x, x < B → ¬ S x) : LscB w' b B v ps k :=
  ⟨(kk.block b h.lt (hS b h.2.2.2.2.1)).trans h.1, h.2.1.kept' kk (fun e x hx => hS x (h.2.2.2.2.2 e x hx).1), h.2.2⟩

theorem LscB.put {w : World} {b B k : Nat} {v : Value} {ps : List Nat} (h : LscB w b B v ps k) (m : Nat) (hm : m ≤ ps.length) : LscB (w.setCell ⟨b, 1, none⟩ (.int .i64 (m : Nat))) b B v ps m := by
  refine ⟨?_, h.2.1.kept' ((Kept.refl (fun x => x = b) w).setCell ⟨b, 1, none⟩ (fun _ => rfl) _) (fun e x hx => (h.2.2.2.2.2 e x hx).2), hm, h.2.2.2⟩
  have := heap_setCell_same w b 1 _ 50 (.int .i64 (m : Nat)) h.1
  rw [this]
  rfl

theorem LscB.lsc {w : World} {b B k : Nat} {v : Value} {ps : List Nat} (h : LscB w b B v ps k) : Lsc w (some ⟨b, 0, none⟩) B (ps.drop k) := .inr ⟨b, v, ps, k, rfl, rfl, h⟩

theorem Lsc.len {w : World} {p : Option Addr} {B : Nat} {bs : List Nat} (h : Lsc w p B bs) : bs.length ≤ 1000000 := by
  rcases h with ⟨_, rfl⟩ | ⟨b, v, ps, k, _, rfl, _, _, _, h, _⟩
  · simp
  · rw [List.length_drop]
    omega

theorem Lsc.kept {S : Nat → Prop} {w w' : World} {p : Option Addr} {B : Nat} {bs : List Nat} (h : Lsc w p B bs) (k : Kept S w w') (hS : ∀ x, x < B → ¬ S x) : Lsc w' p B bs := by
  rcases h with h | ⟨b, v, ps, k', e, e2, h⟩
  · exact .inl h
  · exact .inr ⟨b, v, ps, k', e, e2, h.kept k hS⟩

theorem Lsc.grew {w w' : World} {p : Option Addr} {B : Nat} {bs : List Nat} (h : Lsc w p B bs) (k : Kept Nought w w') : Lsc w' p B bs := h.kept k fun _ _ f => f

theorem Lsc.inP {w : World} {p : Option Addr} {B x : Nat} {bs : List Nat} (h : Lsc w p B bs) (hx : ofP p x) : x < B ∧ x < w.heap.size := by
  rcases h with ⟨rfl, _⟩ | ⟨b, v, ps, k, rfl, _, h⟩
  · cases hx
  · cases hx
    exact ⟨h.2.2.2.2.1, h.lt⟩

theorem Lsc.put {w : World} {p : Option Addr} {B l : Nat} {bs : List Nat} {o : Obj} (o' : Obj) (h : Lsc w p B bs) (hl : w.heap[l]? = some o) (ho : o.isCells = false) : Lsc (w.putObj l o') p B bs := by
  rcases h with h | ⟨b, v, ps, k, e, e2, h1, h2, h3⟩
  · exact .inl h
  · refine .inr ⟨b, v, ps, k, e, e2, (World.putObj_heap_other fun e => ?_).trans h1, row_put o' h2 hl ho, h3⟩
    subst e
    rw [hl] at h1
    cases h1
    cases ho

set_option maxRecDepth 20000 in
set_option maxHeartbeats 1000000 in
/-- copyOf. -/
theorem xCopy (v : Value) (bs : List Nat) (w : World) (h : Row .u8 w v bs) (hl : bs.length ≤ 1000000) :
    Calls Tryz.prog 16 #[v] w fun e w' => ∃ u, e = .returned u ∧ OwnB w' w.heap.size u bs ∧ Kept Nought w w' := by
  obtain ⟨i0, hi0, hz0, hz1, hz2⟩ := info_parts Tryz.info8s
  have HX := toHid h
  obtain ⟨ao, na, ca, rfl, hLa, hac, ham, _⟩ := h.open
  obtain ⟨CS, hCS⟩ : ∃ CS, CS = bs.map fun z : Nat => Value.int .u8 (z : Int) := ⟨_, rfl⟩
  have HC := toHid hCS
  have HLC : Hid (CS.length = na) := by unfold Hid; rw [hCS, List.length_map]; exact hLa.out
  have HSRC : Hid (∀ W, Kept Nought w W → 0 < CS.length → ∃ ad, ao = some ad ∧ ∀ j u, CS[j]? = some u → W.cell? (ad.add j) = some u) := by rw [hCS]; exact fun W k hp => row_src HX.out k hp
  have HO1 : Hid (∀ u ∈ CS, u.oneCell' = true) := by rw [hCS]; exact ones8 _ _
  have hna : na ≤ 1000000 := by have := hLa.out; omega
  clear h hCS
  go_enter Tryz.func16, Tryz.ntmps16
  go_wp2_with (at_make; refine wpList_make_full _ rfl _ _ 22 rfl w.heap.size 5 i0 _ 1 Tryz.underlying22 hi0 hz0 hz1 _ _ _ _ na rfl rfl rfl rfl (by rw [hz2]; omega) (by unfold maxLen; omega) (Nat.le_refl _) ?_; intro w1 ho1 hg1; rw [zeros_map] at ho1; have k1 := grown_kept hg1; obtain ⟨w2, hrun, hb2, k2⟩ := run_copy_part (P := Tryz.prog) 22 22 3 5 w.heap.size 0 na na (some ⟨w.heap.size, 0, none⟩) ao na ca _ 5 CS Tryz.underlying22 (by rw [hi0]; simp [hz1]) (own_block ho1) (by rw [HLC.out]; exact (Nat.min_self _).symm) (fun hp => ⟨rfl, HSRC.out _ k1 hp⟩) (by have := HLC.out; simp; omega) HO1.out; have HB2 : Hid _ := hb2; have HK2 := toHid (kept_new k1 k2 (Nat.le_refl _)); clear hb2 ho1 hg1 k1 k2)
  have hA := HB2.out
  rw [HC.out, splice_fill, hLa.out, Nat.sub_self, List.replicate_zero, List.append_nil] at hA
  go_ret
  exact ⟨_, rfl, OwnB.of (own_of_block hA hLa.out (by unfold maxLen; omega) (Nat.le_refl _)), HK2.out⟩

set_option maxRecDepth 20000 in
set_option maxHeartbeats 1000000 in
/-- New. -/
theorem xNew (v : Value) (bs : List Nat) (w : World) (h : Row .u8 w v bs) (hl : bs.length ≤ 1000000) :
    Calls Tryz.prog 6 #[v] w fun e w' => ∃ b, e = .returned (.pointer (some ⟨b, 0, none⟩)) ∧ w.heap.size ≤ b ∧ Lsc w' (some ⟨b, 0, none⟩) w'.heap.size bs ∧ Kept Nought w w' := by
  have J := xCopy v bs w h hl
  clear h
  go_enter Tryz.func6, Tryz.ntmps6
  go_wp2_with fail
  refine J.mono ?_
  rintro e w1 ⟨u, rfl, hO, k1⟩
  have hs := k1.size
  have k2 : Kept Nought w1 (w1.alloc (.cells #[u, .int .i64 0] 50)) := (Kept.refl _ _).alloc _
  have HR : Hid (LscB (w1.alloc (.cells #[u, .int .i64 0] 50)) w1.heap.size (w1.alloc (.cells #[u, .int .i64 0] 50)).heap.size u bs 0) := by
    refine ⟨World.alloc_heap_new w1 _, hO.row.grew k2, Nat.zero_le _, hl, by simp, fun _ x hx => ?_⟩
    have := (hO.lt x hx).2
    rw [World.size_alloc]
    omega
  have HK := toHid (k1.alloc (.cells #[u, .int .i64 0] 50))
  obtain ⟨ao, cap, rfl⟩ := own_slice hO
  clear J k1 k2 hO
  go_wp2_with fail
  go_ret
  exact ⟨_, rfl, hs, HR.out.lsc, HK.out⟩

set_option maxRecDepth 20000 in
set_option maxHeartbeats 1000000 in
/-- Left. -/
theorem xLeft (p : Option Addr) (B : Nat) (bs : List Nat) (w : World) (h : Lsc w p B bs) :
    Calls Tryz.prog 9 #[.pointer p] w fun e w' => e = .returned (.int .i64 (bs.length : Nat)) ∧ Kept Nought w w' := by
  rcases h with ⟨rfl, rfl⟩ | ⟨b, v, ps, k, rfl, rfl, h⟩
  · go_enter Tryz.func9, Tryz.ntmps9
    go_wp2_with fail
    go_ret
    exact ⟨rfl, Kept.refl _ _⟩
  · obtain ⟨c0, c1⟩ := h.cells
    obtain ⟨ao, L, cap, rfl, hL, hLc, hcm, hnn, hnum⟩ := h.2.1.open
    have hk : k ≤ L := by rw [← hL.out]; exact h.2.2.1
    have hLb : L ≤ 1000000 := by rw [← hL.out]; exact h.2.2.2.1
    have e1 : (ps.drop k).length = L - k := by rw [List.length_drop, hL.out]
    rw [e1]
    obtain ⟨d, hd⟩ : ∃ d, d = L - k := ⟨_, rfl⟩
    rw [← hd]
    have g1 : (L : Int) - (k : Int) = (d : Int) := by omega
    clear hd e1 hnum h hnn
    go_enter Tryz.func9, Tryz.ntmps9
    go_wp2_with fail
    go_quiet (fail)
    go_wp2_with fail
    go_ret
    exact ⟨rfl, (Kept.refl _ _).drewN _⟩

end Go.Proofs.YtcjaafmlflonhaaGreatDoor


/- A part of a row, as a slice of it lies in memory. -/
namespace Go.Proofs.YtcjaafmlflonhaaGreatDoor
open Go.RowKit

theorem row_empty {k : IntKind} {w : World} {ao : Option Addr} {cap : Nat} (h : ao = none → cap = 0) (hc : cap ≤ maxLen) : Row k w (.slice ao 0 cap) [] :=
  ⟨ao, cap, rfl, Nat.zero_le _, hc, h, fun i hi => absurd hi (by simp)⟩

/-- A part of a row, as a slice of it lies in memory. -/
theorem row_cut {k : IntKind} {w : World} {ao : Option Addr} {L cap s m : Nat} {zs : List Nat} (h : Row k w (.slice ao L cap) zs) (h2 : s + m ≤ L) :
    (ao = none → Row k w (.slice none 0 0) ((zs.drop s).take m)) ∧ (∀ ad, ao = some ad → cap = s → Row k w (.slice (some ad) 0 0) ((zs.drop s).take m)) ∧ (∀ ad, ao = some ad → cap ≠ s → Row k w (.slice (some (ad.add s)) m (cap - s)) ((zs.drop s).take m)) := by
  obtain ⟨_, _, _, e, hL, hLc, hcm, hnn, hnum⟩ := h.open
  cases e
  have hz : m = 0 → (zs.drop s).take m = [] := fun e => by rw [e]; rfl
  refine ⟨fun e => ?_, fun ad e ec => ?_, fun ad e ec => ?_⟩
  · have := hnn e
    rw [hz (by omega)]
    exact Row.nil _ _
  · rw [hz (by omega)]
    exact row_empty (fun e => by cases e) (Nat.zero_le _)
  · subst e
    by_cases hm : m = 0
    · rw [hz hm, hm]
      exact row_empty (fun e => by cases e) (by unfold maxLen at *; omega)
    · obtain ⟨b, off, e, _⟩ := hnum 0 (by omega)
      cases e
      have ea : (⟨b, off, none⟩ : Addr).add s = ⟨b, off + s, none⟩ := by unfold Addr.add; split <;> simp_all
      rw [ea]
      exact row_part h h2

end Go.Proofs.YtcjaafmlflonhaaGreatDoor


/- Package script: take, Read. -/
namespace Go.Proofs.YtcjaafmlflonhaaGreatDoor
open Go.RowKit

set_option maxRecDepth 20000 in
set_option maxHeartbeats 1000000 in
/-- take of a script that nobody made. -/
theorem xTakeNil (B n : Nat) (w : World) :
    Calls Tryz.prog 68 #[.pointer none, .int .i64 (n : Int)] w fun e w' => ∃ u, e = .returned (.tuple #[u, .int .i64 (readE [] n : Nat)]) ∧ Row .u8 w' u (readL [] n) ∧ Lsc w' none B (readR [] n) ∧ Kept (ofP none) w w' := by
  have hR : readR [] (n : Int) = [] := by unfold readR; split <;> simp
  have hL : readL [] (n : Int) = [] := by unfold readL; split <;> simp
  rw [hR, hL]
  have J := xNew (.slice none 0 0) [] w (Row.nil _ _) (by simp)
  by_cases h0 : n = 0
  · subst h0
    have hE : readE [] ((0 : Nat) : Int) = 0 := rfl
    rw [hE]
    clear hE hR hL
    go_enter Tryz.func68, Tryz.ntmps68
    go_wp2_with fail
    refine J.mono ?_
    rintro e w1 ⟨b, rfl, hb, h1, k1⟩
    have J2 := xLeft _ _ _ w1 h1
    have HK1 := toHid k1
    have H1 := toHid h1
    clear J k1 h1
    go_wp2_with fail
    refine J2.mono ?_
    rintro e w2 ⟨rfl, k2⟩
    have HK2 := toHid (HK1.out.trans k2)
    have h2 := H1.out.grew k2
    rcases h2 with ⟨e, _⟩ | ⟨b', v, ps, k, e, ed, h2⟩
    · cases e
    cases e
    obtain ⟨c0, c1⟩ := h2.cells
    have f1 := h2.free
    have h3 := h2.put k h2.2.2.1
    obtain ⟨d0, d1⟩ := h3.cells
    have hkb := h2.2.2.2.1
    have hkl : k = ps.length := by
      have e1 := congrArg List.length ed
      rw [List.length_drop] at e1
      have e2 := h2.2.2.1
      have e3 : ([] : List Nat).length = 0 := rfl
      omega
    obtain ⟨ao, L, cap, rfl, hL, hLc, hcm, hnn, hnum⟩ := h2.2.1.open
    obtain rfl : k = L := hkl.trans hL.out
    have HK3 : Hid (Kept (ofP none) w (w2.setCell ⟨b, 1, none⟩ (.int .i64 (k : Nat)))) := (HK2.out.any (S := ofP none)).setCell _ (fun h => absurd h (by show ¬ b < w.heap.size; omega)) _
    have g1 : (k : Int) + 0 = (k : Int) := by omega
    have g0 : (0 : Int) ≤ (k : Int) := by omega
    have g2 : (k : Int) ≤ (cap : Int) := by omega
    have hkb2 : k ≤ 1000000 := by omega
    have HN := toHid hnn
    have HB := toHid hb
    clear J2 h2 h3 k2 hnum hnn HK1 HK2 H1 ed hkl hL hkb hb
    cases ao with
    | none =>
      obtain rfl := HN.out rfl
      obtain rfl : k = 0 := by omega
      go_wp2_with fail
      go_quiet (fail)
      go_wp2_with fail
      go_ret2
      exact ⟨_, rfl, Row.nil _ _, .inl ⟨rfl, rfl⟩, HK3.out.drewN _⟩
    | some ad =>
      by_cases hck : cap = k
      · subst hck
        go_wp2_with fail
        go_quiet (fail)
        go_wp2_with fail
        go_ret2
        exact ⟨_, rfl, row_empty (fun e => by cases e) (by unfold maxLen at *; omega), .inl ⟨rfl, rfl⟩, HK3.out.drewN _⟩
      · go_wp2_with fail
        go_quiet (fail)
        go_wp2_with fail
        go_ret2
        exact ⟨_, rfl, row_empty (fun e => by cases e) (by unfold maxLen at *; omega), .inl ⟨rfl, rfl⟩, HK3.out.drewN _⟩
  · have hE : readE [] (n : Int) = 150 := by unfold readE; rw [if_neg (by omega), if_pos (by simp; omega)]
    rw [hE]
    have g1 : (n : Int) > ((0 : Nat) : Int) := by omega
    have g2 : ((0 : Nat) : Int) < (n : Int) := by omega
    have g3 : (0 : Int) < (n : Int) := by omega
    clear hE hR hL
    go_enter Tryz.func68, Tryz.ntmps68
    go_wp2_with fail
    refine J.mono ?_
    rintro e w1 ⟨b, rfl, hb, h1, k1⟩
    have J2 := xLeft _ _ _ w1 h1
    have HK1 := toHid k1
    have H1 := toHid h1
    clear J k1 h1
    go_wp2_with fail
    refine J2.mono ?_
    rintro e w2 ⟨rfl, k2⟩
    have HK2 := toHid (HK1.out.trans k2)
    have h2 := H1.out.grew k2
    rcases h2 with ⟨e, _⟩ | ⟨b', v, ps, k, e, ed, h2⟩
    · cases e
    cases e
    obtain ⟨c0, c1⟩ := h2.cells
    have f1 := h2.free
    obtain ⟨ao, L, cap, rfl, hL, hLc, hcm, hnn, hnum⟩ := h2.2.1.open
    have HK3 : Hid (Kept (ofP none) w (w2.setCell ⟨b, 1, none⟩ (.int .i64 (L : Nat)))) := (HK2.out.any (S := ofP none)).setCell _ (fun h => absurd h (by show ¬ b < w.heap.size; omega)) _
    clear J2 h2 k2 hnum hnn HK1 HK2 H1 ed
    go_wp2_with fail
    go_ret2
    exact ⟨_, rfl, Row.nil _ _, .inl ⟨rfl, rfl⟩, HK3.out⟩

set_option maxRecDepth 20000 in
set_option maxHeartbeats 1000000 in
/-- take of a script in memory. -/
theorem xTakeB (b B n k : Nat) (v : Value) (ps : List Nat) (w : World) (h : LscB w b B v ps k) :
    Calls Tryz.prog 68 #[.pointer (some ⟨b, 0, none⟩), .int .i64 (n : Int)] w fun e w' => ∃ u, e = .returned (.tuple #[u, .int .i64 (readE (ps.drop k) n : Nat)]) ∧ Row .u8 w' u (readL (ps.drop k) n) ∧ Lsc w' (some ⟨b, 0, none⟩) B (readR (ps.drop k) n) ∧ Kept (fun x => x = b) w w' := by
  have J := xLeft _ _ _ w h.lsc
  have H := toHid h
  obtain ⟨ao, L, cap, rfl, hL, hLc, hcm, hnn, hnum⟩ := h.2.1.open
  have hkL : k ≤ L := by rw [← hL.out]; exact h.2.2.1
  have hLb : L ≤ 1000000 := by rw [← hL.out]; exact h.2.2.2.1
  have hd : (ps.drop k).length = L - k := by rw [List.length_drop, hL.out]
  rw [hd] at J
  obtain ⟨d, hdd⟩ : ∃ d, d = L - k := ⟨_, rfl⟩
  rw [← hdd] at J hd
  by_cases h1 : d < n
  · have e1 : readE (ps.drop k) (n : Int) = 150 := by unfold readE; rw [if_neg (by omega), if_pos (by omega)]
    have e2 : readL (ps.drop k) (n : Int) = [] := by unfold readL; rw [e1]; rfl
    have e3 : readR (ps.drop k) (n : Int) = ps.drop ps.length := by
      unfold readR
      rw [if_neg (by omega), List.drop_of_length_le (by rw [hd]; show d ≤ ((n : Int)).toNat; omega), List.drop_of_length_le (Nat.le_refl _)]
    rw [e1, e2, e3]
    have g1 : (n : Int) > (d : Int) := by omega
    have g2 : (d : Int) < (n : Int) := by omega
    have HPL := toHid hL.out
    clear e1 e2 e3 h hnum hnn hdd hd hL
    go_enter Tryz.func68, Tryz.ntmps68
    go_wp2_with fail
    refine J.mono ?_
    rintro e w1 ⟨rfl, k1⟩
    have H1 := toHid (H.out.kept k1 (fun _ _ f => f))
    obtain ⟨c0, c1⟩ := H1.out.cells
    have f1 := H1.out.free
    have HP := toHid (H1.out.put L (by rw [HPL.out]; exact Nat.le_refl _))
    have HK := toHid ((k1.any (S := fun x => x = b)).setCell ⟨b, 1, none⟩ (fun _ => rfl) (.int .i64 (L : Nat)))
    clear J k1
    go_wp2_with fail
    go_ret2
    exact ⟨_, rfl, Row.nil _ _, by rw [HPL.out]; exact HP.out.lsc, HK.out⟩
  · have e1 : readE (ps.drop k) (n : Int) = 0 := by unfold readE; rw [if_neg (by omega), if_neg (by omega)]
    have e2 : readL (ps.drop k) (n : Int) = (ps.drop k).take n := by unfold readL; rw [e1]; rfl
    have e3 : readR (ps.drop k) (n : Int) = ps.drop (k + n) := by
      unfold readR
      rw [if_neg (by omega), List.drop_drop]
      rfl
    rw [e1, e2, e3]
    obtain ⟨m, hm⟩ : ∃ m, m = k + n := ⟨_, rfl⟩
    rw [← hm]
    have g1 : ¬ (n : Int) > (d : Int) := by omega
    have g2 : ¬ (d : Int) < (n : Int) := by omega
    have g3 : (k : Int) + (n : Int) = (m : Int) := by omega
    have g4 : (k : Int) ≤ (m : Int) := by omega
    have g5 : (m : Int) ≤ (cap : Int) := by omega
    have g6 : (0 : Int) ≤ (k : Int) := by omega
    have g7 : m - k = n := by omega
    have hmL : m ≤ L := by omega
    have hmc : m ≤ cap := by omega
    have hkm : k ≤ m := by omega
    have HPL := toHid hL.out
    have hkb : k ≤ 1000000 := by omega
    have hmb : m ≤ 1000000 := by omega
    have HN := toHid hnn
    have HLE := toHid (show k + n ≤ L by omega)
    clear e1 e2 e3 h hnum hdd hd hL hm
    go_enter Tryz.func68, Tryz.ntmps68
    go_wp2_with fail
    refine J.mono ?_
    rintro e w1 ⟨rfl, k1⟩
    have H1 := toHid (H.out.kept k1 (fun _ _ f => f))
    obtain ⟨c0, c1⟩ := H1.out.cells
    have f1 := H1.out.free
    have HP := toHid (H1.out.put m (by rw [HPL.out]; exact hmL))
    obtain ⟨d0, d1⟩ := HP.out.cells
    have HK := toHid ((k1.any (S := fun x => x = b)).setCell ⟨b, 1, none⟩ (fun _ => rfl) (.int .i64 (m : Nat)))
    have HC := toHid (row_cut HP.out.2.1 HLE.out)
    clear J k1
    cases ao with
    | none =>
      obtain rfl := HN.out rfl
      obtain rfl : L = 0 := by omega
      obtain rfl : m = 0 := by omega
      obtain rfl : k = 0 := by omega
      obtain rfl : n = 0 := by omega
      have HC2 := toHid (HC.out.1 rfl)
      clear HC hnn
      go_wp2_with fail
      go_quiet (fail)
      go_wp2_with fail
      go_ret2
      exact ⟨_, rfl, HC2.out.kept' (S := Nought) ((Kept.refl _ _).drewN _) (fun _ _ _ f => f), HP.out.lsc.grew ((Kept.refl _ _).drewN _), HK.out.drewN _⟩
    | some ad =>
      by_cases hck : cap = k
      · have HC2 := toHid (HC.out.2.1 ad rfl hck)
        obtain rfl : m = k := by omega
        obtain rfl : n = 0 := by omega
        subst hck
        clear HC hnn
        go_wp2_with fail
        go_quiet (fail)
        go_wp2_with fail
        go_ret2
        exact ⟨_, rfl, HC2.out.kept' (S := Nought) ((Kept.refl _ _).drewN _) (fun _ _ _ f => f), HP.out.lsc.grew ((Kept.refl _ _).drewN _), HK.out.drewN _⟩
      · have HC2 := toHid (HC.out.2.2 ad rfl hck)
        clear HC hnn
        go_wp2_with fail
        go_quiet (fail)
        go_wp2_with fail
        go_ret2
        exact ⟨_, rfl, HC2.out.kept' (S := Nought) ((Kept.refl _ _).drewN _) (fun _ _ _ f => f), HP.out.lsc.grew ((Kept.refl _ _).drewN _), HK.out.drewN _⟩

/-- take: any script. -/
theorem xTake (p : Option Addr) (B n : Nat) (bs : List Nat) (w : World) (h : Lsc w p B bs) :
    Calls Tryz.prog 68 #[.pointer p, .int .i64 (n : Int)] w fun e w' => ∃ u, e = .returned (.tuple #[u, .int .i64 (readE bs n : Nat)]) ∧ Row .u8 w' u (readL bs n) ∧ Lsc w' p B (readR bs n) ∧ Kept (ofP p) w w' := by
  rcases h with ⟨rfl, rfl⟩ | ⟨b, v, ps, k, rfl, rfl, h⟩
  · exact xTakeNil B n w
  · refine (xTakeB b B n k v ps w h).mono ?_
    rintro e w' ⟨u, he, h1, h2, h3⟩
    exact ⟨u, he, h1, h2, h3.mono fun x _ e => by cases e; rfl⟩

theorem readE_or (bs : List Nat) (n : Nat) : readE bs n = 0 ∨ readE bs n = 150 := by
  unfold readE
  rw [if_neg (by omega)]
  split <;> simp

theorem readL_le (bs : List Nat) (n : Int) : (readL bs n).length ≤ bs.length := by
  unfold readL
  split
  · rw [List.length_take]
    omega
  · simp

set_option maxRecDepth 20000 in
set_option maxHeartbeats 1000000 in
/-- Read. -/
theorem xRead (p : Option Addr) (B : Nat) (bs : List Nat) (n : Int) (w : World) (h : Lsc w p B bs) :
    Calls Tryz.prog 38 #[.pointer p, .int .i64 n] w fun e w' => ∃ u, e = .returned (.tuple #[u, .int .i64 (readE bs n : Nat)]) ∧ OwnB w' w.heap.size u (readL bs n) ∧ Lsc w' p B (readR bs n) ∧ Kept (ofP p) w w' := by
  have H := toHid h
  by_cases h1 : n < 0
  · have e1 : readE bs n = 1 := by unfold readE; rw [if_pos h1]
    have e2 : readL bs n = [] := by unfold readL; rw [e1]; rfl
    have e3 : readR bs n = bs := by unfold readR; rw [if_pos h1]
    rw [e1, e2, e3]
    clear e1 e2 e3 h
    go_enter Tryz.func38, Tryz.ntmps38
    go_wp2_with fail
    go_ret2
    exact ⟨_, rfl, OwnB.nil _ _, H.out, Kept.refl _ _⟩
  · obtain ⟨m, rfl⟩ := Int.eq_ofNat_of_zero_le (show 0 ≤ n by omega)
    have J := xTake p B m bs w h
    have hb := (readL_le bs (m : Int))
    have hbl := h.len
    have HE := readE_or bs m
    have HL : Hid (readE bs (m : Int) ≠ 0 → readL bs (m : Int) = []) := fun e => if_neg e
    generalize readL bs (m : Int) = l at *
    generalize readE bs (m : Int) = E at *
    generalize readR bs (m : Int) = r at *
    clear h
    go_enter Tryz.func38, Tryz.ntmps38
    go_wp2_with fail
    refine J.mono ?_
    rintro e w1 ⟨u, rfl, hr, h1', k1⟩
    have J2 := xCopy u l w1 hr (by omega)
    have HS := toHid h1'
    have HK := toHid k1
    obtain ⟨ao, L, cap, rfl, _⟩ := hr.open
    clear J k1 h1' hr
    rcases HE with rfl | rfl
    · clear HL
      go_wp2_with fail
      refine J2.mono ?_
      rintro e w2 ⟨u2, rfl, hO, k2⟩
      have HS2 := toHid (HS.out.grew k2)
      have HO := toHid (hO.base HK.out.size)
      have HK2 := toHid (HK.out.trans k2.any)
      clear J2 k2 hO
      go_wp2_with fail
      go_ret2
      exact ⟨_, rfl, HO.out, HS2.out, HK2.out⟩
    · obtain rfl := HL.out (by decide)
      clear J2
      go_wp2_with fail
      go_ret2
      exact ⟨_, rfl, OwnB.nil _ _, HS.out, HK.out⟩

end Go.Proofs.YtcjaafmlflonhaaGreatDoor


/- Package script: Filled. -/
namespace Go.Proofs.YtcjaafmlflonhaaGreatDoor
open Go.RowKit

/-- How many bytes the script at p has left. -/
def lscLen (p : Option Addr) (w : World) : Nat := match p with
  | none => 0
  | some a => match w.cell? ⟨a.block, 0, none⟩, w.cell? ⟨a.block, 1, none⟩ with
    | some v, some (.int _ k) => sliceLen v - k.toNat
    | _, _ => 0

theorem Lsc.left {w : World} {p : Option Addr} {B : Nat} {bs : List Nat} (h : Lsc w p B bs) : lscLen p w = bs.length := by
  rcases h with ⟨rfl, rfl⟩ | ⟨b, v, ps, k, rfl, rfl, h⟩
  · rfl
  · obtain ⟨c0, c1⟩ := h.cells
    obtain ⟨_, _, e, _⟩ := h.2.1
    unfold lscLen
    simp only [c0, c1]
    rw [e, List.length_drop]
    rfl

end Go.Proofs.YtcjaafmlflonhaaGreatDoor

