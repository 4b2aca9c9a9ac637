/- Package script: a script in memory; copyOf, New, Left. -/
import Derived.Test.YtegjdjfnpphipaaScr1
import Derived.Test.YtegjdjfnpphipaaSrc1
import Derived.Test.YtegjdjfnpphipaaSeq2
namespace Go.Proofs.Ytegjdjfnpphipaa
open Go.RowKit

/-- A script at block b with the bytes bs left: the slice v that was laid, its bytes, the place. -/
def LscB (w : World) (b B : Nat) (v : Value) (ps : List Nat) (k : Nat) : Prop :=
  w.heap[b]? = some (.cells #[v, .int .i64 (k : Nat)] 54 (0, 0)) ∧ Row .u8 w v ps ∧ k ≤ ps.length ∧ ps.length ≤ 1000000 ∧ b < B ∧ (ps ≠ [] → ∀ x, v.ownBlock = some x → x < B ∧ x ≠ b)

/-- The script that p shows (nil: one without bytes) has the bytes bs left; it and they lie below block B. -/
def Lsc (w : World) (p : Option Addr) (B : Nat) (bs : List Nat) : Prop := (p = none ∧ bs = []) ∨ ∃ b v ps k, p = some ⟨b, 0, none⟩ ∧ bs = ps.drop k ∧ LscB w b B v ps k

/-- The block that p shows. -/
def ofP (p : Option Addr) (x : Nat) : Prop := p.map Addr.block = some x

theorem LscB.lt {w : World} {b B k : Nat} {v : Value} {ps : List Nat} (h : LscB w b B v ps k) : b < w.heap.size := lt_of_block h.1

theorem LscB.cells {w : World} {b B k : Nat} {v : Value} {ps : List Nat} (h : LscB w b B v ps k) : w.cell? ⟨b, 0, none⟩ = some v ∧ w.cell? ⟨b, 1, none⟩ = some (.int .i64 (k : Nat)) :=
  ⟨(cell_of_row w b 0 _ _ _ h.1).trans rfl, (cell_of_row w b 1 _ _ _ h.1).trans rfl⟩

theorem LscB.free {w : World} {b B k : Nat} {v : Value} {ps : List Nat} (h : LscB w b B v ps k) : w.frozen? ⟨b, 1, none⟩ = false := by simp [World.frozen?, h.1]

theorem LscB.kept {S : Nat → Prop} {w w' : World} {b B k : Nat} {v : Value} {ps : List Nat} (h : LscB w b B v ps k) (kk : Kept S w w') (hS : ∀ x, x < B → ¬ S x) : LscB w' b B v ps k :=
  ⟨(kk.block b h.lt (hS b h.2.2.2.2.1)).trans h.1, h.2.1.kept' kk (fun e x hx => hS x (h.2.2.2.2.2 e x hx).1), h.2.2⟩

theorem LscB.put {w : World} {b B k : Nat} {v : Value} {ps : List Nat} (h : LscB w b B v ps k) (m : Nat) (hm : m ≤ ps.length) : LscB (w.setCell ⟨b, 1, none⟩ (.int .i64 (m : Nat))) b B v ps m := by
  refine ⟨?_, h.2.1.kept' ((Kept.refl (fun x => x = b) w).setCell ⟨b, 1, none⟩ (fun _ => rfl) _) (fun e x hx => (h.2.2.2.2.2 e x hx).2), hm, h.2.2.2⟩
  have := heap_setCell_same w b 1 _ 54 (.int .i64 (m : Nat)) h.1
  rw [this]
  rfl

theorem LscB.lsc {w : World} {b B k : Nat} {v : Value} {ps : List Nat} (h : LscB w b B v ps k) : Lsc w (some ⟨b, 0, none⟩) B (ps.drop k) := .inr ⟨b, v, ps, k, rfl, rfl, h⟩

theorem Lsc.len {w : World} {p : Option Addr} {B : Nat} {bs : List Nat} (h : Lsc w p B bs) : bs.length ≤ 1000000 := by
  rcases h with ⟨_, rfl⟩ | ⟨b, v, ps, k, _, rfl, _, _, _, h, _⟩
  · simp
  · rw [List.length_drop]
    omega

theorem Lsc.kept {S : Nat → Prop} {w w' : World} {p : Option Addr} {B : Nat} {bs : List Nat} (h : Lsc w p B bs) (k : Kept S w w') (hS : ∀ x, x < B → ¬ S x) : Lsc w' p B bs := by
  rcases h with h | ⟨b, v, ps, k', e, e2, h⟩
  · exact .inl h
  · exact .inr ⟨b, v, ps, k', e, e2, h.kept k hS⟩

theorem Lsc.grew {w w' : World} {p : Option Addr} {B : Nat} {bs : List Nat} (h : Lsc w p B bs) (k : Kept Nought w w') : Lsc w' p B bs := h.kept k fun _ _ f => f

theorem Lsc.inP {w : World} {p : Option Addr} {B x : Nat} {bs : List Nat} (h : Lsc w p B bs) (hx : ofP p x) : x < B ∧ x < w.heap.size := by
  rcases h with ⟨rfl, _⟩ | ⟨b, v, ps, k, rfl, _, h⟩
  · cases hx
  · cases hx
    exact ⟨h.2.2.2.2.1, h.lt⟩

theorem Lsc.put {w : World} {p : Option Addr} {B l : Nat} {bs : List Nat} {o : Obj} (o' : Obj) (h : Lsc w p B bs) (hl : w.heap[l]? = some o) (ho : o.isCells = false) : Lsc (w.putObj l o') p B bs := by
  rcases h with h | ⟨b, v, ps, k, e, e2, h1, h2, h3⟩
  · exact .inl h
  · refine .inr ⟨b, v, ps, k, e, e2, (World.putObj_heap_other fun e => ?_).trans h1, row_put o' h2 hl ho, h3⟩
    subst e
    rw [hl] at h1
    cases h1
    cases ho

set_option maxRecDepth 20000 in
set_option maxHeartbeats 1000000 in
/-- copyOf. -/
theorem xCopy (v : Value) (bs : List Nat) (w : World) (h : Row .u8 w v bs) (hl : bs.length ≤ 1000000) :
    Calls Try.prog 22 #[v] w fun e w' => ∃ u, e = .returned u ∧ OwnB w' w.heap.size u bs ∧ Kept Nought w w' := by
  obtain ⟨i0, hi0, hz0, hz1, hz2⟩ := info_parts Try.info8s
  have HX := toHid h
  obtain ⟨ao, na, ca, rfl, hLa, hac, ham, _⟩ := h.open
  obtain ⟨CS, hCS⟩ : ∃ CS, CS = bs.map fun z : Nat => Value.int .u8 (z : Int) := ⟨_, rfl⟩
  have HC := toHid hCS
  have HLC : Hid (CS.length = na) := by unfold Hid; rw [hCS, List.length_map]; exact hLa.out
  have HSRC : Hid (∀ W, Kept Nought w W → 0 < CS.length → ∃ ad, ao = some ad ∧ ∀ j u, CS[j]? = some u → W.cell? (ad.add j) = some u) := by rw [hCS]; exact fun W k hp => row_src HX.out k hp
  have HO1 : Hid (∀ u ∈ CS, u.oneCell' = true) := by rw [hCS]; exact ones8 _ _
  have hna : na ≤ 1000000 := by have := hLa.out; omega
  clear h hCS
  go_enter Try.func22, Try.ntmps22
  go_wp2_with (at_make; refine wpList_make_full _ rfl _ _ 22 rfl w.heap.size 5 i0 _ 1 Try.underlying22 hi0 hz0 hz1 _ _ _ _ na rfl rfl rfl rfl (by rw [hz2]; omega) (by unfold maxLen; omega) (Nat.le_refl _) ?_; intro w1 ho1 hg1; rw [zeros_map] at ho1; have k1 := grown_kept hg1; obtain ⟨w2, hrun, hb2, k2⟩ := run_copy_part (P := Try.prog) 22 22 3 5 w.heap.size 0 na na (some ⟨w.heap.size, 0, none⟩) ao na ca _ 5 CS Try.underlying22 (by rw [hi0]; simp [hz1]) (own_block ho1) (by rw [HLC.out]; exact (Nat.min_self _).symm) (fun hp => ⟨rfl, HSRC.out _ k1 hp⟩) (by have := HLC.out; simp; omega) HO1.out; have HB2 : Hid _ := hb2; have HK2 := toHid (kept_new k1 k2 (Nat.le_refl _)); clear hb2 ho1 hg1 k1 k2)
  have hA := HB2.out
  rw [HC.out, splice_fill, hLa.out, Nat.sub_self, List.replicate_zero, List.append_nil] at hA
  go_ret
  exact ⟨_, rfl, OwnB.of (own_of_block hA hLa.out (by unfold maxLen; omega) (Nat.le_refl _)), HK2.out⟩

set_option maxRecDepth 20000 in
set_option maxHeartbeats 1000000 in
/-- New. -/
theorem xNew (v : Value) (bs : List Nat) (w : World) (h : Row .u8 w v bs) (hl : bs.length ≤ 1000000) :
    Calls Try.prog 10 #[v] w fun e w' => ∃ b, e = .returned (.pointer (some ⟨b, 0, none⟩)) ∧ w.heap.size ≤ b ∧ Lsc w' (some ⟨b, 0, none⟩) w'.heap.size bs ∧ Kept Nought w w' := by
  have J := xCopy v bs w h hl
  clear h
  go_enter Try.func10, Try.ntmps10
  go_wp2_with fail
  refine J.mono ?_
  rintro e w1 ⟨u, rfl, hO, k1⟩
  have hs := k1.size
  have k2 : Kept Nought w1 (w1.alloc (.cells #[u, .int .i64 0] 54)) := (Kept.refl _ _).alloc _
  have HR : Hid (LscB (w1.alloc (.cells #[u, .int .i64 0] 54)) w1.heap.size (w1.alloc (.cells #[u, .int .i64 0] 54)).heap.size u bs 0) := by
    refine ⟨World.alloc_heap_new w1 _, hO.row.grew k2, Nat.zero_le _, hl, by simp, fun _ x hx => ?_⟩
    have := (hO.lt x hx).2
    rw [World.size_alloc]
    omega
  have HK := toHid (k1.alloc (.cells #[u, .int .i64 0] 54))
  obtain ⟨ao, cap, rfl⟩ := own_slice hO
  clear J k1 k2 hO
  go_wp2_with fail
  go_ret
  exact ⟨_, rfl, hs, HR.out.lsc, HK.out⟩

set_option maxRecDepth 20000 in
set_option maxHeartbeats 1000000 in
/-- Left. -/
theorem xLeft (p : Option Addr) (B : Nat) (bs : List Nat) (w : World) (h : Lsc w p B bs) :
    Calls Try.prog 14 #[.pointer p] w fun e w' => e = .returned (.int .i64 (bs.length : Nat)) ∧ Kept Nought w w' := by
  rcases h with ⟨rfl, rfl⟩ | ⟨b, v, ps, k, rfl, rfl, h⟩
  · go_enter Try.func14, Try.ntmps14
    go_wp2_with fail
    go_ret
    exact ⟨rfl, Kept.refl _ _⟩
  · obtain ⟨c0, c1⟩ := h.cells
    obtain ⟨ao, L, cap, rfl, hL, hLc, hcm, hnn, hnum⟩ := h.2.1.open
    have hk : k ≤ L := by rw [← hL.out]; exact h.2.2.1
    have hLb : L ≤ 1000000 := by rw [← hL.out]; exact h.2.2.2.1
    have e1 : (ps.drop k).length = L - k := by rw [List.length_drop, hL.out]
    rw [e1]
    obtain ⟨d, hd⟩ : ∃ d, d = L - k := ⟨_, rfl⟩
    rw [← hd]
    have g1 : (L : Int) - (k : Int) = (d : Int) := by omega
    clear hd e1 hnum h hnn
    go_enter Try.func14, Try.ntmps14
    go_wp2_with fail
    go_quiet (fail)
    go_wp2_with fail
    go_ret
    exact ⟨rfl, (Kept.refl _ _).drewN _⟩

end Go.Proofs.Ytegjdjfnpphipaa
