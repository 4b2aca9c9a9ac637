/- Put together of: Oap1 Fnd0 Pad0 Wor1. -/
import Derived.Test.YtnhkfdbeacmepaaDoorPk1
import Derived.Test.YtnhkfdbeacmepaaDoorPk4
import Derived.Test.YtnhkfdbeacmepaaDoorPk21
import Derived.Test.YtnhkfdbeacmepaaDoorPk23
import Derived.Test.YtnhkfdbeacmepaaDoorPk26
import Derived.Test.YtnhkfdbeacmepaaDoorPk28
import Derived.Deep.OwnRows
import Derived.Test.YtnhkfdbeacmepaaDoorRows
import Derived.WalkKit
import Derived.WalkSpells
import Derived.WalkLawsBesides
import Derived.Shelf.Spec.BitsCarry
import Derived.Shelf.Bits.Mul64
import Derived.Laws.BitsAllLaws
import Derived.BigQuiet

/- Package oaep: around, Room, cut, masks and what it hands out; slices.Clone of bytes; a block of bytes that is changed in its place. -/
namespace Go.Proofs.YtnhkfdbeacmepaaDoor
open Go.RowKit Go.Shelf

/-- The blocks of the hashes' tables. -/
def TabB (x : Nat) : Prop := x = 0 ∨ x = 3 ∨ x = 2 ∨ x = 1 ∨ x = 4

theorem cell_block {w w' : World} {a : Addr} {v : Value} (h : w.cell? a = some v) (e : w'.heap[a.block]? = w.heap[a.block]?) : w'.cell? a = some v := by
  unfold World.cell? at *
  rw [e]
  exact h

theorem TabH.lt {w : World} (h : TabH w) {x : Nat} (hx : TabB x) : x < w.heap.size := by
  rcases hx with rfl | rfl | rfl | rfl | rfl
  · exact lt_of_cell (h.t11.start 0 (by omega))
  · exact lt_of_cell (h.t11.words 0 (by omega))
  · exact lt_of_cell (h.t12.start 0 (by omega))
  · exact lt_of_cell (h.t12.short 0 (by omega))
  · exact lt_of_cell (h.t12.words 0 (by omega))

/-- The tables stay, where none of their blocks is written. -/
theorem TabH.but {S : Nat → Prop} {w w' : World} (h : TabH w) (k : Kept S w w') (hs : ∀ x, TabB x → ¬ S x) : TabH w' := by
  have key : ∀ x, TabB x → w'.heap[x]? = w.heap[x]? := fun x hx => k.block x (h.lt hx) (hs x hx)
  exact ⟨⟨fun i hi => cell_block (h.t11.start i hi) (key _ (.inl rfl)), fun i hi => cell_block (h.t11.words i hi) (key _ (.inr (.inl rfl)))⟩,
    ⟨fun i hi => cell_block (h.t12.start i hi) (key _ (.inr (.inr (.inl rfl)))), fun i hi => cell_block (h.t12.short i hi) (key _ (.inr (.inr (.inr (.inl rfl))))), fun i hi => cell_block (h.t12.words i hi) (key _ (.inr (.inr (.inr (.inr rfl)))))⟩⟩

/-- A trace lies apart from the tables. -/
def ApT (o : Tr) : Prop := ∀ x, TabB x → ¬ trFoot o x

theorem ApT.none : ApT none := fun _ _ f => f

theorem TabH.did {w w' : World} {o o' : Tr} {m : List Ev} (h : TabH w) (a : ApT o) (d : Did w o m w' o') : TabH w' := h.but d.kept a

theorem ApT.did {w w' : World} {o o' : Tr} {m : List Ev} (a : ApT o) (h : TabH w) (d : Did w o m w' o') : ApT o' := fun x hx f => a x hx (d.foot (h.lt hx) f)

/-- Block b holds the bytes zs ahead of others, in room for cap. -/
def Blk (w : World) (b cap : Nat) (zs : List Nat) : Prop := ∃ ts : List Value, w.heap[b]? = some (.cells (zs.map (fun z : Nat => Value.int .u8 (z : Int)) ++ ts).toArray 5 (0, 0)) ∧ zs.length + ts.length = cap ∧ cap ≤ maxLen

theorem Blk.lt {w : World} {b cap : Nat} {zs : List Nat} (h : Blk w b cap zs) : b < w.heap.size := by
  obtain ⟨_, h1, _⟩ := h
  exact lt_of_block h1

theorem Blk.kept {S : Nat → Prop} {w w' : World} {b cap : Nat} {zs : List Nat} (h : Blk w b cap zs) (k : Kept S w w') (hs : ¬ S b) : Blk w' b cap zs := by
  have hl := h.lt
  obtain ⟨ts, h1, h2⟩ := h
  exact ⟨ts, (k.block b hl hs).trans h1, h2⟩

theorem Blk.grew {w w' : World} {b cap : Nat} {zs : List Nat} (h : Blk w b cap zs) (k : Kept Nought w w') : Blk w' b cap zs := h.kept k fun f => f

theorem Blk.row {w : World} {b cap : Nat} {zs : List Nat} (h : Blk w b cap zs) : Row .u8 w (.slice (some ⟨b, 0, none⟩) zs.length cap) zs := by
  obtain ⟨ts, h1, h2, h3⟩ := h
  refine ⟨some ⟨b, 0, none⟩, cap, rfl, by omega, h3, (fun e => by cases e), fun i hi => ⟨b, 0, rfl, ?_⟩⟩
  rw [cell_of_row w b _ _ _ _ h1]
  simp [List.getElem?_append_left, hi]

theorem Blk.part {w : World} {b cap : Nat} {zs : List Nat} (h : Blk w b cap zs) {s m : Nat} (hm : s + m ≤ zs.length) : Row .u8 w (.slice (some ⟨b, s, none⟩) m (cap - s)) ((zs.drop s).take m) := by
  have := row_part (s := s) (m := m) h.row hm
  simpa using this

theorem Blk.of_arr {w : World} {b n : Nat} {zs : List Nat} (h : Arr .u8 5 w b zs) (hl : zs.length = n) (hn : n ≤ maxLen) : Blk w b n zs :=
  ⟨[], by rw [List.append_nil]; exact h, by simpa using hl, hn⟩

theorem Blk.of_own {w : World} {base : Nat} {v : Value} {zs : List Nat} (h : OwnB w base v zs) (h0 : zs ≠ []) : ∃ b cap, v = .slice (some ⟨b, 0, none⟩) zs.length cap ∧ base ≤ b ∧ Blk w b cap zs := by
  rcases h.2 with ⟨rfl, e⟩ | ⟨g, cap, cur, rfl, hbg, hg, hnc, hcm, hcs, htake⟩
  · exact absurd (List.length_eq_zero_iff.1 e) h0
  · refine ⟨g, cap, rfl, hbg, cur.toList.drop zs.length, ?_, ?_, hcm⟩
    · rw [hg, ← htake, Nat.mul_one, List.take_append_drop]
    · simp
      omega

theorem Blk.apart {w : World} {o : Tr} {b cap : Nat} {zs : List Nat} (h : Blk w b cap zs) (ht : TrIn w o) : ¬ trFoot o b := by
  obtain ⟨ts, h1, _⟩ := h
  exact cells_apart h1 ht (by decide) (by decide)

theorem boxed_tr {w : World} {o : Tr} {b : Nat} {t : TypeId} {v : Value} (h : Boxed w b t v) (ht : TrIn w o) (h1 : t ≠ 74) (h2 : t ≠ 96) : ¬ trFoot o b := cells_apart (fr := (0, 0)) (cs := #[v]) h ht h1 h2

/-- A part of a block is masked. -/
def lyB (zs : List Nat) (s n : Nat) (ms : List Nat) : List Nat := zs.take s ++ xorN ((zs.drop s).take n) ms ++ zs.drop (s + n)

theorem lyB_length {zs : List Nat} {s n : Nat} (ms : List Nat) (h : s + n ≤ zs.length) : (lyB zs s n ms).length = zs.length := by
  unfold lyB
  simp [xorN_length]
  omega

theorem lyB_digs {zs ms : List Nat} {s n : Nat} (h : Digs 256 zs) (hm : Digs 256 ms) : Digs 256 (lyB zs s n ms) := ((h.take s).append (xorN_digs ((h.drop s).take n) hm)).append (h.drop _)

theorem splice_mid (zs xs : List Nat) (ts : List Value) (s : Nat) (f : Nat → Value) (h : s + xs.length ≤ zs.length) : splice (zs.map f ++ ts) s (xs.map f) = (zs.take s ++ xs ++ zs.drop (s + xs.length)).map f ++ ts := by
  unfold splice
  rw [List.length_map, List.take_append_of_le_length (by simp; omega), List.drop_append_of_le_length (by simp; omega)]
  simp [List.map_take, List.map_drop]

/-- A row is written over a part of a block. -/
theorem Blk.copy {w : World} {b cap : Nat} {zs : List Nat} (h : Blk w b cap zs) (s n c : Nat) (hs : s + n ≤ zs.length) (ao : Option Addr) (m c2 : Nat) (xs : List Nat) (hx : Row .u8 w (.slice ao m c2) xs) (hn : m = n) :
    ∃ w', (Builtin.copy_ #[22, 22] 3 #[.slice (some ⟨b, s, none⟩) n c, .slice ao m c2]).run Tryd.prog w = .ok (.int .i64 (n : Int)) w' ∧ Blk w' b cap (zs.take s ++ xs ++ zs.drop (s + n)) ∧ Kept (fun x => x = b) w w' := by
  subst hn
  obtain ⟨i0, hi0, hz0, hz1, hz2⟩ := info_parts Tryd.info8s
  obtain ⟨ts, h1, h2, h3⟩ := h
  obtain ⟨_, _, _, e1, hL, _, _, _, _⟩ := hx.open
  cases e1
  have hl : xs.length = m := hL.out
  obtain ⟨w', hrun, hb2, k2⟩ := run_copy_part (P := Tryd.prog) 22 22 3 5 b s m c (some ⟨b, s, none⟩) ao m c2 _ 5 (xs.map fun z : Nat => Value.int .u8 (z : Int)) Tryd.underlying22 (by rw [hi0]; simp [hz1]) h1 (by rw [List.length_map, hl]; exact (Nat.min_self _).symm) (fun hp => ⟨rfl, row_src hx (Kept.refl _ _) hp⟩) (by simp; omega) (ones8 _ _)
  rw [splice_mid _ _ _ _ _ (by omega), hl] at hb2
  refine ⟨w', ?_, ⟨ts, hb2, ?_, h3⟩, k2⟩
  · rw [hrun, List.length_map, hl]
    rfl
  · simp
    omega

set_option maxHeartbeats 400000 in
/-- around. -/
theorem zAround (z : Nat) (hz : z ≤ 64) (w : World) : Calls Tryd.prog 33 #[.int .i64 (z : Int)] w fun e w' => e = .returned (.int .i64 ((2 * z + 2 : Nat) : Int)) ∧ w' = w := by
  have g1 : (1 : Int) + (z : Int) + (z : Int) + 1 = ((2 * z + 2 : Nat) : Int) := by omega
  go_enter Tryd.func33, Tryd.ntmps33
  go_wp2_with fail
  go_ret
  exact ⟨by first | rfl | rw [g1], rfl⟩

set_option maxRecDepth 20000 in
set_option maxHeartbeats 2000000 in
/-- Room. -/
theorem zRoom (h k : Int) (w : World) (hk0 : -9223372036854775808 ≤ k) (hk1 : k ≤ 9223372036854775807) :
    Calls Tryd.prog 17 #[.int .i64 h, .int .i64 k] w fun e w' => e = .returned (.tuple #[.int .i64 (rmN h k), .int .i64 (rmE h k : Nat)]) ∧ Kept Nought w w' := by
  have J := z13Size h w
  have hz := hsz_le h
  have HE : Hid (rmE h k = if hszN h = 0 then 130 else if k < 0 ∨ 1024 < k then 1 else if k < 2 * (hszN h : Int) + 2 then 232 else 0) := rfl
  have HN : Hid (rmN h k = if rmE h k = 0 then k - 2 * (hszN h : Int) - 2 else 0) := rfl
  generalize hszN h = s at *
  generalize rmE h k = E at *
  generalize rmN h k = R at *
  have JA := toHid fun W => zAround s hz W
  by_cases c1 : s = 0
  · have HE1 : Hid (E = 130) := by unfold Hid; rw [HE.out, if_pos c1]
    have HR1 : Hid (R = 0) := by unfold Hid; rw [HN.out, if_neg (by rw [HE1.out]; omega)]
    subst c1
    clear HE HN JA
    go_enter Tryd.func17, Tryd.ntmps17
    go_wp2_with fail
    refine J.mono ?_
    rintro e w1 ⟨rfl, k1⟩
    clear J
    go_wp2_with fail
    go_ret2
    exact ⟨by rw [HE1.out, HR1.out]; rfl, k1⟩
  have g1 : ¬ (s : Int) = 0 := by omega
  by_cases c2 : k < 0 ∨ 1024 < k
  · have HE1 : Hid (E = 1) := by unfold Hid; rw [HE.out, if_neg c1, if_pos c2]
    have HR1 : Hid (R = 0) := by unfold Hid; rw [HN.out, if_neg (by rw [HE1.out]; omega)]
    clear HE HN JA
    by_cases c3 : k < 0
    · go_enter Tryd.func17, Tryd.ntmps17
      go_wp2_with fail
      refine J.mono ?_
      rintro e w1 ⟨rfl, k1⟩
      clear J
      go_wp2_with fail
      go_ret2
      exact ⟨by rw [HE1.out, HR1.out]; rfl, k1⟩
    · have c4 : k > 1024 := by omega
      have c4' : 1024 < k := c4
      clear c2
      go_enter Tryd.func17, Tryd.ntmps17
      go_wp2_with fail
      refine J.mono ?_
      rintro e w1 ⟨rfl, k1⟩
      clear J
      go_wp2_with fail
      go_ret2
      exact ⟨by rw [HE1.out, HR1.out]; rfl, k1⟩
  have c3 : ¬ k < 0 := by omega
  have c4 : ¬ k > 1024 := by omega
  have c4' : ¬ 1024 < k := by omega
  by_cases c5 : k < 2 * (s : Int) + 2
  · have HE1 : Hid (E = 232) := by unfold Hid; rw [HE.out, if_neg c1, if_neg c2, if_pos c5]
    have HR1 : Hid (R = 0) := by unfold Hid; rw [HN.out, if_neg (by rw [HE1.out]; omega)]
    have g5 : k < ((2 * s + 2 : Nat) : Int) := by omega
    clear HE HN c2 c5
    go_enter Tryd.func17, Tryd.ntmps17
    go_wp2_with fail
    refine J.mono ?_
    rintro e w1 ⟨rfl, k1⟩
    have J2 := JA.out w1
    clear J
    go_wp2_with fail
    refine J2.mono ?_
    rintro e w2 ⟨rfl, rfl⟩
    clear J2
    go_wp2_with fail
    go_ret2
    exact ⟨by rw [HE1.out, HR1.out]; rfl, k1⟩
  · have HE1 : Hid (E = 0) := by unfold Hid; rw [HE.out, if_neg c1, if_neg c2, if_neg c5]
    have HR1 : Hid (R = k - ((2 * s + 2 : Nat) : Int)) := by unfold Hid; rw [HN.out, if_pos HE1.out]; omega
    have g5 : ¬ k < ((2 * s + 2 : Nat) : Int) := by omega
    clear HE HN c2 c5
    go_enter Tryd.func17, Tryd.ntmps17
    go_wp2_with fail
    refine J.mono ?_
    rintro e w1 ⟨rfl, k1⟩
    have J2 := JA.out w1
    clear J
    go_wp2_with fail
    refine J2.mono ?_
    rintro e w2 ⟨rfl, rfl⟩
    have J3 := JA.out w2
    clear J2
    go_wp2_with fail
    refine J3.mono ?_
    rintro e w3 ⟨rfl, rfl⟩
    clear J3
    go_wp2_with fail
    go_ret2
    exact ⟨by rw [HE1.out, HR1.out]; rfl, k1⟩

set_option maxRecDepth 20000 in
set_option maxHeartbeats 2000000 in
/-- cut: the parts are the block's own memory. -/
theorem zCut (b n c z : Nat) (w : World) (hz : z ≤ 64) (h1 : 2 * z + 2 ≤ n) (hn : n ≤ c) (hc : c ≤ maxLen) :
    Calls Tryd.prog 27 #[.slice (some ⟨b, 0, none⟩) n c, .int .i64 (z : Int)] w fun e w' => e = .returned (.tuple #[.slice (some ⟨b, 0, none⟩) 1 c, .slice (some ⟨b, 1, none⟩) z (c - 1), .slice (some ⟨b, 1 + z, none⟩) (n - (1 + z)) (c - (1 + z))]) ∧ Kept Nought w w' := by
  unfold maxLen at hc
  obtain ⟨Z, hZ⟩ : ∃ Z, Z = 1 + z := ⟨_, rfl⟩
  have g0 : (1 : Int) + (z : Int) = (Z : Int) := by omega
  have g1 : (Z : Int) ≤ (c : Int) := by omega
  have g2 : (1 : Int) ≤ (Z : Int) := by omega
  have g3 : (Z : Int) ≤ (n : Int) := by omega
  have g4 : (1 : Int) ≤ (c : Int) := by omega
  have g5 : (0 : Int) ≤ (Z : Int) := by omega
  have g6 : Z ≤ c := by omega
  have g7 : Z ≤ n := by omega
  have g8 : 1 ≤ c := by omega
  have g9 : ¬ c - 1 = 0 := by omega
  have g10 : ¬ c - Z = 0 := by omega
  have g11 : ¬ c = Z := by omega
  have g12 : ¬ c = 1 := by omega
  have g13 : Z - 1 = z := by omega
  have g14 : ¬ c = 0 := by omega
  have g15 : 1 ≤ Z := by omega
  rw [← hZ]
  clear hZ
  go_enter Tryd.func27, Tryd.ntmps27
  go_wp2_with fail
  go_region
  all_goals
    go_wp2_with fail
    go_ret3
    exact ⟨by first | rfl | (rw [g13]) | simp [g13], (Kept.refl _ _).drew⟩

end Go.Proofs.YtnhkfdbeacmepaaDoor


/- What is found in bytes, and where. (out of WPadFinds in round 23) -/
namespace Go.Proofs.YtnhkfdbeacmepaaDoor
open Go.RowKit

/-- What is found above a place: where, and whether. -/
def FndR (bs : List Nat) (c : Nat) (fr lo : Int) (a s : Nat) : Prop :=
  (s = 1 ∧ a < bs.length ∧ lo < (a : Int) ∧ fr ≤ (a : Int) ∧ bs.getD a 0 = c ∧ ∀ j : Nat, lo < (j : Int) → fr ≤ (j : Int) → j < a → bs.getD j 0 ≠ c) ∨
  (s = 0 ∧ a = bs.length ∧ ∀ j : Nat, lo < (j : Int) → fr ≤ (j : Int) → j < bs.length → bs.getD j 0 ≠ c)

theorem FndR.start (bs : List Nat) (c : Nat) (fr : Int) : FndR bs c fr ((bs.length : Int) - 1) bs.length 0 := .inr ⟨rfl, rfl, fun j h1 _ h3 => by omega⟩

theorem FndR.done {bs : List Nat} {c : Nat} {fr lo : Int} {a s : Nat} (h : FndR bs c fr lo a s) (hl : lo < 0 ∨ lo < fr) (hl1 : -1 ≤ lo) : FndR bs c fr (-1) a s := by
  rcases h with ⟨rfl, h1, h2, h3, h4, h5⟩ | ⟨rfl, rfl, h5⟩
  · exact .inl ⟨rfl, h1, by omega, h3, h4, fun j g1 g2 g3 => h5 j (by omega) g2 g3⟩
  · exact .inr ⟨rfl, rfl, fun j g1 g2 g3 => h5 j (by omega) g2 g3⟩

end Go.Proofs.YtnhkfdbeacmepaaDoor


/- Package pad: head, lengthened. -/
namespace Go.Proofs.YtnhkfdbeacmepaaDoor
open Go.RowKit

set_option maxRecDepth 20000 in
set_option maxHeartbeats 1000000 in
/-- lengthened. -/
theorem kLen (v : Value) (bs : List Nat) (n : Nat) (w : World) (h : Row .u8 w v bs) (hl : bs.length ≤ n) (hn : n ≤ 1000000) :
    Calls Tryd.prog 69 #[v, .int .i64 (n : Int)] w fun e w' => ∃ u, e = .returned u ∧ OwnB w' w.heap.size u (bs ++ List.replicate (n - bs.length) 0) ∧ Kept Nought w w' := by
  obtain ⟨i0, hi0, hz0, hz1, hz2⟩ := info_parts Tryd.info8s
  have HX := toHid h
  obtain ⟨ao, na, ca, rfl, hLa, hac, ham, _⟩ := h.open
  obtain ⟨CS, hCS⟩ : ∃ CS, CS = bs.map fun z : Nat => Value.int .u8 (z : Int) := ⟨_, rfl⟩
  have HC := toHid hCS
  have HLC : Hid (CS.length = na) := by unfold Hid; rw [hCS, List.length_map]; exact hLa.out
  have HSRC : Hid (∀ W, Kept Nought w W → 0 < CS.length → ∃ ad, ao = some ad ∧ ∀ j u, CS[j]? = some u → W.cell? (ad.add j) = some u) := by rw [hCS]; exact fun W k hp => row_src HX.out k hp
  have HO1 : Hid (∀ u ∈ CS, u.oneCell' = true) := by rw [hCS]; exact ones8 _ _
  have hna : na ≤ n := by have := hLa.out; omega
  have HL := toHid hl
  clear h hCS hl
  go_enter Tryd.func69, Tryd.ntmps69
  go_wp2_with (at_make; refine wpList_make_full _ rfl _ _ 22 rfl w.heap.size 5 i0 _ 1 Tryd.underlying22 hi0 hz0 hz1 _ _ _ _ n rfl rfl rfl rfl (by rw [hz2]; omega) (by unfold maxLen; omega) (Nat.le_refl _) ?_; intro w1 ho1 hg1; rw [zeros_map] at ho1; have k1 := grown_kept hg1; obtain ⟨w2, hrun, hb2, k2⟩ := run_copy_part (P := Tryd.prog) 22 22 3 5 w.heap.size 0 n n (some ⟨w.heap.size, 0, none⟩) ao na ca _ 5 CS Tryd.underlying22 (by rw [hi0]; simp [hz1]) (own_block ho1) (by rw [HLC.out]; exact (Nat.min_eq_left hna).symm) (fun hp => ⟨rfl, HSRC.out _ k1 hp⟩) (by have := HLC.out; simp; omega) HO1.out; have HB2 : Hid _ := hb2; have HK2 := toHid (kept_new k1 k2 (Nat.le_refl _)); clear hb2 ho1 hg1 k1 k2)
  have hA := HB2.out
  rw [HC.out, splice_fill] at hA
  go_ret
  exact ⟨_, rfl, OwnB.of (own_of_block hA (by have := HL.out; simp; omega) (by unfold maxLen; omega) (Nat.le_refl _)), HK2.out⟩

end Go.Proofs.YtnhkfdbeacmepaaDoor


/- Melted of: Ext Words. -/

/- What the library's Add64, Sub64 and Mul64 answer at this translation, for any words; condition: the carry or borrow that comes in is at most 1. -/
namespace Go.Proofs.YtnhkfdbeacmepaaDoor
open Go.RowKit

/-- 1, if x is below y, else 0. -/
def bor (x y : Int) : Int := if x < y then 1 else 0

/-- The call of Sub64. -/
theorem sub64 (x y c : Int) (hx : 0 ≤ x) (hy : 0 ≤ y) (hy1 : y < 18446744073709551616) (hc0 : 0 ≤ c) (hc : c ≤ 1) (w : World) :
    (callFunc 86 #[.int .u64 x, .int .u64 y, .int .u64 c]).run Tryd.prog w =
      .ok (.value (.tuple #[.int .u64 ((x - y - c) % 18446744073709551616), .int .u64 (bor x (y + c))])) w := by
  obtain ⟨X, rfl⟩ := Int.eq_ofNat_of_zero_le hx
  obtain ⟨Y, rfl⟩ := Int.eq_ofNat_of_zero_le hy
  obtain ⟨C, rfl⟩ := Int.eq_ofNat_of_zero_le hc0
  rw [run_callFunc_extern Tryd.func86 (by kernel_rfl) (by kernel_rfl) (by kernel_rfl) (e := sub64Entry) (by kernel_rfl), run_sub64 X Y C (by omega)]
  simp only [Result.andThen]
  have e1 : (((X + 18446744073709551616 - Y - C) % 18446744073709551616 : Nat) : Int) = ((X : Int) - Y - C) % 18446744073709551616 := by omega
  have e2 : ((if X < Y + C then 1 else 0 : Nat) : Int) = bor (X : Int) ((Y : Int) + C) := by
    unfold bor; split <;> split <;> omega
  rw [e1, e2]

theorem sub64_0 (x y : Int) (hx : 0 ≤ x) (hy : 0 ≤ y) (hy1 : y < 18446744073709551616) (w : World) :
    (callFunc 86 #[.int .u64 x, .int .u64 y, .int .u64 0]).run Tryd.prog w =
      .ok (.value (.tuple #[.int .u64 ((x - y) % 18446744073709551616), .int .u64 (bor x y)])) w := by
  have h := sub64 x y 0 hx hy hy1 (Int.le_refl 0) (by decide) w
  rw [Int.add_zero, Int.sub_zero] at h
  exact h

theorem ret_one {a c : Int} (h : a = c) : Ending.returned (.int .u64 a) = Ending.returned (.int .u64 c) := by rw [h]

end Go.Proofs.YtnhkfdbeacmepaaDoor

/- What the functions of package word answer, for any words: sums, differences, products, masks, choices, tests; no condition but that the arguments are words. -/
namespace Go.Proofs.YtnhkfdbeacmepaaDoor
open Go.RowKit

theorem and_one (x : Int) (h0 : 0 ≤ x) (h1 : x < 18446744073709551616) : bits .and .u64 x 1 = x % 2 := and_one_u64 x h0 (by omega)

/-- All ones for an odd bit, else 0. -/
def msk (x : Int) : Int := x % 2 * 18446744073709551615

/-- word.Mask. -/
theorem wMask (a : Int) (a0 : 0 ≤ a) (a1 : a < 18446744073709551616) (w : World) :
    Calls Tryd.prog 75 #[.int .u64 a] w fun e w' => e = .returned (.int .u64 (msk a)) ∧ w' = w := by
  have hb := and_one a a0 a1
  go_enter Tryd.func75, Tryd.ntmps75
  go_wp2
  go_ret
  refine ⟨ret_one ?_, rfl⟩
  unfold msk
  rw [IntKind.wrap_u64]; omega

/-- word.Less. -/
theorem wLess (a b : Int) (a0 : 0 ≤ a) (b0 : 0 ≤ b) (b1 : b < 18446744073709551616) (w : World) :
    Calls Tryd.prog 72 #[.int .u64 a, .int .u64 b] w fun e w' => e = .returned (.int .u64 (bor a b)) ∧ w' = w := by
  go_enter Tryd.func72, Tryd.ntmps72
  go_wp2_with (simp only [sub64_0 a b a0 b0 b1])
  go_ret
  exact ⟨rfl, rfl⟩

/-- a for an odd bit, else b. -/
def sel (k a b : Int) : Int := if k % 2 = 1 then a else b

theorem sel_eq (k a b : Int) (a0 : 0 ≤ a) (a1 : a < 18446744073709551616) (b0 : 0 ≤ b) (b1 : b < 18446744073709551616) :
    bits .xor .u64 b (bits .and .u64 (msk k) (bits .xor .u64 a b)) = sel k a b := by
  obtain ⟨A, rfl⟩ := Int.eq_ofNat_of_zero_le a0
  obtain ⟨B, rfl⟩ := Int.eq_ofNat_of_zero_le b0
  have hx : A ^^^ B < 2 ^ 64 := Nat.xor_lt_two_pow (by omega) (by omega)
  rw [u64_xor_nat A B (by omega) (by omega)]
  unfold sel msk
  have : k % 2 = 0 ∨ k % 2 = 1 := by omega
  rcases this with h | h
  · rw [h]
    have e := u64_and_nat 0 (A ^^^ B) (by omega) (by omega)
    rw [Nat.zero_and] at e
    have e' : bits .and .u64 (0 * 18446744073709551615) ((A ^^^ B : Nat) : Int) = ((0 : Nat) : Int) := e
    rw [e', u64_xor_nat B 0 (by omega) (by omega), Nat.xor_zero]; simp
  · rw [h]
    have e := u64_and_nat 18446744073709551615 (A ^^^ B) (by omega) (by omega)
    rw [Nat.and_comm, show (18446744073709551615 : Nat) = 2 ^ 64 - 1 from rfl, Nat.and_two_pow_sub_one_of_lt_two_pow hx] at e
    have e' : bits .and .u64 (1 * 18446744073709551615) ((A ^^^ B : Nat) : Int) = ((A ^^^ B : Nat) : Int) := e
    rw [e', u64_xor_nat B (A ^^^ B) (by omega) (by omega), Nat.xor_comm A B, ← Nat.xor_assoc, Nat.xor_self, Nat.zero_xor]; simp

/-- word.Select. -/
theorem wSelect (k a b : Int) (k0 : 0 ≤ k) (k1 : k < 18446744073709551616) (a0 : 0 ≤ a) (a1 : a < 18446744073709551616) (b0 : 0 ≤ b) (b1 : b < 18446744073709551616) (w : World) :
    Calls Tryd.prog 74 #[.int .u64 k, .int .u64 a, .int .u64 b] w fun e w' => e = .returned (.int .u64 (sel k a b)) ∧ w' = w := by
  have hs := sel_eq k a b a0 a1 b0 b1
  go_enter Tryd.func74, Tryd.ntmps74
  go_wp2_with (go_at_call 75; refine (wMask k k0 k1 _).mono ?_; rintro e w' ⟨rfl, rfl⟩)
  go_ret
  exact ⟨rfl, rfl⟩

/-- 1, if a is 0, else 0. -/
def zer (a : Int) : Int := if a = 0 then 1 else 0

theorem zer_eq (a : Int) (a0 : 0 ≤ a) (a1 : a < 18446744073709551616) :
    bits .xor .u64 (bits .or .u64 a (IntKind.u64.wrap (-a)) / 9223372036854775808) 1 = zer a := by
  obtain ⟨A, rfl⟩ := Int.eq_ofNat_of_zero_le a0
  unfold zer
  by_cases h : A = 0
  · subst h; decide +kernel
  · have e : IntKind.u64.wrap (-(A : Int)) = ((18446744073709551616 - A : Nat) : Int) := by rw [IntKind.wrap_u64]; omega
    rw [e, u64_or_nat A _ (by omega) (by omega)]
    have hl : A ≤ A ||| (18446744073709551616 - A) := Nat.left_le_or
    have hr : 18446744073709551616 - A ≤ A ||| (18446744073709551616 - A) := Nat.right_le_or
    have hu : A ||| (18446744073709551616 - A) < 2 ^ 64 := Nat.or_lt_two_pow (by omega) (by omega)
    generalize A ||| (18446744073709551616 - A) = B at *
    have hq : (B : Int) / 9223372036854775808 = 1 := by omega
    rw [hq, if_neg (by omega)]; decide +kernel

/-- word.Zero. -/
theorem wZero (a : Int) (a0 : 0 ≤ a) (a1 : a < 18446744073709551616) (w : World) :
    Calls Tryd.prog 70 #[.int .u64 a] w fun e w' => e = .returned (.int .u64 (zer a)) ∧ w' = w := by
  have hz := zer_eq a a0 a1
  go_enter Tryd.func70, Tryd.ntmps70
  go_wp2
  go_ret
  exact ⟨rfl, rfl⟩

/-- 1, if a and b are alike, else 0. -/
def eqw (a b : Int) : Int := if a = b then 1 else 0

theorem zer_xor (a b : Int) (a0 : 0 ≤ a) (a1 : a < 18446744073709551616) (b0 : 0 ≤ b) (b1 : b < 18446744073709551616) :
    0 ≤ bits .xor .u64 a b ∧ bits .xor .u64 a b < 18446744073709551616 ∧ zer (bits .xor .u64 a b) = eqw a b := by
  obtain ⟨A, rfl⟩ := Int.eq_ofNat_of_zero_le a0
  obtain ⟨B, rfl⟩ := Int.eq_ofNat_of_zero_le b0
  have hx : A ^^^ B < 2 ^ 64 := Nat.xor_lt_two_pow (by omega) (by omega)
  rw [u64_xor_nat A B (by omega) (by omega)]
  refine ⟨by omega, by omega, ?_⟩
  unfold zer eqw
  by_cases h : A = B
  · subst h; simp
  · have : A ^^^ B ≠ 0 := fun e => h (by
      have e2 : A ^^^ (A ^^^ B) = A ^^^ 0 := by rw [e]
      rw [← Nat.xor_assoc, Nat.xor_self, Nat.zero_xor, Nat.xor_zero] at e2
      exact e2.symm)
    rw [if_neg (by omega), if_neg (by omega)]

/-- word.Equal. -/
theorem wEqual (a b : Int) (a0 : 0 ≤ a) (a1 : a < 18446744073709551616) (b0 : 0 ≤ b) (b1 : b < 18446744073709551616) (w : World) :
    Calls Tryd.prog 73 #[.int .u64 a, .int .u64 b] w fun e w' => e = .returned (.int .u64 (eqw a b)) ∧ w' = w := by
  obtain ⟨x0, x1, hx⟩ := zer_xor a b a0 a1 b0 b1
  go_enter Tryd.func73, Tryd.ntmps73
  go_wp2_with (go_at_call 70; refine (wZero _ x0 x1 _).mono ?_; rintro e w' ⟨rfl, rfl⟩)
  go_ret
  exact ⟨rfl, rfl⟩
end Go.Proofs.YtnhkfdbeacmepaaDoor

