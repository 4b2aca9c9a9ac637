/- A number's text, word by word; a strings.Builder of the call's own. -/
import Derived.Test.YtcdpmiheeenmmaaDoorNatM
import Derived.Shelf.Strings.Repeat
namespace Go.Proofs.YtcdpmiheeenmmaaDoor
open Go.RowKit Go.Shelf

theorem hexW_length (y : Nat) : (hexW y).length = max ((blen y + 3) / 4) 1 := hexTop_length _ _ _

theorem hexW_le {y : Nat} (h : y < 18446744073709551616) : (hexW y).length ≤ 16 := by
  rw [hexW_length]
  have := (blen_le y 64).2 h
  omega

theorem hexW_pos (y : Nat) : 1 ≤ (hexW y).length := by rw [hexW_length]; omega

/-- Filled up to sixteen signs. -/
theorem hexW_pad {y : Nat} (h : y < 18446744073709551616) : List.replicate (16 - (hexW y).length) 48 ++ hexW y = hexTop y 16 16 := by
  have hl := hexW_le h
  have hm := hexW_length y
  apply List.ext_getElem?
  intro i
  by_cases hi : i < 16
  · rw [hexTop_get _ _ _ _ hi]
    by_cases h1 : i < 16 - (hexW y).length
    · rw [List.getElem?_append_left (by simpa using h1), List.getElem?_replicate, if_pos h1]
      have : dig 16 y (16 - 1 - i) = 0 := by
        unfold dig
        rw [Nat.div_eq_of_lt, Nat.zero_mod]
        have h2 : blen y ≤ 4 * (hexW y).length := by omega
        have h3 := (blen_le y _).1 h2
        rw [show (2 : Nat) ^ (4 * (hexW y).length) = 16 ^ (hexW y).length by rw [Nat.pow_mul]] at h3
        exact Nat.lt_of_lt_of_le h3 (Nat.pow_le_pow_right (by omega) (by omega))
      rw [this]; rfl
    · rw [List.getElem?_append_right (by simpa using h1), List.length_replicate]
      have hb := hexTop_get y (max ((blen y + 3) / 4) 1) (max ((blen y + 3) / 4) 1) (i - (16 - (hexW y).length)) (by omega)
      unfold hexW at *
      rw [hb]
      congr 3
      omega
  · rw [List.getElem?_eq_none (by simp; omega), List.getElem?_eq_none (by rw [hexTop_length]; omega)]

/-- Sign s of word i. -/
theorem dig_hex (V i s : Nat) (h : s < 16) : dig 16 (dig 18446744073709551616 V i) s = dig 16 V (16 * i + s) := by
  unfold dig
  have e1 : (18446744073709551616 : Nat) ^ i = 16 ^ (16 * i) := by rw [Nat.pow_mul]
  rw [e1, show (18446744073709551616 : Nat) = 16 ^ s * 16 ^ (16 - s) by rw [← Nat.pow_add, show s + (16 - s) = 16 by omega], Nat.mod_mul_right_div_self, Nat.div_div_eq_div_mul, ← Nat.pow_add, Nat.mod_mod_of_dvd]
  exact ⟨16 ^ (15 - s), by rw [show 16 - s = (15 - s) + 1 by omega, Nat.pow_succ, Nat.mul_comm]⟩

/-- What one word adds to the text of L words. -/
def piece (g : Nat → Nat) (L j : Nat) : List UInt8 := if j + 1 < L then List.replicate (16 - (hexW (g j)).length) 48 ++ hexW (g j) else hexW (g j)

theorem hexTop_more (V N a j : Nat) (ha : a + 16 * (j + 1) = N) : hexTop V N a ++ hexTop (dig 18446744073709551616 V j) 16 16 = hexTop V N (a + 16) := by
  apply List.ext_getElem?
  intro i
  by_cases h1 : i < a
  · rw [List.getElem?_append_left (by rw [hexTop_length]; exact h1), hexTop_get _ _ _ _ h1, hexTop_get _ _ _ _ (by omega)]
  · rw [List.getElem?_append_right (by rw [hexTop_length]; omega), hexTop_length]
    by_cases h2 : i < a + 16
    · rw [hexTop_get _ _ _ _ (by omega), hexTop_get _ _ _ _ h2, dig_hex _ _ _ (by omega)]
      congr 3
      omega
    · rw [List.getElem?_eq_none (by rw [hexTop_length]; omega), List.getElem?_eq_none (by rw [hexTop_length]; omega)]

theorem hexTop_first (V N m j : Nat) (hN : m + 16 * j = N) (hm : m ≤ 16) : hexTop (dig 18446744073709551616 V j) m m = hexTop V N m := by
  apply List.ext_getElem?
  intro i
  by_cases h1 : i < m
  · rw [hexTop_get _ _ _ _ h1, hexTop_get _ _ _ _ h1, dig_hex _ _ _ (by omega)]
    congr 3
    omega
  · rw [List.getElem?_eq_none (by rw [hexTop_length]; omega), List.getElem?_eq_none (by rw [hexTop_length]; omega)]

/-- The words' signs, one behind the other: the number's. -/
theorem pieces {V L : Nat} {g : Nat → Nat} (hg : ∀ j, dig 18446744073709551616 V j = g j) (hL : wordsN V = L) (h0 : 0 < L) :
    ((downIdx L 0).map (piece g L)).flatten = hexTop V ((blen V + 3) / 4) ((blen V + 3) / 4) := by
  have hb : blen V = 64 * (L - 1) + blen (g (L - 1)) ∧ 0 < blen (g (L - 1)) ∧ g (L - 1) < 18446744073709551616 := by
    have hd := digs_digs (B := 18446744073709551616) (by omega) V L
    have hv : val 18446744073709551616 (digs 18446744073709551616 V L) = V := by rw [val_digs]; exact Nat.mod_eq_of_lt ((wordsN_le V L).1 (by omega))
    have hlast : (digs 18446744073709551616 V L).getD (L - 1) 0 = g (L - 1) := by rw [digs_getD _ _ _ _ (by omega), hg]
    have htop : g (L - 1) ≠ 0 := by
      intro h
      have : wordsN V ≤ L - 1 := by
        rw [wordsN_le]
        have e := val_take_drop 18446744073709551616 (digs 18446744073709551616 V L) (L - 1) (by rw [digs_length]; omega)
        have hdr : (digs 18446744073709551616 V L).drop (L - 1) = [0] := by
          rw [List.drop_eq_getElem_cons (by rw [digs_length]; omega), List.drop_eq_nil_of_le (by rw [digs_length]; omega)]
          rw [List.getD_eq_getElem?_getD, List.getElem?_eq_getElem (by rw [digs_length]; omega), Option.getD_some] at hlast
          rw [hlast, h]
        rw [hdr, hv] at e
        have h2 := val_lt (by omega) (hd.take (L - 1))
        rw [List.length_take, digs_length, Nat.min_eq_left (by omega)] at h2
        simp only [val, Nat.mul_zero, Nat.add_zero] at e
        omega
      omega
    have hbt := blen_top hd (.inr (by rw [digs_length, hlast]; exact htop)) (by rw [digs_length]; exact h0)
    rw [hv, digs_length, hlast] at hbt
    refine ⟨hbt, ?_, ?_⟩
    · rcases Nat.eq_zero_or_pos (blen (g (L - 1))) with z | z
      · have := (blen_le (g (L - 1)) 0).1 (by omega); omega
      · exact z
    · rw [← hg]; exact Nat.mod_lt _ (by omega)
  obtain ⟨hb1, hb2, hb3⟩ := hb
  have hm := hexW_le hb3
  have hml := hexW_length (g (L - 1))
  have hN : (hexW (g (L - 1))).length + 16 * (L - 1) = (blen V + 3) / 4 := by omega
  generalize (blen V + 3) / 4 = N at *
  have key : ∀ s, s < L → ((downIdx L (L - 1 - s)).map (piece g L)).flatten = hexTop V N (N - 16 * (L - 1 - s)) := by
    intro s
    induction s with
    | zero =>
      intro _
      have e : downIdx L (L - 1) = [L - 1] := by
        rw [downIdx_step (show L - 1 < L by omega), show L - 1 + 1 = L by omega, downIdx_all]; rfl
      rw [Nat.sub_zero, e, List.map_singleton, List.flatten_singleton, piece, if_neg (by omega), show N - 16 * (L - 1) = (hexW (g (L - 1))).length by omega, hml]
      rw [← hexTop_first V N _ (L - 1) (by rw [← hml]; exact hN) (by omega), hg]
      rfl
    | succ s ih =>
      intro hs
      have e := downIdx_step (L := L) (j := L - 1 - (s + 1)) (by omega)
      rw [show L - 1 - (s + 1) + 1 = L - 1 - s by omega] at e
      rw [e, List.map_append, List.flatten_append, ih (by omega), List.map_singleton, List.flatten_singleton, piece, if_pos (by omega), hexW_pad (by rw [← hg]; exact Nat.mod_lt _ (by omega)), ← hg]
      rw [hexTop_more V N (N - 16 * (L - 1 - s)) (L - 1 - (s + 1)) (by omega)]
      congr 1
      omega
  have := key (L - 1) (by omega)
  rw [Nat.sub_self] at this
  simpa using this

theorem piece_le {g : Nat → Nat} {L j : Nat} (h : g j < 18446744073709551616) : (piece g L j).length ≤ 16 := by
  have := hexW_le h
  unfold piece
  split
  · simp; omega
  · exact this

theorem pieces_le {g : Nat → Nat} {L : Nat} (h : ∀ j, g j < 18446744073709551616) : ∀ pre : List (Fin L), ((pre.map fun x => piece g L x.val).flatten).length ≤ 16 * pre.length
  | [] => by simp
  | x :: pre => by
    have h1 := pieces_le h pre
    have h2 := piece_le (g := g) (L := L) (h x.val)
    rw [List.map_cons, List.flatten_cons, List.length_append, List.length_cons]
    omega

/-- A strings.Builder of the call's own that holds the signs l. -/
def Bld (B b : Nat) (l : List UInt8) (w : World) : Prop := Lib.IsBuilderF 89 5 B b (Lib.byteCells l) w

theorem Bld.same {B b : Nat} {l : List UInt8} {w w' : World} (h : Bld B b l w) (hs : ∀ (k : Nat) (c : Array Value) (t : TypeId) (f : Nat × Nat), w.heap[k]? = some (Obj.cells c t f) → w'.heap[k]? = some (Obj.cells c t f)) : Bld B b l w' := by
  have key : ∀ p, Lib.BuilderAtF 89 5 B b p (Lib.byteCells l) w → Lib.BuilderAtF 89 5 B b p (Lib.byteCells l) w' := by
    rintro p ⟨hB, v, hb, hown, hne⟩
    refine ⟨hB, v, hs _ _ _ _ hb, ⟨hown.1, ?_⟩, hne⟩
    rcases hown.2 with h1 | ⟨g, cap, cur, fz, e1, hbg, hblk, h4⟩
    · exact .inl h1
    · exact .inr ⟨g, cap, cur, fz, e1, hbg, hs _ _ _ _ hblk, h4⟩
  rcases h with h | h
  · exact .inl (key _ h)
  · exact .inr (key _ h)

theorem Bld.grew {B b : Nat} {l : List UInt8} {w w' : World} (h : Bld B b l w) (hk : Kept Nought w w') : Bld B b l w' := h.same fun k _ _ _ hc => (hk.block k (Array.getElem?_eq_some_iff.1 hc).1 (fun f => f)).trans hc

theorem Bld.turn {B b : Nat} {l : List UInt8} {w w' : World} {row : Option Nat} (h : Bld B b l w) (hg : w.grownBy w' row) (hr : ∀ r, row = some r → ∃ o : Obj, w.heap[r]? = some o ∧ o.isCells = false) : Bld B b l w' := h.same fun k _ _ _ hc => by
  rw [hg.block k (Array.getElem?_eq_some_iff.1 hc).1 ?_]
  · exact hc
  · intro e
    obtain ⟨o, ho, hcc⟩ := hr k e.symm
    rw [hc] at ho
    cases ho
    cases hcc

theorem nWrite (B b : Nat) (l : List UInt8) (s : ByteArray) (w : World) (h : Bld B b l w) (hl : l.length + s.size ≤ 140737488355328) (hB : B ≤ w.heap.size) :
    Calls Tryd.prog 53 #[.pointer (some ⟨b, 0, none⟩), .string s] w fun e w' => e = .returned (.tuple #[.int .i64 (s.size : Nat), .nilIface]) ∧ Bld B b (l ++ s.data.toList) w' ∧ Below B w w' ∧ Lib.OthersKept 5 (some b) w w' := by
  refine (Any.Builder_WriteString_k l166 lBld B b (Lib.byteCells l) s w h (by rw [Lib.byteCells_length]; exact hl) hB).mono ?_
  rintro e w' ⟨rfl, h1, h2, h3⟩
  refine ⟨rfl, .inr ?_, h2, h3⟩
  have : Lib.byteCells (l ++ s.data.toList) = Lib.byteCells l ++ Lib.strCells s := by simp [Lib.byteCells, Lib.strCells]
  rw [this]
  exact h1

end Go.Proofs.YtcdpmiheeenmmaaDoor
