/- The plain numbers of any length: what they are; Small, Of, Nat, Least, Cmp. -/
import Derived.Test.YtnjmckfkfkalgabNumRow
import Derived.Laws.BitsAllLaws
namespace Go.Proofs.Ytnjmckfkfkalgab
open Go.RowKit

/-- No nought at the top. -/
def Trimmed (ds : List Nat) : Prop := ds.length = 0 ∨ ds.getD (ds.length - 1) 0 ≠ 0

/-- The slice v is the number V: digits of 32 bits, the lowest ahead, none of them 0 at the top. -/
def IsBig (w : World) (v : Value) (V : Nat) : Prop :=
  ∃ ds, Row .u32 w v ds ∧ Digs 4294967296 ds ∧ Trimmed ds ∧ val 4294967296 ds = V ∧ ds.length ≤ 1000000000

theorem IsBig.kept {S : Nat → Prop} {w w' : World} {v : Value} {V : Nat} (h : IsBig w v V) (hk : Kept S w w') (hs : ∀ b, v.ownBlock = some b → ¬ S b) : IsBig w' v V := by
  obtain ⟨ds, h1, h2⟩ := h
  exact ⟨ds, h1.kept hk hs, h2⟩

theorem IsBig.grew {w w' : World} {v : Value} {V : Nat} (h : IsBig w v V) (hk : Kept Nought w w') : IsBig w' v V := h.kept hk (fun _ _ f => f)

theorem IsBig.nil (w : World) : IsBig w (.slice none 0 0) 0 := ⟨[], Row.nil _ _, Digs.nil _, .inl rfl, rfl, by simp⟩

theorem val_le_of_top {B : Nat} {ds : List Nat} (ht : Trimmed ds) (hn : 0 < ds.length) : B ^ (ds.length - 1) ≤ val B ds := by
  rcases ht with h | h
  · omega
  · have e := val_take_drop B ds (ds.length - 1) (by omega)
    have hd : ds.drop (ds.length - 1) = [ds.getD (ds.length - 1) 0] := by
      rw [List.drop_eq_getElem_cons (by omega), List.drop_of_length_le (by omega), List.getD_eq_getElem?_getD, List.getElem?_eq_getElem (by omega)]
      rfl
    rw [hd] at e
    simp only [val, Nat.mul_zero, Nat.add_zero] at e
    have : B ^ (ds.length - 1) * 1 ≤ B ^ (ds.length - 1) * ds.getD (ds.length - 1) 0 := Nat.mul_le_mul_left _ (by omega)
    omega

/-- How long a number is. -/
theorem len_le_iff {B : Nat} (hB : 1 < B) {ds : List Nat} (hd : Digs B ds) (ht : Trimmed ds) (n : Nat) : ds.length ≤ n ↔ val B ds < B ^ n := by
  constructor
  · intro h
    exact Nat.lt_of_lt_of_le (val_lt (by omega) hd) (Nat.pow_le_pow_right (by omega) h)
  · intro h
    rcases Nat.lt_or_ge n ds.length with hn | hn
    · have h1 := val_le_of_top (B := B) ht (by omega)
      have h2 : B ^ n ≤ B ^ (ds.length - 1) := Nat.pow_le_pow_right (by omega) (by omega)
      omega
    · exact hn

/-- How many digits a number has. -/
def dlen (V : Nat) : Nat := if V = 0 then 0 else Nat.log2 V / 32 + 1

theorem dlen_le (V n : Nat) : dlen V ≤ n ↔ V < 4294967296 ^ n := by
  unfold dlen
  have e : (4294967296 : Nat) ^ n = 2 ^ (32 * n) := by rw [Nat.pow_mul]
  rw [e]
  by_cases h : V = 0
  · subst h; simp [Nat.pow_pos]
  · rw [if_neg h]
    have := Nat.log2_lt (n := V) (k := 32 * n) h
    omega

theorem len_dlen {ds : List Nat} (hd : Digs 4294967296 ds) (ht : Trimmed ds) : ds.length = dlen (val 4294967296 ds) := by
  have h1 := (dlen_le _ _).2 ((len_le_iff (by omega) hd ht ds.length).1 (Nat.le_refl _))
  have h2 := (len_le_iff (by omega) hd ht (dlen (val 4294967296 ds))).2 ((dlen_le _ _).1 (Nat.le_refl _))
  omega

theorem dlen_mono {a b : Nat} (h : a ≤ b) : dlen a ≤ dlen b := (dlen_le _ _).2 (Nat.lt_of_le_of_lt h ((dlen_le _ _).1 (Nat.le_refl _)))

theorem take_trim {B : Nat} {zs : List Nat} {m : Nat} (hm : m ≤ zs.length) (hz : ∀ i, m ≤ i → zs.getD i 0 = 0) : val B (zs.take m) = val B zs := by
  rw [val_take_drop B zs m hm, val_zeros B (l := zs.drop m), Nat.mul_zero, Nat.add_zero]
  intro d hd
  obtain ⟨i, hi, rfl⟩ := List.getElem_of_mem hd
  have := hz (m + i) (by omega)
  rw [List.getD_eq_getElem?_getD, List.getElem?_eq_getElem (by simp at hi; omega)] at this
  simpa using this

theorem trimmed_take {zs : List Nat} {m : Nat} (hm : m ≤ zs.length) (ht : m = 0 ∨ zs.getD (m - 1) 0 ≠ 0) : Trimmed (zs.take m) := by
  have hl : (zs.take m).length = m := by rw [List.length_take]; omega
  rcases ht with h | h
  · left; omega
  · by_cases h0 : m = 0
    · left; omega
    · right
      rw [hl, List.getD_eq_getElem?_getD, List.getElem?_take, if_pos (by omega), ← List.getD_eq_getElem?_getD]
      exact h

/-- A row of the call's own, of numbers. -/
abbrev OwnN (k : IntKind) (e : TypeId) (w : World) (base : Nat) (v : Value) (n : Nat) (zs : List Nat) : Prop := w.ownsRow base e 1 v n (zs.map fun z => .int k (z : Nat))

/-- A number in a row of the call's own. -/
def OwnBig (w : World) (base : Nat) (v : Value) (V : Nat) : Prop :=
  ∃ ds, OwnN .u32 71 w base v ds.length ds ∧ Digs 4294967296 ds ∧ Trimmed ds ∧ val 4294967296 ds = V ∧ ds.length ≤ 1000000000

theorem OwnBig.big {w : World} {base : Nat} {v : Value} {V : Nat} (h : OwnBig w base v V) : IsBig w v V := by
  obtain ⟨ds, ho, hd, ht, hv, hl⟩ := h
  exact ⟨ds, Row.of_own ho, hd, ht, hv, hl⟩

theorem own_cut {k : IntKind} {e : TypeId} {w : World} {base n m cap : Nat} {ao : Option Addr} {zs : List Nat} (h : OwnN k e w base (.slice ao n cap) n zs) (hm : m ≤ n) : OwnN k e w base (.slice ao m cap) m (zs.take m) := by
  have hl : zs.length = n := by simpa using h.1
  refine ⟨by simp; omega, ?_⟩
  rcases h.2 with ⟨h', h0⟩ | ⟨g, cap', cur, h', hb, hg, hnc, hcm, hcs, htake⟩
  · simp only [Value.slice.injEq] at h'
    obtain ⟨rfl, rfl, rfl⟩ := h'
    have : m = 0 := by omega
    subst this
    exact .inl ⟨rfl, rfl⟩
  · simp only [Value.slice.injEq] at h'
    obtain ⟨rfl, _, rfl⟩ := h'
    refine .inr ⟨g, cap, cur, rfl, hb, hg, by omega, hcm, hcs, ?_⟩
    rw [List.map_take, ← htake, List.take_take, Nat.mul_one, Nat.mul_one, Nat.min_eq_left hm]

theorem new2 (w : World) (x y : Value) (e : TypeId) : (w.alloc (.cells #[x, y] e)).ownsRow w.heap.size e 1 (.slice (some ⟨w.heap.size, 0, none⟩) 2 2) 2 [x, y] :=
  World.ownsRow_lit w #[x, y] 2 (Nat.le_refl _) (by unfold maxLen; omega) rfl

/-- Words as digits of half their length. -/
def halves : List Nat → List Nat
  | [] => []
  | x :: r => x % 4294967296 :: x / 4294967296 :: halves r

theorem halves_val : ∀ l, val 4294967296 (halves l) = val 18446744073709551616 l
  | [] => rfl
  | x :: r => by simp only [halves, val, halves_val r]; omega

theorem halves_length : ∀ l, (halves l).length = l.length * 2
  | [] => rfl
  | x :: r => by simp [halves, halves_length r]; omega

theorem halves_append : ∀ l m, halves (l ++ m) = halves l ++ halves m
  | [], m => rfl
  | x :: r, m => by simp [halves, halves_append r m]

theorem halves_digs : ∀ {l}, Digs 18446744073709551616 l → Digs 4294967296 (halves l)
  | [], _ => Digs.nil _
  | x :: r, h => fun d hd => by
    have h1 := h.head
    simp only [halves, List.mem_cons] at hd
    rcases hd with hd | hd | hd
    · omega
    · omega
    · exact halves_digs h.tail d hd

theorem halves_take_succ {l : List Nat} {k : Nat} (h : k < l.length) : halves (l.take (k + 1)) = halves (l.take k) ++ [l.getD k 0 % 4294967296, l.getD k 0 / 4294967296] := by
  rw [List.take_succ_eq_append_getElem h, halves_append, List.getD_eq_getElem?_getD, List.getElem?_eq_getElem h]
  rfl

theorem Try.info71 : (Try.prog.info? 71).map (fun i => (i.zero, i.size, i.bytes)) = some (some (.int .u32 0), 1, 4) := by kernel_rfl

theorem new2_cells (w : World) (x y : Value) (e : TypeId) : ∀ j u, [x, y][j]? = some u → (w.alloc (.cells #[x, y] e)).cell? ((⟨w.heap.size, 0, none⟩ : Addr).add j) = some u :=
  World.news_of_block (cs := #[x, y]) (t := e) (fr := (0, 0)) (Go.heap_alloc_new w _)

end Go.Proofs.Ytnjmckfkfkalgab
