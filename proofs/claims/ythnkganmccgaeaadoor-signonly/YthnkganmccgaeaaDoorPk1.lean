/- Put together of: Base1 OpenRow Sha1 Arr0. -/
import Derived.Test.YthnkganmccgaeaaDoorRows
import Derived.WalkKit
import Derived.WalkSpells
import Derived.WalkLawsBesides
import Derived.OwnWalk
import Derived.OneCell
import Derived.Deep.AppendLies
import Derived.Deep.Draws
import Derived.Lib.MinMax
import Derived.Deep.QuietTactic
import Derived.BigQuiet
import Derived.Laws.BitsAllLaws
import Derived.Laws.CopyOwn
import Derived.Laws.IdiomCopy
import Derived.OpenShut

/- Melted of: Kept Nums NumRow Bigs BigNat Copies. -/

/- What a call leaves of the memory that was there. -/
namespace Go.Proofs.YthnkganmccgaeaaDoor
open Go.RowKit

/-- But for the blocks of S, and new ones, the world w' is as w was. -/
structure Kept (S : Nat → Prop) (w w' : World) : Prop where
  os : w'.os = w.os
  tape : w'.tape = w.tape
  output : w'.output = w.output
  size : w.heap.size ≤ w'.heap.size
  block : ∀ k, k < w.heap.size → ¬ S k → w'.heap[k]? = w.heap[k]?

def Nought : Nat → Prop := fun _ => False

theorem Kept.refl (S : Nat → Prop) (w : World) : Kept S w w := ⟨rfl, rfl, rfl, Nat.le_refl _, fun _ _ _ => rfl⟩

theorem Kept.trans {S : Nat → Prop} {a b c : World} (h : Kept S a b) (k : Kept S b c) : Kept S a c :=
  ⟨k.os.trans h.os, k.tape.trans h.tape, k.output.trans h.output, Nat.le_trans h.size k.size, fun i hi hs => (k.block i (Nat.lt_of_lt_of_le hi h.size) hs).trans (h.block i hi hs)⟩

theorem Kept.next {S T : Nat → Prop} {a b c : World} (h : Kept S a b) (k : Kept T b c) (ht : ∀ x, x < a.heap.size → T x → S x) : Kept S a c :=
  ⟨k.os.trans h.os, k.tape.trans h.tape, k.output.trans h.output, Nat.le_trans h.size k.size, fun i hi hs => (k.block i (Nat.lt_of_lt_of_le hi h.size) (fun t => hs (ht i hi t))).trans (h.block i hi hs)⟩

theorem Kept.mono {S T : Nat → Prop} {w w' : World} (h : Kept S w w') (hs : ∀ k, k < w.heap.size → S k → T k) : Kept T w w' :=
  ⟨h.os, h.tape, h.output, h.size, fun k hk hn => h.block k hk fun s => hn (hs k hk s)⟩

theorem Kept.any {S : Nat → Prop} {w w' : World} (h : Kept Nought w w') : Kept S w w' := h.mono fun _ _ f => f.elim

theorem Kept.drew {S : Nat → Prop} {a w : World} (h : Kept S a w) : Kept S a w.drew := ⟨h.os, h.tape, h.output, h.size, h.block⟩

theorem Kept.drewN {S : Nat → Prop} {a w : World} (h : Kept S a w) (n : Nat) : Kept S a (w.drewN n) := ⟨h.os, h.tape, h.output, h.size, h.block⟩

theorem Kept.alloc {S : Nat → Prop} {a w : World} (h : Kept S a w) (o : Obj) : Kept S a (w.alloc o) :=
  h.trans ⟨rfl, rfl, rfl, by simp, fun k hk _ => Below.heap_alloc _ _ _ hk⟩

theorem Kept.grown {S : Nat → Prop} {a w w' : World} {row : Option Nat} (h : Kept S a w) (hg : w.grownBy w' row) (hr : ∀ k, row = some k → k < a.heap.size → S k) : Kept S a w' :=
  ⟨hg.os.trans h.os, hg.tape.trans h.tape, hg.output.trans h.output, Nat.le_trans h.size hg.size, fun k hk hn =>
    (hg.block k (Nat.lt_of_lt_of_le hk h.size) (fun e => hn (hr k e.symm hk))).trans (h.block k hk hn)⟩

theorem Kept.setCell {S : Nat → Prop} {a w : World} (h : Kept S a w) (p : Addr) (hp : p.block < a.heap.size → S p.block) (u : Value) : Kept S a (w.setCell p u) :=
  ⟨h.os, h.tape, h.output, by have := h.size; simpa [World.setCell] using this, fun k hk hn =>
    (Below.heap_setCell _ _ _ _ (fun e => hn (by rw [e]; exact hp (by rw [← e]; exact hk)))).trans (h.block k hk hn)⟩

theorem Kept.below {S : Nat → Prop} {w w' : World} {B : Nat} (h : Kept S w w') (hB : B ≤ w.heap.size) (hs : ∀ k, S k → B ≤ k) : Below B w w' :=
  ⟨h.os, h.tape, h.output, h.size, fun k hk => h.block k (by omega) (fun s => by have := hs k s; omega)⟩

theorem Kept.own {S : Nat → Prop} {w w' : World} {base size n : Nat} {e : TypeId} {v : Value} {xs : List Value} (h : Kept S w w') (ho : w.ownsRow base e size v n xs) (hs : ∀ k, v.ownBlock = some k → ¬ S k) : w'.ownsRow base e size v n xs := by
  refine ⟨ho.1, ?_⟩
  rcases ho.2 with hn | ⟨g, cap, cur, rfl, hb, hgg, rest⟩
  · exact .inl hn
  · refine .inr ⟨g, cap, cur, rfl, hb, ?_, rest⟩
    rw [h.block g (Array.getElem?_eq_some_iff.1 hgg).1 (hs g rfl)]
    exact hgg

theorem own_base {w : World} {base base' size n : Nat} {e : TypeId} {v : Value} {xs : List Value} (h : w.ownsRow base e size v n xs) (hb : ∀ k, v.ownBlock = some k → base' ≤ k) : w.ownsRow base' e size v n xs := by
  refine ⟨h.1, ?_⟩
  rcases h.2 with hn | ⟨g, cap, cur, rfl, _, rest⟩
  · exact .inl hn
  · exact .inr ⟨g, cap, cur, rfl, hb g rfl, rest⟩

theorem Kept.cellN {w w' : World} {a : Addr} {u : Value} (h : Kept Nought w w') (hc : w.cell? a = some u) : w'.cell? a = some u :=
  (World.cell?_of_block (h.block a.block (World.block_lt_of_cell? w _ hc) (fun f => f))).trans hc

theorem heapAt_alloc {w : World} {o X : Obj} {p : Nat} (h : w.heap[p]? = some X) : (w.alloc o).heap[p]? = some X := (Below.heap_alloc w o p (lt_of_block h)).trans h

theorem heapAt_set {w : World} {b : Nat} {a : Addr} {X : Obj} (h : w.heap[b]? = some X) (hne : b ≠ a.block) (u : Value) : (w.setCell a u).heap[b]? = some X := (Below.heap_setCell w a u b hne).trans h

theorem grown_kept {w w' : World} (h : w.grownBy w' none) : Kept Nought w w' := (Kept.refl Nought w).grown h (fun _ e => by cases e)

theorem own_slice {w : World} {base n size : Nat} {e : TypeId} {v : Value} {xs : List Value} (h : w.ownsRow base e size v n xs) : ∃ ao cap, v = .slice ao n cap := by
  rcases h.2 with ⟨rfl, rfl⟩ | ⟨g, cap, cur, rfl, _⟩
  · exact ⟨none, 0, rfl⟩
  · exact ⟨_, _, rfl⟩

end Go.Proofs.YthnkganmccgaeaaDoor

/- Numbers as lists of digits, the lowest ahead: plain mathematics, over no program. -/
namespace Go.Proofs.YthnkganmccgaeaaDoor

/-- The number of digits to the base B. -/
def val (B : Nat) : List Nat → Nat
  | [] => 0
  | d :: r => d + B * val B r

/-- All digits are below B. -/
def Digs (B : Nat) (l : List Nat) : Prop := ∀ d ∈ l, d < B

theorem Digs.nil (B : Nat) : Digs B [] := fun _ h => by cases h

theorem Digs.append {B : Nat} {l m : List Nat} (h : Digs B l) (k : Digs B m) : Digs B (l ++ m) := fun d hd => by
  rcases List.mem_append.1 hd with h1 | h1
  · exact h d h1
  · exact k d h1

theorem Digs.one {B d : Nat} (h : d < B) : Digs B [d] := fun x hx => by simp at hx; omega

theorem Digs.take {B : Nat} {l : List Nat} (h : Digs B l) (n : Nat) : Digs B (l.take n) := fun d hd => h d (List.mem_of_mem_take hd)

theorem Digs.drop {B : Nat} {l : List Nat} (h : Digs B l) (n : Nat) : Digs B (l.drop n) := fun d hd => h d (List.mem_of_mem_drop hd)

theorem Digs.tail {B x : Nat} {l : List Nat} (h : Digs B (x :: l)) : Digs B l := fun d hd => h d (by simp [hd])

theorem Digs.head {B x : Nat} {l : List Nat} (h : Digs B (x :: l)) : x < B := h x (by simp)

theorem Digs.getD {B : Nat} {l : List Nat} (h : Digs B l) (hB : 0 < B) (i : Nat) : l.getD i 0 < B := by
  rw [List.getD_eq_getElem?_getD]
  by_cases hi : i < l.length
  · rw [List.getElem?_eq_getElem hi]; exact h _ (List.getElem_mem hi)
  · rw [List.getElem?_eq_none (by omega)]; exact hB

end Go.Proofs.YthnkganmccgaeaaDoor

/- A slice of numbers, read: what its cells hold; the plain numbers' trim, digit, Words. -/
namespace Go.Proofs.YthnkganmccgaeaaDoor
open Go.RowKit

/-- The slice v holds the numbers zs, of kind k. -/
def Row (k : IntKind) (w : World) (v : Value) (zs : List Nat) : Prop :=
  ∃ ao cap, v = .slice ao zs.length cap ∧ zs.length ≤ cap ∧ cap ≤ maxLen ∧ (ao = none → cap = 0) ∧ ∀ i, i < zs.length → ∃ b off, ao = some ⟨b, off, none⟩ ∧ w.cell? ⟨b, off + i, none⟩ = some (.int k (zs.getD i 0 : Nat))

/-- Number i of a slice that lies at ao. -/
def NumAt (k : IntKind) (w : World) (ao : Option Addr) (zs : List Nat) (i : Nat) : Prop :=
  ∃ b off, ao = some ⟨b, off, none⟩ ∧ w.cell? ⟨b, off + i, none⟩ = some (.int k (zs.getD i 0 : Nat))

theorem Row.open {k : IntKind} {w : World} {v : Value} {zs : List Nat} (h : Row k w v zs) :
    ∃ ao n cap, v = .slice ao n cap ∧ Hid (zs.length = n) ∧ n ≤ cap ∧ cap ≤ 9223372036854775807 ∧ (ao = none → cap = 0) ∧ ∀ i, i < n → NumAt k w ao zs i := by
  obtain ⟨ao, cap, rfl, h1, h2, h3, h4⟩ := h
  exact ⟨ao, _, cap, rfl, rfl, h1, by unfold maxLen at h2; omega, h3, h4⟩

theorem Row.nil (k : IntKind) (w : World) : Row k w (.slice none 0 0) [] := ⟨none, 0, rfl, Nat.le_refl _, by unfold maxLen; omega, fun _ => rfl, fun i hi => absurd hi (by simp)⟩

theorem NumAt.kept {S : Nat → Prop} {k : IntKind} {w w' : World} {ao : Option Addr} {zs : List Nat} {i : Nat} (h : NumAt k w ao zs i) (hk : Kept S w w') (hs : ∀ a, ao = some a → ¬ S a.block) : NumAt k w' ao zs i := by
  obtain ⟨b, off, rfl, hc⟩ := h
  have hb : b < w.heap.size := World.block_lt_of_cell? w _ hc
  exact ⟨b, off, rfl, (World.cell?_of_block (a := ⟨b, off + i, none⟩) (hk.block b hb (hs _ rfl))).trans hc⟩

theorem NumAt.grew {k : IntKind} {w w' : World} {ao : Option Addr} {zs : List Nat} {i : Nat} (h : NumAt k w ao zs i) (hk : Kept Nought w w') : NumAt k w' ao zs i := h.kept hk (fun _ _ f => f)

theorem Row.kept {S : Nat → Prop} {k : IntKind} {w w' : World} {v : Value} {zs : List Nat} (h : Row k w v zs) (hk : Kept S w w') (hs : ∀ b, v.ownBlock = some b → ¬ S b) : Row k w' v zs := by
  obtain ⟨ao, cap, rfl, h1, h2, h3, h4⟩ := h
  exact ⟨ao, cap, rfl, h1, h2, h3, fun i hi => NumAt.kept (h4 i hi) hk (fun a ha => hs _ (by subst ha; rfl))⟩

theorem Row.grew {k : IntKind} {w w' : World} {v : Value} {zs : List Nat} (h : Row k w v zs) (hk : Kept Nought w w') : Row k w' v zs := h.kept hk (fun _ _ f => f)

/-- What the call itself has made is read so. -/
theorem Row.of_own {k : IntKind} {w : World} {base : Nat} {e : TypeId} {v : Value} {zs : List Nat} (h : w.ownsRow base e 1 v zs.length (zs.map fun z => .int k (z : Nat))) : Row k w v zs := by
  rcases h.2 with ⟨rfl, h0⟩ | ⟨g, cap, cur, rfl, _, hg, hnc, hm, _, _⟩
  · obtain rfl : zs = [] := List.eq_nil_of_length_eq_zero h0
    exact Row.nil k w
  · refine ⟨_, _, rfl, hnc, hm, (fun e => by cases e), fun i hi => ⟨g, 0, rfl, ?_⟩⟩
    rw [Nat.zero_add, World.ownsRow.cellAt h i (by omega), List.getElem?_map, List.getElem?_eq_getElem hi, List.getD_eq_getElem?_getD, List.getElem?_eq_getElem hi]
    rfl

/-- The first m of them. -/
theorem Row.cut {k : IntKind} {w : World} {ao : Option Addr} {n cap m : Nat} {zs : List Nat} (h : Row k w (.slice ao n cap) zs) (hm : m ≤ zs.length) : Row k w (.slice ao m cap) (zs.take m) := by
  obtain ⟨ao', cap', e, h1, h2, h3, h4⟩ := h
  simp only [Value.slice.injEq] at e
  obtain ⟨rfl, _, rfl⟩ := e
  have hl : (zs.take m).length = m := by rw [List.length_take]; omega
  refine ⟨ao, cap, by rw [hl], by omega, h2, h3, fun i hi => ?_⟩
  rw [hl] at hi
  obtain ⟨b, off, e, hc⟩ := h4 i (by omega)
  refine ⟨b, off, e, ?_⟩
  rw [hc, List.getD_eq_getElem?_getD, List.getD_eq_getElem?_getD, List.getElem?_take, if_pos hi]

end Go.Proofs.YthnkganmccgaeaaDoor

/- The plain numbers of any length: what they are; Small, Of, Nat, Least, Cmp. -/
namespace Go.Proofs.YthnkganmccgaeaaDoor
open Go.RowKit

/-- No nought at the top. -/
def Trimmed (ds : List Nat) : Prop := ds.length = 0 ∨ ds.getD (ds.length - 1) 0 ≠ 0

/-- The slice v is the number V: digits of 32 bits, the lowest ahead, none of them 0 at the top. -/
def IsBig (w : World) (v : Value) (V : Nat) : Prop :=
  ∃ ds, Row .u32 w v ds ∧ Digs 4294967296 ds ∧ Trimmed ds ∧ val 4294967296 ds = V ∧ ds.length ≤ 1000000000

theorem IsBig.kept {S : Nat → Prop} {w w' : World} {v : Value} {V : Nat} (h : IsBig w v V) (hk : Kept S w w') (hs : ∀ b, v.ownBlock = some b → ¬ S b) : IsBig w' v V := by
  obtain ⟨ds, h1, h2⟩ := h
  exact ⟨ds, h1.kept hk hs, h2⟩

theorem IsBig.grew {w w' : World} {v : Value} {V : Nat} (h : IsBig w v V) (hk : Kept Nought w w') : IsBig w' v V := h.kept hk (fun _ _ f => f)

theorem IsBig.nil (w : World) : IsBig w (.slice none 0 0) 0 := ⟨[], Row.nil _ _, Digs.nil _, .inl rfl, rfl, by simp⟩

/-- A row of the call's own, of numbers. -/
abbrev OwnN (k : IntKind) (e : TypeId) (w : World) (base : Nat) (v : Value) (n : Nat) (zs : List Nat) : Prop := w.ownsRow base e 1 v n (zs.map fun z => .int k (z : Nat))

theorem own_cut {k : IntKind} {e : TypeId} {w : World} {base n m cap : Nat} {ao : Option Addr} {zs : List Nat} (h : OwnN k e w base (.slice ao n cap) n zs) (hm : m ≤ n) : OwnN k e w base (.slice ao m cap) m (zs.take m) := by
  have hl : zs.length = n := by simpa using h.1
  refine ⟨by simp; omega, ?_⟩
  rcases h.2 with ⟨h', h0⟩ | ⟨g, cap', cur, h', hb, hg, hnc, hcm, hcs, htake⟩
  · simp only [Value.slice.injEq] at h'
    obtain ⟨rfl, rfl, rfl⟩ := h'
    have : m = 0 := by omega
    subst this
    exact .inl ⟨rfl, rfl⟩
  · simp only [Value.slice.injEq] at h'
    obtain ⟨rfl, _, rfl⟩ := h'
    refine .inr ⟨g, cap, cur, rfl, hb, hg, by omega, hcm, hcs, ?_⟩
    rw [List.map_take, ← htake, List.take_take, Nat.mul_one, Nat.mul_one, Nat.min_eq_left hm]

end Go.Proofs.YthnkganmccgaeaaDoor

/- The plain numbers in words: Nat, Least; how two stand to one another: Cmp. -/
namespace Go.Proofs.YthnkganmccgaeaaDoor
open Go.RowKit

theorem zeros_map (k : IntKind) (n : Nat) : (madeCells (Value.int k 0).cells (n * 1)).toList = (List.replicate n 0).map fun z : Nat => Value.int k (z : Int) := by
  rw [Nat.mul_one]
  show (madeCells #[Value.int k 0] n).toList = _
  rw [toList_madeCells_one, List.map_replicate]
  rfl

end Go.Proofs.YthnkganmccgaeaaDoor

/- Rows that are known whole; copy into them. -/
namespace Go.Proofs.YthnkganmccgaeaaDoor
open Go.RowKit

theorem below_kept {B : Nat} {w w' : World} (k : Kept Nought w w') (hB : B ≤ w.heap.size) : Below B w w' := k.below hB (fun _ f => f.elim)

theorem toHid {p : Prop} (h : p) : Hid p := h

/-- A row that is known whole, read as numbers. -/
theorem Row.of_block {k : IntKind} {w : World} {g n : Nat} {t : TypeId} {zs : List Nat} (hg : w.heap[g]? = some (.cells (zs.map fun z => Value.int k (z : Nat)).toArray t (0, 0))) (hl : zs.length = n) (hm : n ≤ maxLen) :
    Row k w (.slice (some ⟨g, 0, none⟩) n n) zs := by
  refine Row.of_own (base := 0) (e := t) ⟨by simp, .inr ⟨g, n, _, by rw [hl], Nat.zero_le _, hg, by omega, hm, by simp [hl], ?_⟩⟩
  rw [Nat.mul_one, List.take_of_length_le (by simp)]

theorem own_of_block {k : IntKind} {w : World} {g n base : Nat} {t : TypeId} {zs : List Nat} (hg : w.heap[g]? = some (.cells (zs.map fun z => Value.int k (z : Nat)).toArray t (0, 0))) (hl : zs.length = n) (hm : n ≤ maxLen) (hb : base ≤ g) :
    OwnN k t w base (.slice (some ⟨g, 0, none⟩) n n) n zs := by
  refine ⟨by simp [hl], .inr ⟨g, n, _, rfl, hb, hg, by omega, hm, by simp [hl], ?_⟩⟩
  rw [Nat.mul_one, List.take_of_length_le (by simp [hl])]

/-- A row that the call has made, whole. -/
theorem own_block {w : World} {base n : Nat} {e : TypeId} {g : Nat} {xs : List Value} (h : w.ownsRow base e 1 (.slice (some ⟨g, 0, none⟩) n n) n xs) : w.heap[g]? = some (.cells xs.toArray e (0, 0)) := by
  rcases h.2 with ⟨e1, _⟩ | ⟨g', cap, cur, e1, _, hg, _, _, hs, ht⟩
  · cases e1
  · simp only [Value.slice.injEq, Option.some.injEq, Addr.mk.injEq] at e1
    obtain ⟨⟨rfl, _⟩, _, rfl⟩ := e1
    rw [hg]
    have : cur.toList = xs := by
      rw [← ht, List.take_of_length_le]
      rw [Array.length_toList, hs]
      exact Nat.le_refl _
    rw [← this]

/-- copy into a row that is known whole: as many cells as the shorter of the two has go over. -/
theorem run_copy_part {P : Program} {w : World} (dT sT ty elem : TypeId) (g off dLen dCap : Nat) (dp ao : Option Addr) (sLen sCap : Nat) (cur : List Value) (t : TypeId) (cs : List Value) (hu : P.underlying dT = some (.slice elem)) (hsz : (P.info? elem).map (·.size) = some 1)
    (hg : w.heap[g]? = some (.cells cur.toArray t (0, 0))) (hn : cs.length = Nat.min sLen dLen) (hpos : 0 < cs.length → dp = some ⟨g, off, none⟩ ∧ ∃ ad, ao = some ad ∧ ∀ j u, cs[j]? = some u → w.cell? (ad.add j) = some u) (hfit : off + cs.length ≤ cur.length) (h1 : ∀ u ∈ cs, u.oneCell' = true) :
    ∃ w', (Builtin.copy_ #[dT, sT] ty #[.slice dp dLen dCap, .slice ao sLen sCap]).run P w = .ok (goInt cs.length) w' ∧ w'.heap[g]? = some (.cells (splice cur off cs).toArray t (0, 0)) ∧ Kept (fun b => b = g) w w' := by
  by_cases h0 : cs.length = 0
  · obtain rfl : cs = [] := List.eq_nil_of_length_eq_zero h0
    exact ⟨w, by simpa using run_copy_none (P := P) w dT sT ty elem dp ao dLen dCap sLen sCap hu hsz (by simpa using hn.symm), by simpa [splice] using hg, Kept.refl _ _⟩
  · obtain ⟨rfl, ad, rfl, hsrc⟩ := hpos (by omega)
    refine ⟨_, run_copy_row (P := P) w dT sT ty elem g off dLen dCap ad sLen sCap cur.toArray t cs hu hsz hg hn hsrc (by simpa using hfit) h1, ?_, ?_⟩
    · simpa [splice] using setRow_heap w g _ _ t _ hg
    · exact ⟨rfl, rfl, rfl, by simp [World.setRow], fun k hk hne => setRow_other w g k _ hne⟩

theorem kept_new {w w1 w2 : World} {g : Nat} (k1 : Kept Nought w w1) (k2 : Kept (fun b => b = g) w1 w2) (hg : w.heap.size ≤ g) : Kept Nought w w2 :=
  k1.next k2 (fun x hx e => by omega)

theorem Row.lt {k : IntKind} {w : World} {v : Value} {xs : List Nat} (h : Row k w v xs) (hne : xs ≠ []) : ∀ b, v.ownBlock = some b → b < w.heap.size := by
  obtain ⟨ao, cap, rfl, _, _, _, hc⟩ := h
  intro b hb
  have : 0 < xs.length := by
    rcases xs with _ | ⟨x, r⟩
    · exact absurd rfl hne
    · simp
  obtain ⟨b', off, rfl, hcell⟩ := hc 0 this
  have e : b' = b := by simpa [Value.ownBlock] using hb
  subst e
  exact World.block_lt_of_cell? w _ hcell

end Go.Proofs.YthnkganmccgaeaaDoor


/- A slice of numbers that came in: from its reading to its cells. -/
namespace Go.Proofs.YthnkganmccgaeaaDoor
open Go.RowKit

theorem row_of_ints {k : IntKind} {B : Nat} {w : World} {a : Option Addr} {len cap : Nat} {zs : List Int} (hk : ∀ n, (Lit.int k n).wf = true → 0 ≤ n ∧ n < (B : Int))
    (h : (a = none ∧ len = 0 ∧ cap = 0 ∧ zs = []) ∨ ∃ x, a = some x ∧ len ≤ cap ∧ cap ≤ maxLen ∧ zs.length = cap ∧ (∀ i, i < zs.length → w.cell? (x.add i) = some (.int k (zs.getD i 0))) ∧ ∀ n ∈ zs, (Lit.int k n).wf = true) :
    ∃ ns : List Nat, Row k w (.slice a len cap) ns ∧ Digs B ns := by
  rcases h with ⟨rfl, rfl, rfl, rfl⟩ | ⟨x, rfl, hl, hm, hz, hcell, hwf⟩
  · exact ⟨[], Row.nil _ _, Digs.nil _⟩
  · have hlen : ((zs.take len).map Int.toNat).length = len := by rw [List.length_map, List.length_take]; omega
    refine ⟨(zs.take len).map Int.toNat, ⟨some x, cap, by rw [hlen], by omega, hm, (fun e => by cases e), fun i hi => ?_⟩, fun d hd => ?_⟩
    · rw [hlen] at hi
      obtain ⟨b, off, rfl, hc⟩ := ints_at hcell (by omega)
      refine ⟨b, off, rfl, ?_⟩
      rw [hc i (by omega)]
      have hi' : i < zs.length := by omega
      have h0 := (hk _ (hwf _ (List.getElem_mem hi'))).1
      have e1 : zs.getD i 0 = zs[i] := by rw [List.getD_eq_getElem?_getD, List.getElem?_eq_getElem hi']; rfl
      have e2 : ((zs.take len).map Int.toNat).getD i 0 = (zs[i]).toNat := by
        rw [List.getD_eq_getElem?_getD, List.getElem?_map, List.getElem?_take, if_pos hi, List.getElem?_eq_getElem hi']
        rfl
      rw [e1, e2, Int.toNat_of_nonneg h0]
    · obtain ⟨n, hn, rfl⟩ := List.mem_map.1 hd
      have := hk n (hwf n (List.mem_of_mem_take hn))
      omega

theorem wf_u8 : ∀ n, (Lit.int .u8 n).wf = true → 0 ≤ n ∧ n < ((256 : Nat) : Int) := fun n h => by
  have := bounds_u8 h
  omega

end Go.Proofs.YthnkganmccgaeaaDoor


/- The plain side of layer 11 (package sconceref11, SHA-256): its numbers; turn, k, Start. -/
namespace Go.Proofs.YthnkganmccgaeaaDoor
open Go.RowKit

/-- A word turned right. -/
def rot32 (x n : Nat) : Nat := (x / 2 ^ n) ||| (x * 2 ^ (32 - n) % 4294967296)

def K256 : List Nat := [1116352408, 1899447441, 3049323471, 3921009573, 961987163, 1508970993, 2453635748, 2870763221, 3624381080, 310598401, 607225278, 1426881987, 1925078388, 2162078206, 2614888103, 3248222580, 3835390401, 4022224774, 264347078, 604807628, 770255983, 1249150122, 1555081692, 1996064986, 2554220882, 2821834349, 2952996808, 3210313671, 3336571891, 3584528711, 113926993, 338241895, 666307205, 773529912, 1294757372, 1396182291, 1695183700, 1986661051, 2177026350, 2456956037, 2730485921, 2820302411, 3259730800, 3345764771, 3516065817, 3600352804, 4094571909, 275423344, 430227734, 506948616, 659060556, 883997877, 958139571, 1322822218, 1537002063, 1747873779, 1955562222, 2024104815, 2227730452, 2361852424, 2428436474, 2756734187, 3204031479, 3329325298]

def H256 : List Nat := [1779033703, 3144134277, 1013904242, 2773480762, 1359893119, 2600822924, 528734635, 1541459225]

theorem rot32_lt (x n : Nat) (hx : x < 4294967296) : rot32 x n < 4294967296 := by
  unfold rot32
  have h1 : x / 2 ^ n < 2 ^ 32 := Nat.lt_of_le_of_lt (Nat.div_le_self _ _) hx
  have h2 : x * 2 ^ (32 - n) % 4294967296 < 2 ^ 32 := Nat.mod_lt _ (by omega)
  exact Nat.or_lt_two_pow h1 h2

set_option maxHeartbeats 400000 in
/-- turn. -/
theorem r11Turn (x n : Nat) (hx : x < 4294967296) (hn : n < 32) (w : World) :
    Calls Tryd.prog 47 #[.int .u32 (x : Nat), .int .i64 (n : Nat)] w fun e w' => e = .returned (.int .u32 (rot32 x n : Nat)) ∧ w' = w := by
  have h1 : x / 2 ^ n < 4294967296 := Nat.lt_of_le_of_lt (Nat.div_le_self _ _) hx
  have h2 : x * 2 ^ (32 - n) % 4294967296 < 4294967296 := Nat.mod_lt _ (by omega)
  have hor := u32_or_nat _ _ h1 h2
  have g1 : (32 : Int) - (n : Int) = ((32 - n : Nat) : Int) := by omega
  have c1 : ((x / 2 ^ n : Nat) : Int) = (x : Int) / 2 ^ n := by simp
  have c2 : ((x * 2 ^ (32 - n) % 4294967296 : Nat) : Int) = (x : Int) * 2 ^ (32 - n) % 4294967296 := by simp
  rw [c1, c2] at hor
  clear c1 c2
  go_enter Tryd.func47, Tryd.ntmps47
  go_wp2_with fail
  go_ret
  exact ⟨rfl, rfl⟩

theorem list_at {l : List Value} {ks : List Nat} {k : IntKind} {i : Nat} (h : l = ks.map fun z : Nat => Value.int k (z : Int)) (hi : i < l.length) : l[i] = .int k (ks.getD i 0 : Nat) := by
  subst h
  rw [List.length_map] at hi
  rw [List.getElem_map, List.getD_eq_getElem?_getD, List.getElem?_eq_getElem hi]
  rfl

set_option maxRecDepth 20000 in
set_option maxHeartbeats 1000000 in
/-- k. -/
theorem r11K (i : Nat) (hi : i < 64) (w : World) :
    Calls Tryd.prog 48 #[.int .i64 (i : Nat)] w fun e w' => e = .returned (.int .u32 (K256.getD i 0 : Nat)) ∧ Kept Nought w w' := by
  have g0 : (0 : Int) ≤ (i : Int) := by omega
  have g1 : (i : Int) < 64 := by omega
  go_enter Tryd.func48, Tryd.ntmps48
  go_wp2_with fail
  rw [list_at (ks := K256) (k := .u32) ?h]
  case h => rfl
  go_ret
  exact ⟨rfl, (Kept.refl _ _).alloc _⟩

set_option maxRecDepth 20000 in
set_option maxHeartbeats 1000000 in
/-- Start. -/
theorem r11Start (w : World) :
    Calls Tryd.prog 37 #[] w fun e w' => e = .returned (.agg (H256.map fun z => Value.int .u32 (z : Nat)).toArray) ∧ Kept Nought w w' := by
  go_enter Tryd.func37, Tryd.ntmps37
  go_wp2_with fail
  exact bodyPost_ret (v := .agg (H256.map fun z => Value.int .u32 (z : Nat)).toArray) (by simp [results, Tryd.results37, go_sem, H256]) rfl ⟨rfl, (Kept.refl _ _).alloc _⟩

end Go.Proofs.YthnkganmccgaeaaDoor


/- An array of numbers in memory. -/
namespace Go.Proofs.YthnkganmccgaeaaDoor
open Go.RowKit

/-- Block b is an array that holds the numbers zs. -/
def Arr (k : IntKind) (t : TypeId) (w : World) (b : Nat) (zs : List Nat) : Prop := w.heap[b]? = some (.cells (zs.map fun z => Value.int k (z : Nat)).toArray t (0, 0))

theorem Arr.cell {k : IntKind} {t : TypeId} {w : World} {b : Nat} {zs : List Nat} (h : Arr k t w b zs) (i : Nat) (hi : i < zs.length) : w.cell? ⟨b, i, none⟩ = some (.int k (zs.getD i 0 : Nat)) := by
  rw [cell_of_row w b i _ _ _ h]
  simp [List.getElem?_eq_getElem hi]

theorem Arr.free {k : IntKind} {t : TypeId} {w : World} {b : Nat} {zs : List Nat} (h : Arr k t w b zs) (i : Nat) : w.frozen? ⟨b, i, none⟩ = false := by
  unfold Arr at h
  simp [World.frozen?, h]

theorem Arr.set {k : IntKind} {t : TypeId} {w : World} {b : Nat} {zs : List Nat} (h : Arr k t w b zs) (i z : Nat) : Arr k t (w.setCell ⟨b, i, none⟩ (.int k (z : Nat))) b (zs.set i z) := by
  have := heap_setCell_same w b i _ t (.int k (z : Nat)) h
  unfold Arr
  rw [this, List.map_set]
  simp

theorem Arr.kept {S : Nat → Prop} {k : IntKind} {t : TypeId} {w w' : World} {b : Nat} {zs : List Nat} (h : Arr k t w b zs) (kk : Kept S w w') (hs : ¬ S b) : Arr k t w' b zs := (kk.block b (lt_of_block h) hs).trans h

theorem Arr.grew {k : IntKind} {t : TypeId} {w w' : World} {b : Nat} {zs : List Nat} (h : Arr k t w b zs) (kk : Kept Nought w w') : Arr k t w' b zs := h.kept kk (fun f => f)

theorem Arr.other {k : IntKind} {t : TypeId} {w : World} {b : Nat} {zs : List Nat} (h : Arr k t w b zs) (a : Addr) (hne : b ≠ a.block) (u : Value) : Arr k t (w.setCell a u) b zs := heapAt_set h hne u

end Go.Proofs.YthnkganmccgaeaaDoor

