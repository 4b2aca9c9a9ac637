/- Events as numbers; what they, and a trace, look like in memory; what a call leaves of the memory that was there. -/
import Derived.Test.YtnjmckfkfkalgabKept
import Derived.Laws.CopyRow
import Derived.Laws.IdiomCopy
namespace Go.Proofs.Ytnjmckfkfkalgab
open Go.RowKit

/-- An event: its kind, its two numbers. -/
abbrev Ev := Int × Int × Int

def evCells (e : Ev) : List Value := [.int .i64 e.1, .int .i64 e.2.1, .int .i64 e.2.2]

/-- Events one behind the other. -/
def evsCells : List Ev → List Value
  | [] => []
  | e :: r => evCells e ++ evsCells r

theorem evsCells_length : ∀ l, (evsCells l).length = l.length * 3
  | [] => rfl
  | e :: r => by simp [evsCells, evCells, evsCells_length r]; omega

theorem evsCells_append : ∀ l m, evsCells (l ++ m) = evsCells l ++ evsCells m
  | [], m => by simp [evsCells]
  | e :: r, m => by simp [evsCells, evsCells_append r m]

theorem evsCells_take : ∀ (l : List Ev) (n : Nat), (evsCells l).take (n * 3) = evsCells (l.take n)
  | [], n => by simp [evsCells]
  | e :: r, 0 => by simp [evsCells]
  | e :: r, n + 1 => by
    have h : (n + 1) * 3 = n * 3 + 1 + 1 + 1 := by omega
    simp [evsCells, evCells, h, evsCells_take r n]

theorem evsCells_at : ∀ (l : List Ev) (k j : Nat) (hk : k < l.length), j < 3 → (evsCells l)[k * 3 + j]? = (evCells l[k])[j]?
  | e :: r, 0, j, _, hj => by
    have : j = 0 ∨ j = 1 ∨ j = 2 := by omega
    rcases this with rfl | rfl | rfl <;> simp [evsCells, evCells]
  | e :: r, k + 1, j, hk, hj => by
    have h : (k + 1) * 3 + j = (k * 3 + j) + 1 + 1 + 1 := by omega
    have := evsCells_at r k j (by simpa using hk) hj
    rw [h]
    simpa [evsCells, evCells] using this

theorem evCells_one (e : Ev) : ∀ u ∈ evCells e, u.oneCell' = true := by
  intro u hu
  simp [evCells] at hu
  rcases hu with rfl | rfl | rfl <;> rfl

theorem evsCells_one : ∀ (l : List Ev), ∀ u ∈ evsCells l, u.oneCell' = true
  | [], u, hu => by simp [evsCells] at hu
  | e :: r, u, hu => by
    simp only [evsCells, List.mem_append] at hu
    rcases hu with h | h
    · exact evCells_one e u h
    · exact evsCells_one r u h

/-- A number into a sum. -/
def mix1 (s n : Int) : Int := bits .xor .u64 s (n % 18446744073709551616) * 1099511628211 % 18446744073709551616

def mixE (s : Int) (e : Ev) : Int := mix1 (mix1 (mix1 s e.1) e.2.1) e.2.2

/-- The sum of events. -/
def evSum (l : List Ev) : Int := l.foldl mixE 14695981039346656037

theorem evSum_snoc (l : List Ev) (e : Ev) : evSum (l ++ [e]) = mixE (evSum l) e := by simp [evSum]

/-- A row of events that v is. -/
def EvRow (w : World) (v : Value) (l : List Ev) : Prop := w.ownsRow 0 58 3 v l.length (evsCells l)

theorem EvRow.lt {w : World} {v : Value} {l : List Ev} (h : EvRow w v l) : ∀ k, v.ownBlock = some k → k < w.heap.size := fun k hk => (World.ownsRow.lt h k hk).2

theorem EvRow.nil (w : World) : EvRow w (.slice none 0 0) [] := World.ownsRow_nil _ _ _ _

theorem EvRow.kept {S : Nat → Prop} {w w' : World} {v : Value} {l : List Ev} (h : EvRow w v l) (k : Kept S w w') (hs : ∀ k, v.ownBlock = some k → ¬ S k) : EvRow w' v l := k.own h hs

theorem EvRow.grew {w w' : World} {v : Value} {l : List Ev} (h : EvRow w v l) (k : Kept Nought w w') : EvRow w' v l := k.own h fun _ _ f => f

/-- A trace at block p, its events in block g, with the events l. -/
def IsTr (w : World) (p : Nat) (g : Option Nat) (l : List Ev) : Prop :=
  ∃ v s, w.heap[p]? = some (.cells #[v, .int .i64 l.length, .int .u64 s] 51 (0, 0)) ∧ v.ownBlock = g ∧ EvRow w v (l.take 1000) ∧ (l ≠ [] → s = evSum l)

theorem IsTr.lt {w : World} {p : Nat} {g : Option Nat} {l : List Ev} (h : IsTr w p g l) : p < w.heap.size ∧ ∀ k, g = some k → k < w.heap.size ∧ k ≠ p := by
  obtain ⟨v, s, hp, hg, hr, _⟩ := h
  refine ⟨lt_of_block hp, fun k hk => ⟨hr.lt k (hg.trans hk), fun e => ?_⟩⟩
  subst e
  rcases hr.2 with ⟨rfl, _⟩ | ⟨g', cap, cur, rfl, _, hgg, _⟩
  · subst hg; cases hk
  · have : g' = k := by subst hg; simpa [Value.ownBlock] using hk
    subst this
    rw [hp] at hgg
    simp at hgg

theorem IsTr.kept {S : Nat → Prop} {w w' : World} {p : Nat} {g : Option Nat} {l : List Ev} (h : IsTr w p g l) (k : Kept S w w') (hp : ¬ S p) (hg : ∀ x, g = some x → ¬ S x) : IsTr w' p g l := by
  obtain ⟨v, s, h1, h2, h3, h4⟩ := h
  exact ⟨v, s, (k.block p (lt_of_block h1) hp).trans h1, h2, h3.kept k fun x hx => hg x (h2.symm.trans hx), h4⟩

theorem IsTr.grew {w w' : World} {p : Nat} {g : Option Nat} {l : List Ev} (h : IsTr w p g l) (k : Kept Nought w w') : IsTr w' p g l := h.kept k (fun f => f) fun _ _ f => f

/-- A row of events is no trace's own cells. -/
theorem IsTr.apart {w : World} {p : Nat} {g : Option Nat} {l m : List Ev} {v : Value} (h : IsTr w p g l) (hr : EvRow w v m) : v.ownBlock ≠ some p := by
  obtain ⟨_, _, hp, _⟩ := h
  intro e
  rcases hr.2 with ⟨rfl, _⟩ | ⟨g', cap, cur, rfl, _, hgg, _⟩
  · cases e
  · have : g' = p := by simpa [Value.ownBlock] using e
    subst this
    rw [hp] at hgg
    simp at hgg

/-- What a pointer to a trace may be: nil, or one at p with its events in g. -/
abbrev Tr := Option (Nat × Option Nat × List Ev)

def trPtr : Tr → Value
  | none => .pointer none
  | some (p, _, _) => .pointer (some ⟨p, 0, none⟩)

def trEvs : Tr → List Ev
  | none => []
  | some (_, _, l) => l

def TrIn (w : World) : Tr → Prop
  | none => True
  | some (p, g, l) => IsTr w p g l ∧ l.length < 1000000000000

/-- The blocks of a trace. -/
def trFoot : Tr → Nat → Prop
  | none, _ => False
  | some (p, g, _), k => k = p ∨ g = some k

/-- What writing the events m down leaves. -/
def Wrote (w : World) (m : List Ev) (w' : World) : Tr → Prop
  | none => Kept Nought w w'
  | some (p, g, l) => Kept (fun k => k = p ∨ g = some k) w w' ∧ ∃ g', IsTr w' p g' (l ++ m) ∧ (g' = g ∨ ∃ x, g' = some x ∧ w.heap.size ≤ x)

theorem TrIn.grew {w w' : World} {o : Tr} (h : TrIn w o) (k : Kept Nought w w') : TrIn w' o := by
  cases o with
  | none => trivial
  | some x => exact ⟨h.1.grew k, h.2⟩

theorem TrIn.foot {w : World} {o : Tr} (h : TrIn w o) : ∀ k, trFoot o k → k < w.heap.size := by
  cases o with
  | none => intro k f; exact f.elim
  | some x =>
    obtain ⟨p, g, l⟩ := x
    intro k f
    rcases f with rfl | f
    · exact h.1.lt.1
    · exact (h.1.lt.2 k f).1

theorem Wrote.kept {w w' : World} {m : List Ev} {o : Tr} (h : Wrote w m w' o) : Kept (trFoot o) w w' := by
  cases o with
  | none => exact Kept.any h
  | some x => exact h.1

theorem Wrote.size {w w' : World} {m : List Ev} {o : Tr} (h : Wrote w m w' o) : w.heap.size ≤ w'.heap.size := h.kept.size

/-- A call that first grows the memory, and then writes. -/
theorem Wrote.after {a w w' : World} {m : List Ev} {o : Tr} (k : Kept Nought a w) (h : Wrote w m w' o) : Wrote a m w' o := by
  cases o with
  | none => exact Kept.trans k h
  | some x =>
    obtain ⟨p, g, l⟩ := x
    obtain ⟨h1, g', h2, h3⟩ := h
    refine ⟨(k.any).trans h1, g', h2, ?_⟩
    rcases h3 with h3 | ⟨x, h3, h4⟩
    · exact .inl h3
    · exact .inr ⟨x, h3, Nat.le_trans k.size h4⟩

theorem Wrote.grew {w w' w2 : World} {m : List Ev} {o : Tr} (h : Wrote w m w' o) (k : Kept Nought w' w2) : Wrote w m w2 o := by
  cases o with
  | none => exact Kept.trans h k
  | some x =>
    obtain ⟨p, g, l⟩ := x
    obtain ⟨h1, g', h2, h3⟩ := h
    exact ⟨h1.trans k.any, g', h2.grew k, h3⟩

/-- Of memory that is no part of the trace. -/
theorem Wrote.block {w w' : World} {m : List Ev} {o : Tr} (h : Wrote w m w' o) (k : Nat) (hk : k < w.heap.size) (hn : ¬ trFoot o k) : w'.heap[k]? = w.heap[k]? := h.kept.block k hk hn

end Go.Proofs.Ytnjmckfkfkalgab
