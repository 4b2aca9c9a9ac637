/- Put together of: Tra1. -/
import Derived.Test.YtnhkfdbeacmepaaDoorPk1
import Derived.Laws.CopyRow
import Derived.Laws.IdiomCopy
import Derived.Deep.RegionHeld3
import Derived.Deep.DrawnRows
import Derived.Deep.RegionLaw

/- Melted of: Evs Trs TWrite TRoom TCalls Steps. -/

/- Events as numbers; what they, and a trace, look like in memory; what a call leaves of the memory that was there. -/
namespace Go.Proofs.YtnhkfdbeacmepaaDoor
open Go.RowKit

/-- An event: its kind, its two numbers. -/
abbrev Ev := Int × Int × Int

def evCells (e : Ev) : List Value := [.int .i64 e.1, .int .i64 e.2.1, .int .i64 e.2.2]

/-- Events one behind the other. -/
def evsCells : List Ev → List Value
  | [] => []
  | e :: r => evCells e ++ evsCells r

theorem evsCells_append : ∀ l m, evsCells (l ++ m) = evsCells l ++ evsCells m
  | [], m => by simp [evsCells]
  | e :: r, m => by simp [evsCells, evsCells_append r m]

theorem evsCells_at : ∀ (l : List Ev) (k j : Nat) (hk : k < l.length), j < 3 → (evsCells l)[k * 3 + j]? = (evCells l[k])[j]?
  | e :: r, 0, j, _, hj => by
    have : j = 0 ∨ j = 1 ∨ j = 2 := by omega
    rcases this with rfl | rfl | rfl <;> simp [evsCells, evCells]
  | e :: r, k + 1, j, hk, hj => by
    have h : (k + 1) * 3 + j = (k * 3 + j) + 1 + 1 + 1 := by omega
    have := evsCells_at r k j (by simpa using hk) hj
    rw [h]
    simpa [evsCells, evCells] using this

theorem evCells_one (e : Ev) : ∀ u ∈ evCells e, u.oneCell' = true := by
  intro u hu
  simp [evCells] at hu
  rcases hu with rfl | rfl | rfl <;> rfl

theorem evsCells_one : ∀ (l : List Ev), ∀ u ∈ evsCells l, u.oneCell' = true
  | [], u, hu => by simp [evsCells] at hu
  | e :: r, u, hu => by
    simp only [evsCells, List.mem_append] at hu
    rcases hu with h | h
    · exact evCells_one e u h
    · exact evsCells_one r u h

/-- A number into a sum. -/
def mix1 (s n : Int) : Int := bits .xor .u64 s (n % 18446744073709551616) * 1099511628211 % 18446744073709551616

def mixE (s : Int) (e : Ev) : Int := mix1 (mix1 (mix1 s e.1) e.2.1) e.2.2

/-- The sum of events. -/
def evSum (l : List Ev) : Int := l.foldl mixE 14695981039346656037

theorem evSum_snoc (l : List Ev) (e : Ev) : evSum (l ++ [e]) = mixE (evSum l) e := by simp [evSum]

/-- A row of events that v is. -/
def EvRow (w : World) (v : Value) (l : List Ev) : Prop := w.ownsRow 0 96 3 v l.length (evsCells l)

theorem EvRow.lt {w : World} {v : Value} {l : List Ev} (h : EvRow w v l) : ∀ k, v.ownBlock = some k → k < w.heap.size := fun k hk => (World.ownsRow.lt h k hk).2

theorem EvRow.nil (w : World) : EvRow w (.slice none 0 0) [] := World.ownsRow_nil _ _ _ _

theorem EvRow.kept {S : Nat → Prop} {w w' : World} {v : Value} {l : List Ev} (h : EvRow w v l) (k : Kept S w w') (hs : ∀ k, v.ownBlock = some k → ¬ S k) : EvRow w' v l := k.own h hs

theorem EvRow.grew {w w' : World} {v : Value} {l : List Ev} (h : EvRow w v l) (k : Kept Nought w w') : EvRow w' v l := k.own h fun _ _ f => f

/-- A trace at block p, its events in block g, with the events l. -/
def IsTr (w : World) (p : Nat) (g : Option Nat) (l : List Ev) : Prop :=
  ∃ v s, w.heap[p]? = some (.cells #[v, .int .i64 l.length, .int .u64 s] 74 (0, 0)) ∧ v.ownBlock = g ∧ EvRow w v (l.take 1000) ∧ (l ≠ [] → s = evSum l)

theorem IsTr.lt {w : World} {p : Nat} {g : Option Nat} {l : List Ev} (h : IsTr w p g l) : p < w.heap.size ∧ ∀ k, g = some k → k < w.heap.size ∧ k ≠ p := by
  obtain ⟨v, s, hp, hg, hr, _⟩ := h
  refine ⟨lt_of_block hp, fun k hk => ⟨hr.lt k (hg.trans hk), fun e => ?_⟩⟩
  subst e
  rcases hr.2 with ⟨rfl, _⟩ | ⟨g', cap, cur, rfl, _, hgg, _⟩
  · subst hg; cases hk
  · have : g' = k := by subst hg; simpa [Value.ownBlock] using hk
    subst this
    rw [hp] at hgg
    simp at hgg

theorem IsTr.kept {S : Nat → Prop} {w w' : World} {p : Nat} {g : Option Nat} {l : List Ev} (h : IsTr w p g l) (k : Kept S w w') (hp : ¬ S p) (hg : ∀ x, g = some x → ¬ S x) : IsTr w' p g l := by
  obtain ⟨v, s, h1, h2, h3, h4⟩ := h
  exact ⟨v, s, (k.block p (lt_of_block h1) hp).trans h1, h2, h3.kept k fun x hx => hg x (h2.symm.trans hx), h4⟩

theorem IsTr.grew {w w' : World} {p : Nat} {g : Option Nat} {l : List Ev} (h : IsTr w p g l) (k : Kept Nought w w') : IsTr w' p g l := h.kept k (fun f => f) fun _ _ f => f

/-- A row of events is no trace's own cells. -/
theorem IsTr.apart {w : World} {p : Nat} {g : Option Nat} {l m : List Ev} {v : Value} (h : IsTr w p g l) (hr : EvRow w v m) : v.ownBlock ≠ some p := by
  obtain ⟨_, _, hp, _⟩ := h
  intro e
  rcases hr.2 with ⟨rfl, _⟩ | ⟨g', cap, cur, rfl, _, hgg, _⟩
  · cases e
  · have : g' = p := by simpa [Value.ownBlock] using e
    subst this
    rw [hp] at hgg
    simp at hgg

/-- What a pointer to a trace may be: nil, or one at p with its events in g. -/
abbrev Tr := Option (Nat × Option Nat × List Ev)

def trPtr : Tr → Value
  | none => .pointer none
  | some (p, _, _) => .pointer (some ⟨p, 0, none⟩)

def trEvs : Tr → List Ev
  | none => []
  | some (_, _, l) => l

def TrIn (w : World) : Tr → Prop
  | none => True
  | some (p, g, l) => IsTr w p g l ∧ l.length < 1000000000000

/-- The blocks of a trace. -/
def trFoot : Tr → Nat → Prop
  | none, _ => False
  | some (p, g, _), k => k = p ∨ g = some k

/-- What writing the events m down leaves. -/
def Wrote (w : World) (m : List Ev) (w' : World) : Tr → Prop
  | none => Kept Nought w w'
  | some (p, g, l) => Kept (fun k => k = p ∨ g = some k) w w' ∧ ∃ g', IsTr w' p g' (l ++ m) ∧ (g' = g ∨ ∃ x, g' = some x ∧ w.heap.size ≤ x)

theorem TrIn.grew {w w' : World} {o : Tr} (h : TrIn w o) (k : Kept Nought w w') : TrIn w' o := by
  cases o with
  | none => trivial
  | some x => exact ⟨h.1.grew k, h.2⟩

theorem TrIn.foot {w : World} {o : Tr} (h : TrIn w o) : ∀ k, trFoot o k → k < w.heap.size := by
  cases o with
  | none => intro k f; exact f.elim
  | some x =>
    obtain ⟨p, g, l⟩ := x
    intro k f
    rcases f with rfl | f
    · exact h.1.lt.1
    · exact (h.1.lt.2 k f).1

theorem Wrote.kept {w w' : World} {m : List Ev} {o : Tr} (h : Wrote w m w' o) : Kept (trFoot o) w w' := by
  cases o with
  | none => exact Kept.any h
  | some x => exact h.1

theorem Wrote.size {w w' : World} {m : List Ev} {o : Tr} (h : Wrote w m w' o) : w.heap.size ≤ w'.heap.size := h.kept.size

/-- A call that first grows the memory, and then writes. -/
theorem Wrote.after {a w w' : World} {m : List Ev} {o : Tr} (k : Kept Nought a w) (h : Wrote w m w' o) : Wrote a m w' o := by
  cases o with
  | none => exact Kept.trans k h
  | some x =>
    obtain ⟨p, g, l⟩ := x
    obtain ⟨h1, g', h2, h3⟩ := h
    refine ⟨(k.any).trans h1, g', h2, ?_⟩
    rcases h3 with h3 | ⟨x, h3, h4⟩
    · exact .inl h3
    · exact .inr ⟨x, h3, Nat.le_trans k.size h4⟩

theorem Wrote.grew {w w' w2 : World} {m : List Ev} {o : Tr} (h : Wrote w m w' o) (k : Kept Nought w' w2) : Wrote w m w2 o := by
  cases o with
  | none => exact Kept.trans h k
  | some x =>
    obtain ⟨p, g, l⟩ := x
    obtain ⟨h1, g', h2, h3⟩ := h
    exact ⟨h1.trans k.any, g', h2.grew k, h3⟩

/-- Of memory that is no part of the trace. -/
theorem Wrote.block {w w' : World} {m : List Ev} {o : Tr} (h : Wrote w m w' o) (k : Nat) (hk : k < w.heap.size) (hn : ¬ trFoot o k) : w'.heap[k]? = w.heap[k]? := h.kept.block k hk hn

end Go.Proofs.YtnhkfdbeacmepaaDoor

/- What trace.New, Many, Sum and mix answer, for any trace and any numbers. -/
namespace Go.Proofs.YtnhkfdbeacmepaaDoor
open Go.RowKit

/-- A new trace's cells. -/
abbrev newTr : Obj := .cells #[.slice none 0 0, .int .i64 0, .int .u64 0] 74

theorem newTr_is (w : World) : IsTr (w.alloc newTr) w.heap.size none [] :=
  ⟨_, _, heap_alloc_new w _, rfl, EvRow.nil _, fun h => absurd rfl h⟩

set_option maxHeartbeats 400000 in
theorem tNew (w : World) : Calls Tryd.prog 20 #[] w fun e w' => e = .returned (.pointer (some ⟨w.heap.size, 0, none⟩)) ∧ w' = w.alloc newTr := by
  go_enter Tryd.func20, Tryd.ntmps20
  go_wp2
  go_ret
  exact ⟨rfl, rfl⟩

set_option maxHeartbeats 400000 in
theorem tMany (o : Tr) (w : World) (h : TrIn w o) : Calls Tryd.prog 39 #[trPtr o] w fun e w' => e = .returned (.int .i64 ((trEvs o).length : Nat)) ∧ w' = w := by
  cases o with
  | none =>
    unfold trPtr trEvs
    go_enter Tryd.func39, Tryd.ntmps39
    go_wp2
    go_ret
    exact ⟨rfl, rfl⟩
  | some x =>
    obtain ⟨p, g, l⟩ := x
    obtain ⟨⟨v, s, hp, _⟩, _⟩ := h
    have c1 : w.cell? ⟨p, 1, none⟩ = some (.int .i64 (l.length : Nat)) := by rw [cell_of_row w p 1 _ _ _ hp]; rfl
    clear hp
    unfold trPtr trEvs
    generalize l.length = n at *
    go_enter Tryd.func39, Tryd.ntmps39
    go_wp2
    go_ret
    exact ⟨rfl, rfl⟩

set_option maxHeartbeats 400000 in
theorem tSum (o : Tr) (w : World) (h : TrIn w o) : Calls Tryd.prog 40 #[trPtr o] w fun e w' => e = .returned (.int .u64 (evSum (trEvs o))) ∧ w' = w := by
  by_cases h0 : trEvs o = []
  · have hm := tMany o w h
    rw [h0] at hm ⊢
    go_enter Tryd.func40, Tryd.ntmps40
    go_wp2_with fail
    refine hm.mono ?_
    rintro e w' ⟨rfl, rfl⟩
    go_wp2
    go_ret
    exact ⟨rfl, rfl⟩
  · have hm := tMany o w h
    cases o with
    | none => exact absurd rfl h0
    | some x =>
      obtain ⟨p, g, l⟩ := x
      obtain ⟨⟨v, s, hp, _, _, hs⟩, _⟩ := h
      have c1 : w.cell? ⟨p, 2, none⟩ = some (.int .u64 s) := by rw [cell_of_row w p 2 _ _ _ hp]; rfl
      obtain rfl := hs h0
      clear hp hs
      unfold trEvs at h0 hm ⊢
      unfold trPtr at hm ⊢
      have hl : (l.length : Int) ≠ 0 := by
        have : l.length ≠ 0 := fun e => h0 (List.eq_nil_of_length_eq_zero e)
        omega
      generalize l.length = n at *
      generalize evSum l = s at *
      go_enter Tryd.func40, Tryd.ntmps40
      go_wp2_with fail
      refine hm.mono ?_
      rintro e w' ⟨rfl, rfl⟩
      go_wp2
      go_ret
      exact ⟨rfl, rfl⟩

set_option maxHeartbeats 400000 in
/-- Sum, by the trace's own cells alone. -/
theorem tSumAt (p : Nat) (v : Value) (n : Nat) (s r : Int) (w : World) (hp : w.heap[p]? = some (.cells #[v, .int .i64 n, .int .u64 s] 74 (0, 0)))
    (hr : (n = 0 ∧ r = 14695981039346656037) ∨ (n ≠ 0 ∧ r = s)) :
    Calls Tryd.prog 40 #[.pointer (some ⟨p, 0, none⟩)] w fun e w' => e = .returned (.int .u64 r) ∧ w' = w := by
  have c1 : w.cell? ⟨p, 1, none⟩ = some (.int .i64 n) := by rw [cell_of_row w p 1 _ _ _ hp]; rfl
  have c2 : w.cell? ⟨p, 2, none⟩ = some (.int .u64 s) := by rw [cell_of_row w p 2 _ _ _ hp]; rfl
  clear hp
  have hm : Calls Tryd.prog 39 #[.pointer (some ⟨p, 0, none⟩)] w fun e w' => e = .returned (.int .i64 n) ∧ w' = w := by
    go_enter Tryd.func39, Tryd.ntmps39
    go_wp2
    go_ret
    exact ⟨rfl, rfl⟩
  rcases hr with ⟨rfl, rfl⟩ | ⟨h0, rfl⟩
  · go_enter Tryd.func40, Tryd.ntmps40
    go_wp2_with fail
    refine hm.mono ?_
    rintro e w' ⟨rfl, rfl⟩
    go_wp2
    go_ret
    exact ⟨rfl, rfl⟩
  · have h1 : (n : Int) ≠ 0 := by omega
    go_enter Tryd.func40, Tryd.ntmps40
    go_wp2_with fail
    refine hm.mono ?_
    rintro e w' ⟨rfl, rfl⟩
    go_wp2
    go_ret
    exact ⟨rfl, rfl⟩

set_option maxHeartbeats 400000 in
theorem tMix (s : Int) (e : Ev) (b : Nat) (w : World) (h : w.heap[b]? = some (.cells (evCells e).toArray 3 (0, 0))) :
    Calls Tryd.prog 83 #[.int .u64 s, .slice (some ⟨b, 0, none⟩) 3 3] w fun r w' => r = .returned (.int .u64 (mixE s e)) ∧ w' = w := by
  obtain ⟨k, x, y⟩ := e
  have c0 : w.cell? ⟨b, 0, none⟩ = some (.int .i64 k) := by rw [cell_of_row w b 0 _ _ _ h]; rfl
  have c1 : w.cell? ⟨b, 1, none⟩ = some (.int .i64 x) := by rw [cell_of_row w b 1 _ _ _ h]; rfl
  have c2 : w.cell? ⟨b, 2, none⟩ = some (.int .i64 y) := by rw [cell_of_row w b 2 _ _ _ h]; rfl
  clear h
  have hm : mixE s (k, x, y) = mix1 (mix1 (mix1 s k) x) y := rfl
  rw [hm]
  clear hm
  go_enter Tryd.func83, Tryd.ntmps83
  go_wp2_with fail
  go_loop [0, 9] (fun t i => (i = .int .i64 0 ∧ t = .int .u64 s) ∨ (i = .int .i64 1 ∧ t = .int .u64 (mix1 s k)) ∨ (i = .int .i64 2 ∧ t = .int .u64 (mix1 (mix1 s k) x)) ∨ (i = .int .i64 3 ∧ t = .int .u64 (mix1 (mix1 (mix1 s k) x) y))) (fun _ i => (3 - intOf i).toNat)
  case atStart => exact .inl ⟨rfl, rfl⟩
  case round =>
    rcases hrel with ⟨rfl, rfl⟩ | ⟨rfl, rfl⟩ | ⟨rfl, rfl⟩ | ⟨rfl, rfl⟩
    · go_wp2
      go_round
      case rel => exact .inr (.inl ⟨by go_num, by simp [mix1, IntKind.wrap_u64]⟩)
      case measure => simp [intOf]
    · go_wp2
      go_round
      case rel => exact .inr (.inr (.inl ⟨by go_num, by simp [mix1, IntKind.wrap_u64]⟩))
      case measure => simp [intOf]
    · go_wp2
      go_round
      case rel => exact .inr (.inr (.inr ⟨by go_num, by simp [mix1, IntKind.wrap_u64]⟩))
      case measure => simp [intOf]
    · go_wp2
      go_ret
      exact ⟨rfl, rfl⟩

end Go.Proofs.YtnhkfdbeacmepaaDoor

/- What trace's write leaves, for any trace and any event. -/
namespace Go.Proofs.YtnhkfdbeacmepaaDoor
open Go.RowKit

theorem Tryd.info96 : (Tryd.prog.info? 96).map (fun i => (i.zero, i.size, i.bytes)) = some (some (.agg #[.int .i64 0, .int .i64 0, .int .i64 0]), 3, 24) := by kernel_rfl

theorem box_cell (w W : World) (A : Array Value) (t : TypeId) (j : Nat) (hs : W.heap.size = w.heap.size) (B : Obj) : ((W.alloc (.cells A t)).alloc B).drew.cell? ⟨w.heap.size, j, none⟩ = A[j]? := by
  rw [← hs]
  exact cell_of_row _ _ _ A t (0, 0) (heapAt_drew (heap_alloc2_old W _ _))

theorem set21 {w : World} {p : Nat} {v n s : Value} {t : TypeId} (hp : w.heap[p]? = some (.cells #[v, n, s] t (0, 0))) (u1 u2 : Value) : ((w.setCell ⟨p, 2, none⟩ u2).setCell ⟨p, 1, none⟩ u1).heap[p]? = some (.cells #[v, u1, u2] t (0, 0)) := by
  have h1 := heap_setCell_same w p 2 _ _ u2 hp
  have h2 := heap_setCell_same _ p 1 _ _ u1 h1
  simpa using h2

attribute [local go_sem ↓] Go.wp_at_zero Go.wp_at_succ

set_option maxHeartbeats 400000 in
theorem tWriteNil (k x y : Int) (w : World) :
    Calls Tryd.prog 67 #[.pointer none, .agg #[.int .i64 k, .int .i64 x, .int .i64 y]] w fun r w' => r = .returned (.tuple #[]) ∧ w' = w.alloc (.cells #[.int .i64 k, .int .i64 x, .int .i64 y] 96) := by
  go_enter Tryd.func67, Tryd.ntmps67
  go_wp2
  exact bodyPost_ret (v := .tuple #[]) (by simp [results, Tryd.results67, go_sem]) rfl ⟨rfl, rfl⟩

set_option maxRecDepth 100000 in
set_option maxHeartbeats 200000 in
theorem tWriteFull (p : Nat) (ao : Option Addr) (cap n : Nat) (s r k x y : Int) (w : World) (hn : n < 1000000000000)
    (hp : w.heap[p]? = some (.cells #[.slice ao 1000 cap, .int .i64 n, .int .u64 s] 74 (0, 0))) (hr : (n = 0 ∧ r = 14695981039346656037) ∨ (n ≠ 0 ∧ r = s)) :
    Calls Tryd.prog 67 #[.pointer (some ⟨p, 0, none⟩), .agg #[.int .i64 k, .int .i64 x, .int .i64 y]] w fun e w' => e = .returned (.tuple #[]) ∧
      w'.heap[p]? = some (.cells #[.slice ao 1000 cap, .int .i64 (n + 1 : Nat), .int .u64 (mixE r (k, x, y))] 74 (0, 0)) ∧ Kept (fun b => b = p) w w' := by
  have hlt := lt_of_block hp
  have c0 : w.cell? ⟨p, 0, none⟩ = some (.slice ao 1000 cap) := by rw [cell_of_row w p 0 _ _ _ hp]; rfl
  have c1 : w.cell? ⟨p, 1, none⟩ = some (.int .i64 n) := by rw [cell_of_row w p 1 _ _ _ hp]; rfl
  have c2 : w.cell? ⟨p, 2, none⟩ = some (.int .u64 s) := by rw [cell_of_row w p 2 _ _ _ hp]; rfl
  have ne2 := World.new_ne w _ c2
  have f : ∀ j, w.frozen? ⟨p, j, none⟩ = false := fun j => frozen_of_row w p j _ _ hp
  go_enter Tryd.func67, Tryd.ntmps67
  go_wp2_with fail
  go_region_held3 (fun w' => w'.cell? ⟨w.heap.size, 0, none⟩ = some (.int .i64 k) ∧ w'.cell? ⟨w.heap.size, 1, none⟩ = some (.int .i64 x) ∧ w'.cell? ⟨w.heap.size, 2, none⟩ = some (.int .i64 y))
    (((try dsimp only); (repeat' apply And.intro) <;> first | (go_keep; done) | exact (box_cell w _ _ _ _ (by simp) _).trans rfl))
    (first
      | (go_at_call 83; refine (tMix r (k, x, y) _ _ ?_).mono ?_; (first | exact heapAt_drew (heap_alloc2_new _ _ _) | exact heap_alloc2_new _ _ _ | exact Go.heap_alloc_new _ _ | (simp; done)); rintro e w' ⟨rfl, rfl⟩)
      | (go_at_call 40; refine (tSumAt p (.slice ao 1000 cap) n s r _ ?_ hr).mono ?_; (first | exact heapAt_drew (heapAt_alloc hp) | exact heapAt_drew (heapAt_alloc (heapAt_alloc hp)) | exact heapAt_alloc (heapAt_drew (heapAt_alloc hp))); rintro e w' ⟨rfl, rfl⟩))
  all_goals
    go_wp2
    go_end0
    refine ⟨rfl, ?_, ?_⟩
    · rw [Int.natCast_add]
      exact heapAt_drew (heapAt_alloc (heapAt_alloc (set21 hp _ _)))
    · exact (((((Kept.refl (fun b => b = p) w).setCell ⟨p, 2, none⟩ (fun _ => rfl) _).setCell ⟨p, 1, none⟩ (fun _ => rfl) _).alloc _).alloc _).drew

end Go.Proofs.YtnhkfdbeacmepaaDoor

/- What trace's write leaves of a trace that has room for the event. -/
namespace Go.Proofs.YtnhkfdbeacmepaaDoor
open Go.RowKit

attribute [local go_sem ↓] Go.wp_at_zero Go.wp_at_succ

theorem row_ne {w : World} {base size n : Nat} {e t : TypeId} {v : Value} {xs : List Value} {p : Nat} {cs : Array Value} {fr : Nat × Nat} (h : w.ownsRow base e size v n xs) (hp : w.heap[p]? = some (.cells cs t fr)) (ht : t ≠ e) : some p ≠ v.ownBlock := by
  intro he
  rcases h.2 with ⟨rfl, _⟩ | ⟨g', cap, cur, rfl, _, hgg, _⟩
  · cases he
  · have : p = g' := by simpa [Value.ownBlock] using he
    subst this
    rw [hp] at hgg
    simp only [Option.some.injEq, Obj.cells.injEq] at hgg
    exact ht hgg.2.1

theorem keep_cell {W : World} {bx j p i : Nat} {u : Value} (h : W.cell? ⟨bx, j, none⟩ = some u) (hne : bx ≠ p) (z : Value) (B : Obj) : ((W.setCell ⟨p, i, none⟩ z).alloc B).drew.cell? ⟨bx, j, none⟩ = some u := by
  have hlt : bx < W.heap.size := World.block_lt_of_cell? W _ h
  have e : ((W.setCell ⟨p, i, none⟩ z).alloc B).drew.heap[bx]? = W.heap[bx]? := (Below.heap_alloc _ _ _ (by simpa using hlt)).trans (Below.heap_setCell W _ z bx hne)
  exact (World.cell?_of_block (a := ⟨bx, j, none⟩) e).trans h

theorem room_after {w w1 : World} {p m : Nat} {v u c s : Value} {A B : Array Value} {xs : List Value} {t : TypeId} (hp : w.heap[p]? = some (.cells #[v, c, s] t (0, 0)))
    (hgrow : ((w.alloc (.cells A 96)).alloc (.cells B 96)).drew.grownBy w1 v.ownBlock) (hpw : w1.heap[p]? = some (.cells #[v, c, s] t (0, 0)))
    (ho : w1.ownsRow 0 96 3 u m xs) (hvlt : ∀ b, v.ownBlock = some b → b < w.heap.size) (ht : t ≠ 96 := by decide) :
    (w1.setCell ⟨p, 0, none⟩ u).heap[p]? = some (.cells #[u, c, s] t (0, 0)) ∧ (w1.setCell ⟨p, 0, none⟩ u).heap[w.heap.size]? = some (.cells A 96 (0, 0)) ∧
      (w1.setCell ⟨p, 0, none⟩ u).ownsRow 0 96 3 u m xs ∧ Kept (fun b => b = p ∨ v.ownBlock = some b) w (w1.setCell ⟨p, 0, none⟩ u) ∧ w.heap.size < (w1.setCell ⟨p, 0, none⟩ u).heap.size := by
  have hlt := lt_of_block hp
  have hs := hgrow.size
  have hs' : w.heap.size + 2 ≤ w1.heap.size := by simpa using hs
  have hne : some w.heap.size ≠ v.ownBlock := fun e => by have := hvlt _ e.symm; omega
  refine ⟨?_, ?_, ownsRow_setCell_other ho (fun e => row_ne ho hpw ht e.symm) _, ?_, by simp; omega⟩
  · simpa using heap_setCell_same w1 p 0 _ _ u hpw
  · refine heapAt_set ?_ (by simp; omega) _
    rw [hgrow.block w.heap.size (by simp; omega) hne]
    exact heapAt_drew (heap_alloc2_old w _ _)
  · exact (((((Kept.refl (fun b => b = p ∨ v.ownBlock = some b) w).alloc _).alloc _).drew).grown hgrow (fun k hk _ => .inr hk)).setCell ⟨p, 0, none⟩ (fun _ => .inl rfl) _

theorem room_own {W : World} {p m : Nat} {v : Value} {cs : Array Value} {xs : List Value} {t : TypeId} (hp : W.heap[p]? = some (.cells cs t (0, 0))) (ho : W.ownsRow 0 96 3 v m xs) (u1 u2 : Value) (B : Obj) (ht : t ≠ 96 := by decide) :
    (((W.setCell ⟨p, 2, none⟩ u2).setCell ⟨p, 1, none⟩ u1).alloc B).drew.ownsRow 0 96 3 v m xs :=
  ((ownsRow_setCell_other (ownsRow_setCell_other ho (a := ⟨p, 2, none⟩) (fun e => row_ne ho hp ht e.symm) u2) (a := ⟨p, 1, none⟩) (fun e => row_ne ho hp ht e.symm) u1).alloc B).drew

set_option maxRecDepth 100000 in
set_option maxHeartbeats 800000 in
theorem tWriteRoom (p : Nat) (v : Value) (ao : Option Addr) (cap n : Nat) (xs : List Value) (s r k x y : Int) (w : World) (hn : n < 1000) (hv : v = .slice ao n cap)
    (hp : w.heap[p]? = some (.cells #[v, .int .i64 n, .int .u64 s] 74 (0, 0))) (hown : w.ownsRow 0 96 3 v n xs) (hr : (n = 0 ∧ r = 14695981039346656037) ∨ (n ≠ 0 ∧ r = s)) :
    Calls Tryd.prog 67 #[.pointer (some ⟨p, 0, none⟩), .agg #[.int .i64 k, .int .i64 x, .int .i64 y]] w fun e w' => e = .returned (.tuple #[]) ∧
      ∃ g c', w'.heap[p]? = some (.cells #[.slice (some ⟨g, 0, none⟩) (n + 1) c', .int .i64 (n + 1 : Nat), .int .u64 (mixE r (k, x, y))] 74 (0, 0)) ∧
        w'.ownsRow 0 96 3 (.slice (some ⟨g, 0, none⟩) (n + 1) c') (n + 1) (xs ++ evCells (k, x, y)) ∧ (v.ownBlock = some g ∨ w.heap.size ≤ g) ∧ Kept (fun b => b = p ∨ v.ownBlock = some b) w w' := by
  subst hv
  obtain ⟨i0, hi0, hz0, hz1, hz2⟩ := info_parts Tryd.info96
  have hlt := lt_of_block hp
  have hvlt : ∀ b, (Value.slice ao n cap).ownBlock = some b → b < w.heap.size := fun b hb => (hown.lt b hb).2
  have hne : (Value.slice ao n cap).ownBlock ≠ some w.heap.size := fun e => by have := hvlt _ e; omega
  have c0 : w.cell? ⟨p, 0, none⟩ = some (.slice ao n cap) := by rw [cell_of_row w p 0 _ _ _ hp]; rfl
  have ne2 := World.new_ne w _ c0
  have f : ∀ j, w.frozen? ⟨p, j, none⟩ = false := fun j => frozen_of_row w p j _ _ hp
  have hnp : some p ≠ (Value.slice ao n cap).ownBlock := row_ne hown hp (by decide)
  have hn' : (n : Int) < 1000 := by omega
  go_enter Tryd.func67, Tryd.ntmps67
  go_wp2_with fail
  go_region_law ((refine step_append_lies _ (by rfl) _ _ _ (by rfl) 0 96 i0 _ 3 24 Tryd.underlying72 hi0 hz0 hz1 hz2 rfl (by omega) (.slice ao n cap) n xs (by rfl) (((hown.alloc _).alloc _).drew) ⟨w.heap.size + 1, 0, none⟩ 1 1 [.int .i64 k, .int .i64 x, .int .i64 y] (by rfl) (by rfl) (World.news_of_block (cs := #[.int .i64 k, .int .i64 x, .int .i64 y]) (t := 96) (fr := (0, 0)) (heap_alloc2_new w _ _)) (by simp [Value.oneCell']) (by omega) (by unfold maxLen; omega) (by omega) (by simp) (w.heap.size + 2) (by simp) ?_; intro gg c' w1 hown1 hgrow hat hgl; have hpw := (hgrow.block p (by simp; omega) hnp).trans (heapAt_drew (heapAt_alloc (heapAt_alloc hp))); have cp := (cell_of_row w1 p 0 _ _ _ hpw).trans rfl; have fp := frozen_of_row w1 p 0 _ _ hpw))
  all_goals
    go_wp2_with fail
    obtain ⟨hpW, hbW, hoW, hkW, hsW⟩ := room_after (u := .slice (some ⟨gg, 0, none⟩) (n + 1) c') hp hgrow hpw hown1 hvlt
    have hat' : (Value.slice ao n cap).ownBlock = some gg ∨ w.heap.size ≤ gg := hat.imp id (fun e => by omega)
    clear hown1 hgrow hpw cp fp hown hp c0 f hat hgl hnp hvlt hne hi0 hz0 hz1 hz2
    generalize w1.setCell ⟨p, 0, none⟩ (.slice (some ⟨gg, 0, none⟩) (n + 1) c') = W at *
    clear w1
    have b0 : W.cell? ⟨w.heap.size, 0, none⟩ = some (.int .i64 k) := (cell_of_row W _ 0 _ _ _ hbW).trans rfl
    have b1 : W.cell? ⟨w.heap.size, 1, none⟩ = some (.int .i64 x) := (cell_of_row W _ 1 _ _ _ hbW).trans rfl
    have b2 : W.cell? ⟨w.heap.size, 2, none⟩ = some (.int .i64 y) := (cell_of_row W _ 2 _ _ _ hbW).trans rfl
    have c1 : W.cell? ⟨p, 1, none⟩ = some (.int .i64 n) := by rw [cell_of_row W p 1 _ _ _ hpW]; rfl
    have c2 : W.cell? ⟨p, 2, none⟩ = some (.int .u64 s) := by rw [cell_of_row W p 2 _ _ _ hpW]; rfl
    have f : ∀ j, W.frozen? ⟨p, j, none⟩ = false := fun j => frozen_of_row W p j _ _ hpW
    have hltW := lt_of_block hpW
    generalize hbx : w.heap.size = bx at *
    have HB : Hid (w.heap.size = bx) := hbx
    clear hbx
    go_region_held3 (fun w' => w'.cell? ⟨bx, 0, none⟩ = some (.int .i64 k) ∧ w'.cell? ⟨bx, 1, none⟩ = some (.int .i64 x) ∧ w'.cell? ⟨bx, 2, none⟩ = some (.int .i64 y))
      (((try dsimp only); (repeat' apply And.intro) <;> first | (go_keep; done) | exact keep_cell b0 ne2 _ _ | exact keep_cell b1 ne2 _ _ | exact keep_cell b2 ne2 _ _))
      (first
        | (go_at_call 83; refine (tMix r (k, x, y) _ _ ?_).mono ?_; (first | exact heapAt_drew (Go.heap_alloc_new _ _) | exact Go.heap_alloc_new _ _ ); rintro e w' ⟨rfl, rfl⟩)
        | (go_at_call 40; refine (tSumAt p (.slice (some ⟨gg, 0, none⟩) (n + 1) c') n s r _ ?_ hr).mono ?_; (first | exact heapAt_drew hpW | exact heapAt_drew (heapAt_alloc hpW) | exact heapAt_alloc (heapAt_drew hpW)); rintro e w' ⟨rfl, rfl⟩))
    all_goals
      go_wp2
      go_end0
      refine ⟨rfl, gg, c', ?_, ?_, by rw [HB.out]; exact hat', ?_⟩
      · rw [Int.natCast_add]
        exact heapAt_drew (heapAt_alloc (set21 hpW _ _))
      · exact room_own hpW hoW _ _ _
      · exact hkW.trans (((((Kept.refl (fun b => b = p ∨ (Value.slice ao n cap).ownBlock = some b) W).setCell ⟨p, 2, none⟩ (fun _ => .inl rfl) _).setCell ⟨p, 1, none⟩ (fun _ => .inl rfl) _).alloc _).drew)

end Go.Proofs.YtnhkfdbeacmepaaDoor

/- What trace's write, Span, Branch and Index leave and answer, for any trace, nil too. -/
namespace Go.Proofs.YtnhkfdbeacmepaaDoor
open Go.RowKit

/-- The value of an event. -/
def evVal (e : Ev) : Value := .agg #[.int .i64 e.1, .int .i64 e.2.1, .int .i64 e.2.2]

theorem sum_of {l : List Ev} {s : Int} (hs : l ≠ [] → s = evSum l) : (l.length = 0 ∧ evSum l = 14695981039346656037) ∨ (l.length ≠ 0 ∧ evSum l = s) := by
  by_cases h : l = []
  · subst h; exact .inl ⟨rfl, rfl⟩
  · exact .inr ⟨fun e => h (List.eq_nil_of_length_eq_zero e), (hs h).symm⟩

theorem take_all (l : List Ev) (h : l.length < 1000) : l.take 1000 = l := List.take_of_length_le (by omega)

theorem take_snoc_room (l : List Ev) (e : Ev) (h : l.length < 1000) : (l ++ [e]).take 1000 = l ++ [e] := List.take_of_length_le (by simp; omega)

theorem take_snoc_full (l : List Ev) (e : Ev) (h : 1000 ≤ l.length) : (l ++ [e]).take 1000 = l.take 1000 := List.take_append_of_le_length h

theorem tWrite (o : Tr) (e : Ev) (w : World) (h : TrIn w o) :
    Calls Tryd.prog 67 #[trPtr o, evVal e] w fun r w' => r = .returned (.tuple #[]) ∧ Wrote w [e] w' o := by
  obtain ⟨k, x, y⟩ := e
  cases o with
  | none =>
    refine (tWriteNil k x y w).mono ?_
    rintro r w' ⟨rfl, rfl⟩
    exact ⟨rfl, (Kept.refl Nought w).alloc _⟩
  | some q =>
    obtain ⟨p, g, l⟩ := q
    obtain ⟨⟨v, s, hp, hg, hr, hs⟩, hl⟩ := h
    by_cases hf : l.length < 1000
    · have ht := take_all l hf
      unfold EvRow at hr
      rw [ht] at hr
      obtain ⟨ao, cap, hv⟩ := own_slice hr
      refine (tWriteRoom p v ao cap l.length (evsCells l) s (evSum l) k x y w hf hv hp hr (sum_of hs)).mono ?_
      rintro r w' ⟨rfl, g', c', hp', ho', hat, hk⟩
      refine ⟨rfl, ?_⟩
      rw [hg] at hat hk
      refine ⟨hk, some g', ⟨_, _, by simpa using hp', rfl, ?_, fun _ => (evSum_snoc l _).symm⟩, ?_⟩
      · unfold EvRow
        rw [take_snoc_room l _ hf, evsCells_append]
        simpa [evsCells] using ho'
      · rcases hat with h | h
        · exact .inl h.symm
        · exact .inr ⟨g', rfl, h⟩
    · have hlen : (l.take 1000).length = 1000 := by rw [List.length_take]; omega
      have hr' : w.ownsRow 0 96 3 v 1000 (evsCells (l.take 1000)) := by rw [← hlen]; rw [hlen]; unfold EvRow at hr; rw [hlen] at hr; exact hr
      obtain ⟨ao, cap, rfl⟩ := own_slice hr'
      refine (tWriteFull p ao cap l.length s (evSum l) k x y w hl hp (sum_of hs)).mono ?_
      rintro r w' ⟨rfl, hp', hk⟩
      refine ⟨rfl, hk.mono (fun _ _ h => .inl h), g, ⟨_, _, by simpa using hp', hg, ?_, fun _ => (evSum_snoc l _).symm⟩, .inl rfl⟩
      rw [take_snoc_full l _ (by omega)]
      refine EvRow.kept hr hk fun b hb e => ?_
      subst e
      exact row_ne hr hp (by decide) hb.symm

set_option maxHeartbeats 400000 in
theorem tSpan (o : Tr) (n : Int) (w : World) (h : TrIn w o) :
    Calls Tryd.prog 49 #[trPtr o, .int .i64 n] w fun r w' => r = .returned (.tuple #[]) ∧ Wrote w [(1, n, 0)] w' o := by
  have hc := tWrite o (1, n, 0) w h
  unfold evVal at hc
  generalize trPtr o = tp at *
  go_enter Tryd.func49, Tryd.ntmps49
  go_wp2_with fail
  refine hc.mono ?_
  rintro e w' ⟨rfl, hw⟩
  go_wp2
  go_end0
  exact ⟨rfl, hw⟩

end Go.Proofs.YtnhkfdbeacmepaaDoor

/- A trace that goes on: what a call that writes events down leaves, with the trace as it is then; numbers that lie apart from it. -/
namespace Go.Proofs.YtnhkfdbeacmepaaDoor
open Go.RowKit

/-- From w to w' the events m were written down: the trace o has become o'; all else is kept. -/
def Did (w : World) (o : Tr) (m : List Ev) (w' : World) (o' : Tr) : Prop :=
  Kept (trFoot o) w w' ∧ ((o = none ∧ o' = none) ∨ ∃ p g l g', o = some (p, g, l) ∧ o' = some (p, g', l ++ m) ∧ IsTr w' p g' (l ++ m) ∧ (g' = g ∨ ∃ x, g' = some x ∧ w.heap.size ≤ x))

/-- The trace has room for k events more. -/
def TrRoom (w : World) (o : Tr) (k : Nat) : Prop := TrIn w o ∧ (trEvs o).length + k < 1000000000000

theorem TrRoom.none (w : World) (k : Nat) (hk : k < 1000000000000) : TrRoom w none k := ⟨trivial, by simp [trEvs]; omega⟩

theorem TrRoom.less {w : World} {o : Tr} {k j : Nat} (h : TrRoom w o k) (hj : j ≤ k) : TrRoom w o j := ⟨h.1, by have := h.2; omega⟩

theorem TrRoom.grew {w w' : World} {o : Tr} {k : Nat} (h : TrRoom w o k) (hk : Kept Nought w w') : TrRoom w' o k := ⟨h.1.grew hk, h.2⟩

theorem Did.kept {w w' : World} {o o' : Tr} {m : List Ev} (h : Did w o m w' o') : Kept (trFoot o) w w' := h.1

theorem Did.size {w w' : World} {o o' : Tr} {m : List Ev} (h : Did w o m w' o') : w.heap.size ≤ w'.heap.size := h.1.size

theorem Did.ptr {w w' : World} {o o' : Tr} {m : List Ev} (h : Did w o m w' o') : trPtr o' = trPtr o := by
  rcases h.2 with ⟨rfl, rfl⟩ | ⟨p, g, l, g', rfl, rfl, _⟩ <;> rfl

theorem Did.len {w w' : World} {o o' : Tr} {m : List Ev} (h : Did w o m w' o') : (trEvs o').length ≤ (trEvs o).length + m.length := by
  rcases h.2 with ⟨rfl, rfl⟩ | ⟨p, g, l, g', rfl, rfl, _⟩
  · simp
  · simp [trEvs]

theorem Did.evs {w w' : World} {o o' : Tr} {m : List Ev} (h : Did w o m w' o') (ho : o ≠ none) : trEvs o' = trEvs o ++ m := by
  rcases h.2 with ⟨rfl, rfl⟩ | ⟨p, g, l, g', rfl, rfl, _⟩
  · exact absurd rfl ho
  · rfl

theorem Did.room {w w' : World} {o o' : Tr} {m : List Ev} {k : Nat} (h : Did w o m w' o') (hr : TrRoom w o (m.length + k)) : TrRoom w' o' k := by
  have hl := h.len
  have h2 := hr.2
  refine ⟨?_, by omega⟩
  rcases h.2 with ⟨rfl, rfl⟩ | ⟨p, g, l, g', rfl, rfl, ht, _⟩
  · trivial
  · exact ⟨ht, by simp only [trEvs] at hl; simp only [trEvs] at h2; rw [List.length_append]; omega⟩

theorem Did.foot {w w' : World} {o o' : Tr} {m : List Ev} (h : Did w o m w' o') {b : Nat} (hb : b < w.heap.size) (hf : trFoot o' b) : trFoot o b := by
  rcases h.2 with ⟨rfl, rfl⟩ | ⟨p, g, l, g', rfl, rfl, _, hg⟩
  · exact hf
  · rcases hf with rfl | hf
    · exact .inl rfl
    · rcases hg with rfl | ⟨x, rfl, hx⟩
      · exact .inr hf
      · simp at hf; omega

theorem Did.trans {w w1 w2 : World} {o o1 o2 : Tr} {m m' : List Ev} (h : Did w o m w1 o1) (k : Did w1 o1 m' w2 o2) : Did w o (m ++ m') w2 o2 := by
  refine ⟨h.1.next k.1 (fun x hx hf => h.foot hx hf), ?_⟩
  rcases h.2 with ⟨rfl, rfl⟩ | ⟨p, g, l, g', rfl, rfl, ht, hg⟩
  · rcases k.2 with ⟨_, rfl⟩ | ⟨_, _, _, _, e, _⟩
    · exact .inl ⟨rfl, rfl⟩
    · cases e
  · rcases k.2 with ⟨e, _⟩ | ⟨p2, g2, l2, g2', e, rfl, ht2, hg2⟩
    · cases e
    · simp only [Option.some.injEq, Prod.mk.injEq] at e
      obtain ⟨rfl, rfl, rfl⟩ := e
      refine .inr ⟨_, _, _, _, rfl, by rw [List.append_assoc], by rw [← List.append_assoc]; exact ht2, ?_⟩
      rcases hg2 with rfl | ⟨x, rfl, hx⟩
      · exact hg
      · exact .inr ⟨x, rfl, Nat.le_trans h.1.size hx⟩

theorem Did.of_kept {w w' : World} {o : Tr} (h : Kept Nought w w') (ht : TrIn w o) : Did w o [] w' o := by
  refine ⟨h.any, ?_⟩
  cases o with
  | none => exact .inl ⟨rfl, rfl⟩
  | some x =>
    obtain ⟨p, g, l⟩ := x
    exact .inr ⟨p, g, l, g, rfl, by simp, by simpa using ht.1.grew h, .inl rfl⟩

theorem Did.grew {w w' w2 : World} {o o' : Tr} {m : List Ev} (h : Did w o m w' o') (k : Kept Nought w' w2) : Did w o m w2 o' := by
  refine ⟨h.1.trans k.any, ?_⟩
  rcases h.2 with h1 | ⟨p, g, l, g', e1, e2, ht, hg⟩
  · exact .inl h1
  · exact .inr ⟨p, g, l, g', e1, e2, ht.grew k, hg⟩

theorem Did.after {a w w' : World} {o o' : Tr} {m : List Ev} (k : Kept Nought a w) (h : Did w o m w' o') : Did a o m w' o' := by
  refine ⟨k.any.trans h.1, ?_⟩
  rcases h.2 with h1 | ⟨p, g, l, g', e1, e2, ht, hg⟩
  · exact .inl h1
  · refine .inr ⟨p, g, l, g', e1, e2, ht, ?_⟩
    rcases hg with hg | ⟨x, e, hx⟩
    · exact .inl hg
    · exact .inr ⟨x, e, Nat.le_trans k.size hx⟩

theorem Did.of_wrote {w w' : World} {o : Tr} {m : List Ev} (h : Wrote w m w' o) : ∃ o', Did w o m w' o' := by
  have hk := h.kept
  cases o with
  | none => exact ⟨none, hk, .inl ⟨rfl, rfl⟩⟩
  | some x =>
    obtain ⟨p, g, l⟩ := x
    obtain ⟨_, g', ht, hg⟩ := h
    exact ⟨some (p, g', l ++ m), hk, .inr ⟨p, g, l, g', rfl, rfl, ht, hg⟩⟩

theorem Did.none {w w' : World} {o' : Tr} {m : List Ev} (h : Did w none m w' o') : o' = none ∧ Kept Nought w w' := by
  rcases h.2 with ⟨_, rfl⟩ | ⟨_, _, _, _, e, _⟩
  · exact ⟨rfl, h.1.mono (fun _ _ f => f)⟩
  · cases e

/-- A number in memory that lies apart from the trace. -/
def RowT (w : World) (o : Tr) (v : Value) (xs : List Nat) : Prop := Row .u64 w v xs ∧ (xs ≠ [] → ∀ b, v.ownBlock = some b → ¬ trFoot o b)

theorem RowT.row {w : World} {o : Tr} {v : Value} {xs : List Nat} (h : RowT w o v xs) : Row .u64 w v xs := h.1

theorem RowT.none {w : World} {v : Value} {xs : List Nat} (h : Row .u64 w v xs) : RowT w none v xs := ⟨h, fun _ _ _ f => f⟩

theorem RowT.did {w w' : World} {o o' : Tr} {m : List Ev} {v : Value} {xs : List Nat} (h : RowT w o v xs) (d : Did w o m w' o') : RowT w' o' v xs :=
  ⟨h.1.kept' d.1 h.2, fun hne b hb hf => h.2 hne b hb (d.foot (h.1.lt hne b hb) hf)⟩

theorem RowT.grew {w w' : World} {o : Tr} {v : Value} {xs : List Nat} (h : RowT w o v xs) (k : Kept Nought w w') : RowT w' o v xs := ⟨h.1.grew k, h.2⟩

/-- Nor is a block of another type a part of it. -/
theorem cells_apart {w : World} {o : Tr} {g : Nat} {cs : Array Value} {t : TypeId} {fr : Nat × Nat} (h : w.heap[g]? = some (.cells cs t fr)) (ht : TrIn w o) (h1 : t ≠ 74) (h2 : t ≠ 96) : ¬ trFoot o g := by
  cases o with
  | none => intro f; exact f
  | some x =>
    obtain ⟨p, g1, l⟩ := x
    obtain ⟨⟨u, s, hp, hg, hr, _⟩, _⟩ := ht
    intro hf
    rcases hf with rfl | hf
    · rw [hp] at h; simp only [Option.some.injEq, Obj.cells.injEq] at h; exact h1 h.2.1.symm
    · rcases hr.2 with ⟨rfl, _⟩ | ⟨g2, cap2, cur2, rfl, _, hgg2, _⟩
      · rw [← hg] at hf; cases hf
      · rw [← hg] at hf
        have e : g2 = g := by simpa [Value.ownBlock] using hf
        subst e
        rw [hgg2] at h; simp only [Option.some.injEq, Obj.cells.injEq] at h; exact h2 h.2.1.symm

/-- What is written into a new block that is no part of the trace. -/
theorem Did.wroteNew {w w' w2 : World} {o o' : Tr} {m : List Ev} {h : Nat} (d : Did w o m w' o') (k : Kept (fun b => b = h) w' w2) (hh : w.heap.size ≤ h) (hf : ¬ trFoot o' h) : Did w o m w2 o' := by
  refine ⟨d.1.next k (fun x hx e => by omega), ?_⟩
  rcases d.2 with h1 | ⟨p, g, l, g', e1, e2, ht, hg⟩
  · exact .inl h1
  · subst e2
    exact .inr ⟨p, g, l, g', e1, rfl, ht.kept k (fun e => hf (.inl e.symm)) (fun x hx e => hf (.inr (by rw [← e]; exact hx))), hg⟩

theorem tSpanDid (o : Tr) (n : Int) (w : World) (h : TrIn w o) :
    Calls Tryd.prog 49 #[trPtr o, .int .i64 n] w fun r w' => r = .returned (.tuple #[]) ∧ ∃ o', Did w o [(1, n, 0)] w' o' := by
  refine (tSpan o n w h).mono ?_
  rintro r w' ⟨rfl, hw⟩
  exact ⟨rfl, Did.of_wrote hw⟩

/-- v is a slice of words in a block of its own type. -/
def U64s (w : World) (v : Value) : Prop := ∀ b, v.ownBlock = some b → ∃ cs fr, w.heap[b]? = some (.cells cs 68 fr)

theorem U64s.own {w : World} {base n : Nat} {v : Value} {zs : List Nat} (h : OwnN .u64 68 w base v n zs) : U64s w v := by
  intro b hb
  rcases h.2 with ⟨rfl, _⟩ | ⟨g', cap, cur, rfl, _, hgg, _⟩
  · cases hb
  · have e : g' = b := by simpa [Value.ownBlock] using hb
    subst e
    exact ⟨_, _, hgg⟩

theorem U64s.kept {S : Nat → Prop} {w w' : World} {v : Value} (h : U64s w v) (k : Kept S w w') (hS : ∀ b, v.ownBlock = some b → ¬ S b) : U64s w' v := by
  intro b hb
  obtain ⟨cs, fr, hg⟩ := h b hb
  exact ⟨cs, fr, (k.block _ (lt_of_block hg) (hS b hb)).trans hg⟩

theorem U64s.grew {w w' : World} {v : Value} (h : U64s w v) (k : Kept Nought w w') : U64s w' v := h.kept k (fun _ _ f => f)

theorem U64s.nil (w : World) : U64s w (.slice none 0 0) := fun b hb => by cases hb

theorem U64s.did {w w' : World} {o o' : Tr} {m : List Ev} {v : Value} (h : U64s w v) (d : Did w o m w' o') (ht : TrIn w o) : U64s w' v :=
  h.kept d.kept (fun b hb => by
    obtain ⟨cs, fr, hg⟩ := h b hb
    exact cells_apart hg ht (by decide) (by decide))

end Go.Proofs.YtnhkfdbeacmepaaDoor

