/- A range over a function whose iterator has memory of its own, which it writes between two rounds: what the caller keeps through it speaks of memory that lay ahead of the loop alone. -/
import Derived.Test.YtegjdjfnpphipaaRnd1
namespace Go.Proofs.Ytegjdjfnpphipaa
open Go.RowKit Go.Shelf

/-- How a round ends: of memory only the blocks of Sb were written, and new ones. -/
def leftC {α : Type} (Sb : Nat → Prop) (I : List α → World → Prop) (Ix : Code → List α → World → Prop) (s : List α) (W : World) : Exit → Act → World → Prop
  | .normal, _, W' => Kept Sb W W' ∧ I s W'
  | .ret, _, W' => Kept Sb W W' ∧ Ix .ret s W'
  | .exit i, _, W' => Kept Sb W W' ∧ Ix (.exit i) s W'
  | .goto t, _, W' => Kept Sb W W' ∧ Ix (.goto t) s W'
  | .panic _, _, _ => False
  | .outgrown, _, _ => False

/-- What stands through everything that leaves memory below B alone. -/
def Low {β : Type} (B : Nat) (J : β → World → Prop) : Prop := ∀ s A C, J s A → Below B A C → J s C

/-- An iterator with memory of its own: what it hands out is told by X in the world of that call; a round leaves all but the blocks of Sb and the loop's two books (l and the one ahead of it). -/
def SeqC {α : Type} (n : Nat) (P : Program) (g : Nat) (lb : Array Value) (encs : α → Array Value) (X : List α → α → World → Prop) (Sb : Nat → Prop) (S : List α → Prop) (N : Nat) (w : World) : Prop :=
  ∀ (l : Nat) (J Jx : List α → World → Prop) (W : World), Kept Nought w W → l = w.heap.size + 1 → W.heap.size = w.heap.size + 2 →
    Low W.heap.size J → (∀ s A, J s A → s.length < N) →
    (∀ pre x A, J pre A → X pre x A → YieldAt Fence.wide (n - 1) P l (encs x) A fun e C =>
      (e = .returned (.bool true) ∧ J (pre ++ [x]) C ∧ Kept (fun b => Sb b ∨ b = l ∨ b + 1 = l) A C) ∨ (e = .returned (.bool false) ∧ Jx (pre ++ [x]) C)) →
    J [] W →
    CallsIn Fence.wide n P g (#[.func (.yield l) #[] #[]] ++ lb) W fun e C => (∃ v, e = .returned v) ∧ ((∃ s, S s ∧ J s C) ∨ ∃ s, Jx s C)

theorem low_put {W : World} {B l : Nat} (o : Obj) (h : B ≤ l) : Below B W (W.putObj l o) :=
  ⟨rfl, rfl, rfl, by simp, fun _ hk => World.putObj_heap_other (by omega)⟩

theorem kept_put (W : World) (l : Nat) (o : Obj) : Kept (fun b => b = l) W (W.putObj l o) :=
  ⟨rfl, rfl, rfl, by simp, fun _ _ hk => World.putObj_heap_other hk⟩

theorem row_put {k : IntKind} {W : World} {l : Nat} {o : Obj} {v : Value} {zs : List Nat} (o' : Obj) (h : Row k W v zs) (hl : W.heap[l]? = some o) (ho : o.isCells = false) : Row k (W.putObj l o') v zs := by
  obtain ⟨ao, cap, rfl, h1, h2, h3, h4⟩ := h
  refine ⟨ao, cap, rfl, h1, h2, h3, fun i hi => ?_⟩
  obtain ⟨b, off, rfl, hc⟩ := h4 i hi
  exact ⟨b, off, rfl, cell_kept hc (grownBy_putObj' W l o') (fun r e => by cases e; exact ⟨o, hl, ho⟩)⟩

theorem boxed_grew {w w' : World} {b : Nat} {t : TypeId} {v : Value} (h : Boxed w b t v) (k : Kept Nought w w') : Boxed w' b t v := (k.block _ h.lt (fun f => f)).trans h

theorem boxed_but {S : Nat → Prop} {w w' : World} {b : Nat} {t : TypeId} {v : Value} (h : Boxed w b t v) (k : Kept S w w') (hs : ¬ S b) : Boxed w' b t v := (k.block _ h.lt hs).trans h

/-- The loop's two books: at d the rounds' deferred calls (none), behind it the loop's own. -/
def Books (d : Nat) (r : Loop) (W : World) : Prop := W.heap[d + 1]? = some (.loop r) ∧ W.heap[d]? = some (.deferred (some []))

theorem Books.low {d : Nat} {r : Loop} {A C : World} (h : Books d r A) (k : Below (d + 2) A C) : Books d r C :=
  ⟨(k.block _ (by omega)).trans h.1, (k.block _ (by omega)).trans h.2⟩

theorem Books.lt {d : Nat} {r : Loop} {A : World} (h : Books d r A) : d + 1 < A.heap.size := (Array.getElem?_eq_some_iff.1 h.1).1

theorem Books.put {d : Nat} {r : Loop} {A : World} (h : Books d r A) (r' : Loop) : Books d r' (A.putObj (d + 1) (.loop r')) :=
  ⟨World.putObj_heap_same h.lt, (World.putObj_heap_other (by omega)).trans h.2⟩

theorem Books.kept {d : Nat} {r : Loop} {A C : World} {Sb : Nat → Prop} (h : Books d r A) (k : Kept Sb A C) (hs : ∀ b, Sb b → b < d) : Books d r C := by
  have hl := h.lt
  exact ⟨(k.block _ hl (fun e => by have := hs _ e; omega)).trans h.1, (k.block _ (by omega) (fun e => by have := hs _ e; omega)).trans h.2⟩

/-- A range over such a function. -/
theorem wpIn_range_cells {α : Type} {P : Program} {n : Nat} {g : Operand} {ps : Array Tmp} {assign body : Code} {Q : Exit → Act → World → Prop} {a : Act} {w : World} (h1 : 1 ≤ n) {gf : Nat} {lb : Array Value}
    (hg : a.eval g = .func (.func gf) #[] lb) (eg : ∀ args w, (callFunc gf args).run P w = .ok (.enter gf args) w)
    {encs : α → Array Value} {X : List α → α → World → Prop} {Sb : Nat → Prop} {S : List α → Prop} {N : Nat} (hseq : SeqC (n - 1) P gf lb encs X Sb S N w) (hps : ∀ x, (encs x).size = ps.size) (hSb : ∀ b, Sb b → b < w.heap.size)
    (hX : ∀ pre x A l o o', X pre x A → A.heap[l]? = some o → o.isCells = false → X pre x (A.putObj l o'))
    (I : List α → World → Prop) (Ix : Code → List α → World → Prop) (hI : Low w.heap.size I) (hIx : ∀ c, Low w.heap.size (Ix c)) (hN : ∀ s A, I s A → s.length < N) (h0 : I [] w) (a₁ : α → Act)
    (hassign : ∀ (l : Nat) (x : α) (W : World) (K : Act → World → Prop), K (a₁ x) W → assign.wpIn (Fence.wide.inRound l) (n - 1 - 1) P (Exit.then K (fun _ _ _ => False)) { tmps := (ps.zip (encs x)).foldl (fun t (p, v) => t.setIfInBounds p v) a.tmps, defers := [] } W)
    (hbody : ∀ (l : Nat) (pre : List α) (x : α) (W : World), I pre W → X pre x W → body.wpIn (Fence.wide.inRound l) (n - 1 - 1) P (leftC Sb I Ix (pre ++ [x]) W) (a₁ x) W)
    (hdone : ∀ (D : Nat) (s : List α) (W : World), w.heap.size ≤ D → S s → I s W → W.heap[D]? = some (.deferred (some [])) → Q .normal { a with defers := { target := .collected D, args := #[] } :: a.defers } W)
    (hstop : ∀ (D : Nat) (c : Code) (s : List α) (W : World), w.heap.size ≤ D → Ix c s W → W.heap[D]? = some (.deferred (some [])) → c.wpIn Fence.wide n P Q { a with defers := { target := .collected D, args := #[] } :: a.defers } W) :
    (Code.rangeFunc g ps assign body).wpIn Fence.wide n P Q a w := by
  refine wpIn_rangeFunc fun fn hfn => ?_
  obtain ⟨rec, hrec⟩ : ∃ rec : LoopState → Option Code → Loop, rec = fun st pe => { state := st, pending := pe, fn, tmps := a.tmps, params := ps, assign, body, defers := w.heap.size } := ⟨_, rfl⟩
  obtain ⟨W1, hW1⟩ : ∃ W1, W1 = (w.alloc (.deferred (some []))).alloc (.loop (rec .ready none)) := ⟨_, rfl⟩
  have hs1 : W1.heap.size = w.heap.size + 2 := by rw [hW1]; simp
  have hk1 : Kept Nought w W1 := by rw [hW1]; exact ((Kept.refl _ w).alloc _).alloc _
  have hb1 : Books w.heap.size (rec .ready none) W1 := by
    rw [hW1]
    refine ⟨?_, (Below.heap_alloc _ _ _ (by simp)).trans (World.alloc_heap_new w _)⟩
    have := World.alloc_heap_new (w.alloc (.deferred (some []))) (.loop (rec .ready none))
    rwa [World.size_alloc] at this
  refine ⟨w.heap.size + 1, [{ target := .collected w.heap.size, args := #[] }], W1, { target := .fn (.func gf) lb, args := #[.func (.yield (w.heap.size + 1)) #[] #[]] }, W1, gf, #[.func (.yield (w.heap.size + 1)) #[] #[]] ++ lb, W1, ?_, ?_, fun _ _ => trivial, ?_, fun _ => h1, ?_⟩
  · rw [hW1, hrec]
    exact run_enterLoop_outer _ _ _ _ _
  · simp only [resolve, hg]
    simp [go_sem]
  · simp [invoke, go_sem, eg]
  · have turn : ∀ (jump : Option Code) (A : World), Books w.heap.size (rec .busy none) A → ∃ C, (Instr.endRound (w.heap.size + 1) jump).run P A = .ok (.bool jump.isNone) C ∧ Books w.heap.size (rec (if jump.isNone then .ready else .done) jump) C ∧ Below w.heap.size A C ∧ Kept (fun b => b = w.heap.size + 1) A C := fun jump A hb => by
      refine ⟨_, run_endRound (P := P) jump hb.1, ?_, low_put _ (by omega), kept_put _ _ _⟩
      have := hb.put { rec .busy none with state := if jump.isNone then .ready else .done, pending := jump }
      rw [hrec] at this ⊢
      exact this
    have hLow : ∀ {β : Type} {J : β → World → Prop} {r : Loop}, Low w.heap.size J → Low W1.heap.size (fun s A => J s A ∧ Books w.heap.size r A) := fun hJ s A C h k => by
      rw [hs1] at k
      exact ⟨hJ s A C h.1 (k.mono (by omega)), h.2.low k⟩
    refine (hseq (w.heap.size + 1) (fun s A => I s A ∧ Books w.heap.size (rec .ready none) A) (fun s A => ∃ c, Ix c s A ∧ Books w.heap.size (rec .done (some c)) A) W1 hk1 rfl hs1 (hLow hI) (fun s A h => hN s A h.1) ?_ ⟨hI _ _ _ h0 (below_kept hk1 (Nat.le_refl _)), hb1⟩).mono ?_
    · rintro pre x A ⟨hi, hb⟩ hx
      have hy := run_yield (P := P) (args := encs x) hb.1 (by rw [hrec]; exact hps x)
      rw [hrec] at hy
      refine ⟨fn, _, assign, body, hy, roundIn_of_wpIn hfn (hassign _ x A _ ⟨_, run_beginRound hb.1 (by rw [hrec]), ?_⟩)⟩
      have hb2 := hb.put { rec .ready none with state := .busy }
      have hx2 := hX pre x A _ _ (.loop { rec .ready none with state := .busy }) hx hb.1 rfl
      have hi2 := hI _ _ _ hi (low_put (l := w.heap.size + 1) (.loop { rec .ready none with state := .busy }) (by omega))
      have hk2 := kept_put A (w.heap.size + 1) (.loop { rec .ready none with state := .busy })
      have hb3 : ∀ C, Kept Sb (A.putObj (w.heap.size + 1) (.loop { rec .ready none with state := .busy })) C → Books w.heap.size (rec .busy none) C := fun C k => by
        have := hb2.kept k hSb
        rw [hrec] at this ⊢
        exact this
      refine wpIn_mono (hbody _ pre x _ hi2 hx2) ?_
      generalize A.putObj (w.heap.size + 1) (.loop { rec .ready none with state := .busy }) = A2 at *
      have out : ∀ (c : Code) (C : World), Kept Sb A2 C → Ix c (pre ++ [x]) C → ∃ v C', (Instr.endRound (w.heap.size + 1) (some c)).run P C = .ok v C' ∧ ((Ending.returned v = .returned (.bool true) ∧ (I (pre ++ [x]) C' ∧ Books w.heap.size (rec .ready none) C') ∧ Kept (fun b => Sb b ∨ b = w.heap.size + 1 ∨ b + 1 = w.heap.size + 1) A C') ∨ (Ending.returned v = .returned (.bool false) ∧ ∃ c, Ix c (pre ++ [x]) C' ∧ Books w.heap.size (rec .done (some c)) C')) := fun c C k hc => by
        obtain ⟨C', hr, hb4, hl4, hk4⟩ := turn (some c) C (hb3 C k)
        exact ⟨_, _, hr, .inr ⟨rfl, c, hIx c _ _ _ hc hl4, hb4⟩⟩
      rintro e a3 C hp
      cases e with
      | normal =>
        obtain ⟨k, hi3⟩ := hp
        obtain ⟨C', hr, hb4, hl4, hk4⟩ := turn none C (hb3 C k)
        exact ⟨_, _, hr, .inl ⟨rfl, ⟨hI _ _ _ hi3 hl4, hb4⟩, ((hk2.mono (fun _ _ e => .inr (.inl e))).next k (fun _ _ e => .inl e)).next hk4 (fun _ _ e => .inr (.inl e))⟩⟩
      | ret => exact out _ C hp.1 hp.2
      | exit i => exact out _ C hp.1 hp.2
      | goto t => exact out _ C hp.1 hp.2
      | panic c => exact hp.elim
      | outgrown => exact hp.elim
    · rintro e C ⟨⟨v, rfl⟩, (⟨s, hS, hi, hb⟩ | ⟨s, c, hi, hb⟩)⟩
      · refine ⟨_, _, run_endLoop (P := P) hb.1 (by rw [hrec]; simp), ?_⟩
        rw [hrec] at hb ⊢
        exact hdone _ s _ (Nat.le_refl _) hS (hI _ _ _ hi (low_put _ (by omega))) ((World.putObj_heap_other (by omega)).trans hb.2)
      · refine ⟨_, _, run_endLoop (P := P) hb.1 (by rw [hrec]; simp), ?_⟩
        rw [hrec] at hb ⊢
        exact hstop _ c s _ (Nat.le_refl _) (hIx c _ _ _ hi (low_put _ (by omega))) ((World.putObj_heap_other (by omega)).trans hb.2)

end Go.Proofs.Ytegjdjfnpphipaa
