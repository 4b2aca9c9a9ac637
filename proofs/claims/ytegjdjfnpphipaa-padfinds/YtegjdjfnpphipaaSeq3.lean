/- A range over a function whose iterator writes old memory too (the blocks of T): what the caller keeps through it speaks of other memory alone; how the iterator ends, and what it hands out, may speak of all. -/
import Derived.Test.YtegjdjfnpphipaaSeq2
namespace Go.Proofs.Ytegjdjfnpphipaa
open Go.RowKit Go.Shelf

/-- What stands through everything that leaves memory below B alone, but for the blocks of T. -/
def LowT {β : Type} (B : Nat) (T : Nat → Prop) (J : β → World → Prop) : Prop := ∀ s A C, J s A → Kept (fun x => T x ∨ B ≤ x) A C → J s C

theorem below_keptT {A C : World} {B : Nat} {T : Nat → Prop} (h : Below B A C) : Kept (fun x => T x ∨ B ≤ x) A C :=
  ⟨h.os, h.tape, h.output, h.size, fun i _ hs => h.block i (Nat.lt_of_not_le fun e => hs (.inr e))⟩

theorem LowT.below {β : Type} {B : Nat} {T : Nat → Prop} {J : β → World → Prop} (h : LowT B T J) {s : β} {A C : World} (j : J s A) (k : Below B A C) : J s C := h s A C j (below_keptT k)

/-- What stands while the loop's own books are turned. -/
def Turns {β : Type} (B : Nat) (J : β → World → Prop) : Prop := ∀ s A l o o', J s A → B ≤ l → A.heap[l]? = some o → o.isCells = false → J s (A.putObj l o')

/-- An iterator that writes the blocks of T, and new memory; what it hands out is told by X in the world of that call, how it ends by S. -/
def SeqT {α : Type} (n : Nat) (P : Program) (g : Nat) (lb : Array Value) (encs : α → Array Value) (X : List α → α → World → Prop) (Sb T : Nat → Prop) (S : List α → World → Prop) (w : World) : Prop :=
  ∀ (l : Nat) (J Jx : List α → World → Prop) (W : World), Kept Nought w W → l = w.heap.size + 1 → W.heap.size = w.heap.size + 2 →
    LowT W.heap.size T J →
    (∀ pre x A, J pre A → X pre x A → YieldAt Fence.wide (n - 1) P l (encs x) A fun e C =>
      (e = .returned (.bool true) ∧ J (pre ++ [x]) C ∧ Kept (fun b => Sb b ∨ b = l ∨ b + 1 = l) A C) ∨ (e = .returned (.bool false) ∧ Jx (pre ++ [x]) C)) →
    J [] W →
    CallsIn Fence.wide n P g (#[.func (.yield l) #[] #[]] ++ lb) W fun e C => (∃ v, e = .returned v) ∧ ((∃ s, S s C ∧ J s C) ∨ ∃ s, Jx s C)

/-- A range over such a function. -/
theorem wpIn_range_old {α : Type} {P : Program} {n : Nat} {g : Operand} {ps : Array Tmp} {assign body : Code} {Q : Exit → Act → World → Prop} {a : Act} {w : World} (h1 : 1 ≤ n) {gf : Nat} {lb : Array Value}
    (hg : a.eval g = .func (.func gf) #[] lb) (eg : ∀ args w, (callFunc gf args).run P w = .ok (.enter gf args) w)
    {encs : α → Array Value} {X : List α → α → World → Prop} {Sb T : Nat → Prop} {S : List α → World → Prop} (hseq : SeqT (n - 1) P gf lb encs X Sb T S w) (hps : ∀ x, (encs x).size = ps.size) (hSb : ∀ b, Sb b → b < w.heap.size) (hT : ∀ b, T b → b < w.heap.size)
    (hX : ∀ pre x A l o o', X pre x A → A.heap[l]? = some o → o.isCells = false → X pre x (A.putObj l o'))
    (I : List α → World → Prop) (Ix : Code → List α → World → Prop) (hI : LowT w.heap.size T I) (hIx : ∀ c, Turns w.heap.size (Ix c)) (hS : Turns w.heap.size S) (h0 : I [] w) (a₁ : α → Act)
    (hassign : ∀ (l : Nat) (x : α) (W : World) (K : Act → World → Prop), K (a₁ x) W → assign.wpIn (Fence.wide.inRound l) (n - 1 - 1) P (Exit.then K (fun _ _ _ => False)) { tmps := (ps.zip (encs x)).foldl (fun t (p, v) => t.setIfInBounds p v) a.tmps, defers := [] } W)
    (hbody : ∀ (l : Nat) (pre : List α) (x : α) (W : World), I pre W → X pre x W → body.wpIn (Fence.wide.inRound l) (n - 1 - 1) P (leftC Sb I Ix (pre ++ [x]) W) (a₁ x) W)
    (hdone : ∀ (D : Nat) (s : List α) (W : World), w.heap.size ≤ D → S s W → I s W → W.heap[D]? = some (.deferred (some [])) → Q .normal { a with defers := { target := .collected D, args := #[] } :: a.defers } W)
    (hstop : ∀ (D : Nat) (c : Code) (s : List α) (W : World), w.heap.size ≤ D → Ix c s W → W.heap[D]? = some (.deferred (some [])) → c.wpIn Fence.wide n P Q { a with defers := { target := .collected D, args := #[] } :: a.defers } W) :
    (Code.rangeFunc g ps assign body).wpIn Fence.wide n P Q a w := by
  refine wpIn_rangeFunc fun fn hfn => ?_
  obtain ⟨rec, hrec⟩ : ∃ rec : LoopState → Option Code → Loop, rec = fun st pe => { state := st, pending := pe, fn, tmps := a.tmps, params := ps, assign, body, defers := w.heap.size } := ⟨_, rfl⟩
  obtain ⟨W1, hW1⟩ : ∃ W1, W1 = (w.alloc (.deferred (some []))).alloc (.loop (rec .ready none)) := ⟨_, rfl⟩
  have hs1 : W1.heap.size = w.heap.size + 2 := by rw [hW1]; simp
  have hk1 : Kept Nought w W1 := by rw [hW1]; exact ((Kept.refl _ w).alloc _).alloc _
  have hb1 : Books w.heap.size (rec .ready none) W1 := by
    rw [hW1]
    refine ⟨?_, (Below.heap_alloc _ _ _ (by simp)).trans (World.alloc_heap_new w _)⟩
    have := World.alloc_heap_new (w.alloc (.deferred (some []))) (.loop (rec .ready none))
    rwa [World.size_alloc] at this
  refine ⟨w.heap.size + 1, [{ target := .collected w.heap.size, args := #[] }], W1, { target := .fn (.func gf) lb, args := #[.func (.yield (w.heap.size + 1)) #[] #[]] }, W1, gf, #[.func (.yield (w.heap.size + 1)) #[] #[]] ++ lb, W1, ?_, ?_, fun _ _ => trivial, ?_, fun _ => h1, ?_⟩
  · rw [hW1, hrec]
    exact run_enterLoop_outer _ _ _ _ _
  · simp only [resolve, hg]
    simp [go_sem]
  · simp [invoke, go_sem, eg]
  · have turn : ∀ (jump : Option Code) (A : World), Books w.heap.size (rec .busy none) A → ∃ C, (Instr.endRound (w.heap.size + 1) jump).run P A = .ok (.bool jump.isNone) C ∧ Books w.heap.size (rec (if jump.isNone then .ready else .done) jump) C ∧ Below w.heap.size A C ∧ Kept (fun b => b = w.heap.size + 1) A C ∧ ∃ o', C = A.putObj (w.heap.size + 1) o' := fun jump A hb => by
      refine ⟨_, run_endRound (P := P) jump hb.1, ?_, low_put _ (by omega), kept_put _ _ _, _, rfl⟩
      have := hb.put { rec .busy none with state := if jump.isNone then .ready else .done, pending := jump }
      rw [hrec] at this ⊢
      exact this
    have hLow : ∀ {β : Type} {J : β → World → Prop} {r : Loop}, LowT w.heap.size T J → LowT W1.heap.size T (fun s A => J s A ∧ Books w.heap.size r A) := fun hJ s A C h k => by
      rw [hs1] at k
      refine ⟨hJ s A C h.1 (k.mono (fun x _ e => ?_)), ?_⟩
      · rcases e with e | e
        · exact .inl e
        · exact .inr (by omega)
      · have hl := h.2.lt
        refine ⟨(k.block _ (by omega) ?_).trans h.2.1, (k.block _ (by omega) ?_).trans h.2.2⟩
        all_goals
          rintro (e | e)
          · have := hT _ e
            omega
          · omega
    refine (hseq (w.heap.size + 1) (fun s A => I s A ∧ Books w.heap.size (rec .ready none) A) (fun s A => ∃ c, Ix c s A ∧ Books w.heap.size (rec .done (some c)) A) W1 hk1 rfl hs1 (hLow hI) ?_ ⟨hI.below h0 (below_kept hk1 (Nat.le_refl _)), hb1⟩).mono ?_
    · rintro pre x A ⟨hi, hb⟩ hx
      have hy := run_yield (P := P) (args := encs x) hb.1 (by rw [hrec]; exact hps x)
      rw [hrec] at hy
      refine ⟨fn, _, assign, body, hy, roundIn_of_wpIn hfn (hassign _ x A _ ⟨_, run_beginRound hb.1 (by rw [hrec]), ?_⟩)⟩
      have hb2 := hb.put { rec .ready none with state := .busy }
      have hx2 := hX pre x A _ _ (.loop { rec .ready none with state := .busy }) hx hb.1 rfl
      have hi2 := hI.below hi (low_put (l := w.heap.size + 1) (.loop { rec .ready none with state := .busy }) (by omega))
      have hk2 := kept_put A (w.heap.size + 1) (.loop { rec .ready none with state := .busy })
      have hb3 : ∀ C, Kept Sb (A.putObj (w.heap.size + 1) (.loop { rec .ready none with state := .busy })) C → Books w.heap.size (rec .busy none) C := fun C k => by
        have := hb2.kept k hSb
        rw [hrec] at this ⊢
        exact this
      refine wpIn_mono (hbody _ pre x _ hi2 hx2) ?_
      generalize A.putObj (w.heap.size + 1) (.loop { rec .ready none with state := .busy }) = A2 at *
      have out : ∀ (c : Code) (C : World), Kept Sb A2 C → Ix c (pre ++ [x]) C → ∃ v C', (Instr.endRound (w.heap.size + 1) (some c)).run P C = .ok v C' ∧ ((Ending.returned v = .returned (.bool true) ∧ (I (pre ++ [x]) C' ∧ Books w.heap.size (rec .ready none) C') ∧ Kept (fun b => Sb b ∨ b = w.heap.size + 1 ∨ b + 1 = w.heap.size + 1) A C') ∨ (Ending.returned v = .returned (.bool false) ∧ ∃ c, Ix c (pre ++ [x]) C' ∧ Books w.heap.size (rec .done (some c)) C')) := fun c C k hc => by
        obtain ⟨C', hr, hb4, _, _, o', rfl⟩ := turn (some c) C (hb3 C k)
        exact ⟨_, _, hr, .inr ⟨rfl, c, hIx c _ _ _ _ o' hc (by omega) (hb3 C k).1 rfl, hb4⟩⟩
      rintro e a3 C hp
      cases e with
      | normal =>
        obtain ⟨k, hi3⟩ := hp
        obtain ⟨C', hr, hb4, hl4, hk4, _⟩ := turn none C (hb3 C k)
        exact ⟨_, _, hr, .inl ⟨rfl, ⟨hI.below hi3 hl4, hb4⟩, ((hk2.mono (fun _ _ e => .inr (.inl e))).next k (fun _ _ e => .inl e)).next hk4 (fun _ _ e => .inr (.inl e))⟩⟩
      | ret => exact out _ C hp.1 hp.2
      | exit i => exact out _ C hp.1 hp.2
      | goto t => exact out _ C hp.1 hp.2
      | panic c => exact hp.elim
      | outgrown => exact hp.elim
    · rintro e C ⟨⟨v, rfl⟩, (⟨s, hSs, hi, hb⟩ | ⟨s, c, hi, hb⟩)⟩
      · refine ⟨_, _, run_endLoop (P := P) hb.1 (by rw [hrec]; simp), ?_⟩
        rw [hrec] at hb ⊢
        exact hdone _ s _ (Nat.le_refl _) (hS _ _ _ _ _ hSs (by omega) hb.1 rfl) (hI.below hi (low_put _ (by omega))) ((World.putObj_heap_other (by omega)).trans hb.2)
      · refine ⟨_, _, run_endLoop (P := P) hb.1 (by rw [hrec]; simp), ?_⟩
        rw [hrec] at hb ⊢
        exact hstop _ c s _ (Nat.le_refl _) (hIx c _ _ _ _ _ hi (by omega) hb.1 rfl) ((World.putObj_heap_other (by omega)).trans hb.2)

end Go.Proofs.Ytegjdjfnpphipaa
