/- Put together of: Seq2 Has2 Mgf2 Has1. -/
import Derived.Test.YtnhkfdbeacmepaaDoorPk10
import Derived.Test.YtnhkfdbeacmepaaDoorPk19
import Derived.Test.YtnhkfdbeacmepaaDoorPk21
import Derived.Lib.LaidU8

/- A range over a function whose iterator has memory of its own, which it writes between two rounds: what the caller keeps through it speaks of memory that lay ahead of the loop alone. -/
namespace Go.Proofs.YtnhkfdbeacmepaaDoor
open Go.RowKit Go.Shelf

/-- How a round ends: of memory only the blocks of Sb were written, and new ones. -/
def leftC {α : Type} (Sb : Nat → Prop) (I : List α → World → Prop) (Ix : Code → List α → World → Prop) (s : List α) (W : World) : Exit → Act → World → Prop
  | .normal, _, W' => Kept Sb W W' ∧ I s W'
  | .ret, _, W' => Kept Sb W W' ∧ Ix .ret s W'
  | .exit i, _, W' => Kept Sb W W' ∧ Ix (.exit i) s W'
  | .goto t, _, W' => Kept Sb W W' ∧ Ix (.goto t) s W'
  | .panic _, _, _ => False
  | .outgrown, _, _ => False

/-- What stands through everything that leaves memory below B alone. -/
def Low {β : Type} (B : Nat) (J : β → World → Prop) : Prop := ∀ s A C, J s A → Below B A C → J s C

/-- An iterator with memory of its own: what it hands out is told by X in the world of that call; a round leaves all but the blocks of Sb and the loop's two books (l and the one ahead of it). -/
def SeqC {α : Type} (n : Nat) (P : Program) (g : Nat) (lb : Array Value) (encs : α → Array Value) (X : List α → α → World → Prop) (Sb : Nat → Prop) (S : List α → Prop) (N : Nat) (w : World) : Prop :=
  ∀ (l : Nat) (J Jx : List α → World → Prop) (W : World), Kept Nought w W → l = w.heap.size + 1 → W.heap.size = w.heap.size + 2 →
    Low W.heap.size J → (∀ s A, J s A → s.length < N) →
    (∀ pre x A, J pre A → X pre x A → YieldAt Fence.wide (n - 1) P l (encs x) A fun e C =>
      (e = .returned (.bool true) ∧ J (pre ++ [x]) C ∧ Kept (fun b => Sb b ∨ b = l ∨ b + 1 = l) A C) ∨ (e = .returned (.bool false) ∧ Jx (pre ++ [x]) C)) →
    J [] W →
    CallsIn Fence.wide n P g (#[.func (.yield l) #[] #[]] ++ lb) W fun e C => (∃ v, e = .returned v) ∧ ((∃ s, S s ∧ J s C) ∨ ∃ s, Jx s C)

theorem low_put {W : World} {B l : Nat} (o : Obj) (h : B ≤ l) : Below B W (W.putObj l o) :=
  ⟨rfl, rfl, rfl, by simp, fun _ hk => World.putObj_heap_other (by omega)⟩

theorem kept_put (W : World) (l : Nat) (o : Obj) : Kept (fun b => b = l) W (W.putObj l o) :=
  ⟨rfl, rfl, rfl, by simp, fun _ _ hk => World.putObj_heap_other hk⟩

theorem row_put {k : IntKind} {W : World} {l : Nat} {o : Obj} {v : Value} {zs : List Nat} (o' : Obj) (h : Row k W v zs) (hl : W.heap[l]? = some o) (ho : o.isCells = false) : Row k (W.putObj l o') v zs := by
  obtain ⟨ao, cap, rfl, h1, h2, h3, h4⟩ := h
  refine ⟨ao, cap, rfl, h1, h2, h3, fun i hi => ?_⟩
  obtain ⟨b, off, rfl, hc⟩ := h4 i hi
  exact ⟨b, off, rfl, cell_kept hc (grownBy_putObj' W l o') (fun r e => by cases e; exact ⟨o, hl, ho⟩)⟩

theorem boxed_grew {w w' : World} {b : Nat} {t : TypeId} {v : Value} (h : Boxed w b t v) (k : Kept Nought w w') : Boxed w' b t v := (k.block _ h.lt (fun f => f)).trans h

theorem boxed_but {S : Nat → Prop} {w w' : World} {b : Nat} {t : TypeId} {v : Value} (h : Boxed w b t v) (k : Kept S w w') (hs : ¬ S b) : Boxed w' b t v := (k.block _ h.lt hs).trans h

/-- The loop's two books: at d the rounds' deferred calls (none), behind it the loop's own. -/
def Books (d : Nat) (r : Loop) (W : World) : Prop := W.heap[d + 1]? = some (.loop r) ∧ W.heap[d]? = some (.deferred (some []))

theorem Books.low {d : Nat} {r : Loop} {A C : World} (h : Books d r A) (k : Below (d + 2) A C) : Books d r C :=
  ⟨(k.block _ (by omega)).trans h.1, (k.block _ (by omega)).trans h.2⟩

theorem Books.lt {d : Nat} {r : Loop} {A : World} (h : Books d r A) : d + 1 < A.heap.size := (Array.getElem?_eq_some_iff.1 h.1).1

theorem Books.put {d : Nat} {r : Loop} {A : World} (h : Books d r A) (r' : Loop) : Books d r' (A.putObj (d + 1) (.loop r')) :=
  ⟨World.putObj_heap_same h.lt, (World.putObj_heap_other (by omega)).trans h.2⟩

theorem Books.kept {d : Nat} {r : Loop} {A C : World} {Sb : Nat → Prop} (h : Books d r A) (k : Kept Sb A C) (hs : ∀ b, Sb b → b < d) : Books d r C := by
  have hl := h.lt
  exact ⟨(k.block _ hl (fun e => by have := hs _ e; omega)).trans h.1, (k.block _ (by omega) (fun e => by have := hs _ e; omega)).trans h.2⟩

/-- A range over such a function. -/
theorem wpIn_range_cells {α : Type} {P : Program} {n : Nat} {g : Operand} {ps : Array Tmp} {assign body : Code} {Q : Exit → Act → World → Prop} {a : Act} {w : World} (h1 : 1 ≤ n) {gf : Nat} {lb : Array Value}
    (hg : a.eval g = .func (.func gf) #[] lb) (eg : ∀ args w, (callFunc gf args).run P w = .ok (.enter gf args) w)
    {encs : α → Array Value} {X : List α → α → World → Prop} {Sb : Nat → Prop} {S : List α → Prop} {N : Nat} (hseq : SeqC (n - 1) P gf lb encs X Sb S N w) (hps : ∀ x, (encs x).size = ps.size) (hSb : ∀ b, Sb b → b < w.heap.size)
    (hX : ∀ pre x A l o o', X pre x A → A.heap[l]? = some o → o.isCells = false → X pre x (A.putObj l o'))
    (I : List α → World → Prop) (Ix : Code → List α → World → Prop) (hI : Low w.heap.size I) (hIx : ∀ c, Low w.heap.size (Ix c)) (hN : ∀ s A, I s A → s.length < N) (h0 : I [] w) (a₁ : α → Act)
    (hassign : ∀ (l : Nat) (x : α) (W : World) (K : Act → World → Prop), K (a₁ x) W → assign.wpIn (Fence.wide.inRound l) (n - 1 - 1) P (Exit.then K (fun _ _ _ => False)) { tmps := (ps.zip (encs x)).foldl (fun t (p, v) => t.setIfInBounds p v) a.tmps, defers := [] } W)
    (hbody : ∀ (l : Nat) (pre : List α) (x : α) (W : World), I pre W → X pre x W → body.wpIn (Fence.wide.inRound l) (n - 1 - 1) P (leftC Sb I Ix (pre ++ [x]) W) (a₁ x) W)
    (hdone : ∀ (D : Nat) (s : List α) (W : World), w.heap.size ≤ D → S s → I s W → W.heap[D]? = some (.deferred (some [])) → Q .normal { a with defers := { target := .collected D, args := #[] } :: a.defers } W)
    (hstop : ∀ (D : Nat) (c : Code) (s : List α) (W : World), w.heap.size ≤ D → Ix c s W → W.heap[D]? = some (.deferred (some [])) → c.wpIn Fence.wide n P Q { a with defers := { target := .collected D, args := #[] } :: a.defers } W) :
    (Code.rangeFunc g ps assign body).wpIn Fence.wide n P Q a w := by
  refine wpIn_rangeFunc fun fn hfn => ?_
  obtain ⟨rec, hrec⟩ : ∃ rec : LoopState → Option Code → Loop, rec = fun st pe => { state := st, pending := pe, fn, tmps := a.tmps, params := ps, assign, body, defers := w.heap.size } := ⟨_, rfl⟩
  obtain ⟨W1, hW1⟩ : ∃ W1, W1 = (w.alloc (.deferred (some []))).alloc (.loop (rec .ready none)) := ⟨_, rfl⟩
  have hs1 : W1.heap.size = w.heap.size + 2 := by rw [hW1]; simp
  have hk1 : Kept Nought w W1 := by rw [hW1]; exact ((Kept.refl _ w).alloc _).alloc _
  have hb1 : Books w.heap.size (rec .ready none) W1 := by
    rw [hW1]
    refine ⟨?_, (Below.heap_alloc _ _ _ (by simp)).trans (World.alloc_heap_new w _)⟩
    have := World.alloc_heap_new (w.alloc (.deferred (some []))) (.loop (rec .ready none))
    rwa [World.size_alloc] at this
  refine ⟨w.heap.size + 1, [{ target := .collected w.heap.size, args := #[] }], W1, { target := .fn (.func gf) lb, args := #[.func (.yield (w.heap.size + 1)) #[] #[]] }, W1, gf, #[.func (.yield (w.heap.size + 1)) #[] #[]] ++ lb, W1, ?_, ?_, fun _ _ => trivial, ?_, fun _ => h1, ?_⟩
  · rw [hW1, hrec]
    exact run_enterLoop_outer _ _ _ _ _
  · simp only [resolve, hg]
    simp [go_sem]
  · simp [invoke, go_sem, eg]
  · have turn : ∀ (jump : Option Code) (A : World), Books w.heap.size (rec .busy none) A → ∃ C, (Instr.endRound (w.heap.size + 1) jump).run P A = .ok (.bool jump.isNone) C ∧ Books w.heap.size (rec (if jump.isNone then .ready else .done) jump) C ∧ Below w.heap.size A C ∧ Kept (fun b => b = w.heap.size + 1) A C := fun jump A hb => by
      refine ⟨_, run_endRound (P := P) jump hb.1, ?_, low_put _ (by omega), kept_put _ _ _⟩
      have := hb.put { rec .busy none with state := if jump.isNone then .ready else .done, pending := jump }
      rw [hrec] at this ⊢
      exact this
    have hLow : ∀ {β : Type} {J : β → World → Prop} {r : Loop}, Low w.heap.size J → Low W1.heap.size (fun s A => J s A ∧ Books w.heap.size r A) := fun hJ s A C h k => by
      rw [hs1] at k
      exact ⟨hJ s A C h.1 (k.mono (by omega)), h.2.low k⟩
    refine (hseq (w.heap.size + 1) (fun s A => I s A ∧ Books w.heap.size (rec .ready none) A) (fun s A => ∃ c, Ix c s A ∧ Books w.heap.size (rec .done (some c)) A) W1 hk1 rfl hs1 (hLow hI) (fun s A h => hN s A h.1) ?_ ⟨hI _ _ _ h0 (below_kept hk1 (Nat.le_refl _)), hb1⟩).mono ?_
    · rintro pre x A ⟨hi, hb⟩ hx
      have hy := run_yield (P := P) (args := encs x) hb.1 (by rw [hrec]; exact hps x)
      rw [hrec] at hy
      refine ⟨fn, _, assign, body, hy, roundIn_of_wpIn hfn (hassign _ x A _ ⟨_, run_beginRound hb.1 (by rw [hrec]), ?_⟩)⟩
      have hb2 := hb.put { rec .ready none with state := .busy }
      have hx2 := hX pre x A _ _ (.loop { rec .ready none with state := .busy }) hx hb.1 rfl
      have hi2 := hI _ _ _ hi (low_put (l := w.heap.size + 1) (.loop { rec .ready none with state := .busy }) (by omega))
      have hk2 := kept_put A (w.heap.size + 1) (.loop { rec .ready none with state := .busy })
      have hb3 : ∀ C, Kept Sb (A.putObj (w.heap.size + 1) (.loop { rec .ready none with state := .busy })) C → Books w.heap.size (rec .busy none) C := fun C k => by
        have := hb2.kept k hSb
        rw [hrec] at this ⊢
        exact this
      refine wpIn_mono (hbody _ pre x _ hi2 hx2) ?_
      generalize A.putObj (w.heap.size + 1) (.loop { rec .ready none with state := .busy }) = A2 at *
      have out : ∀ (c : Code) (C : World), Kept Sb A2 C → Ix c (pre ++ [x]) C → ∃ v C', (Instr.endRound (w.heap.size + 1) (some c)).run P C = .ok v C' ∧ ((Ending.returned v = .returned (.bool true) ∧ (I (pre ++ [x]) C' ∧ Books w.heap.size (rec .ready none) C') ∧ Kept (fun b => Sb b ∨ b = w.heap.size + 1 ∨ b + 1 = w.heap.size + 1) A C') ∨ (Ending.returned v = .returned (.bool false) ∧ ∃ c, Ix c (pre ++ [x]) C' ∧ Books w.heap.size (rec .done (some c)) C')) := fun c C k hc => by
        obtain ⟨C', hr, hb4, hl4, hk4⟩ := turn (some c) C (hb3 C k)
        exact ⟨_, _, hr, .inr ⟨rfl, c, hIx c _ _ _ hc hl4, hb4⟩⟩
      rintro e a3 C hp
      cases e with
      | normal =>
        obtain ⟨k, hi3⟩ := hp
        obtain ⟨C', hr, hb4, hl4, hk4⟩ := turn none C (hb3 C k)
        exact ⟨_, _, hr, .inl ⟨rfl, ⟨hI _ _ _ hi3 hl4, hb4⟩, ((hk2.mono (fun _ _ e => .inr (.inl e))).next k (fun _ _ e => .inl e)).next hk4 (fun _ _ e => .inr (.inl e))⟩⟩
      | ret => exact out _ C hp.1 hp.2
      | exit i => exact out _ C hp.1 hp.2
      | goto t => exact out _ C hp.1 hp.2
      | panic c => exact hp.elim
      | outgrown => exact hp.elim
    · rintro e C ⟨⟨v, rfl⟩, (⟨s, hS, hi, hb⟩ | ⟨s, c, hi, hb⟩)⟩
      · refine ⟨_, _, run_endLoop (P := P) hb.1 (by rw [hrec]; simp), ?_⟩
        rw [hrec] at hb ⊢
        exact hdone _ s _ (Nat.le_refl _) hS (hI _ _ _ hi (low_put _ (by omega))) ((World.putObj_heap_other (by omega)).trans hb.2)
      · refine ⟨_, _, run_endLoop (P := P) hb.1 (by rw [hrec]; simp), ?_⟩
        rw [hrec] at hb ⊢
        exact hstop _ c s _ (Nat.le_refl _) (hIx c _ _ _ hi (low_put _ (by omega))) ((World.putObj_heap_other (by omega)).trans hb.2)

end Go.Proofs.YtnhkfdbeacmepaaDoor


/- Layer 13 (hash): Sum; its tables. -/
namespace Go.Proofs.YtnhkfdbeacmepaaDoor
open Go.RowKit

/-- The tables of both hashes. -/
structure TabH (w : World) : Prop where
  t11 : Tab11 w
  t12 : Tab12 w

theorem TabH.grew {w w' : World} (h : TabH w) (k : Kept Nought w w') : TabH w' := ⟨h.t11.grew k, h.t12.grew k⟩

set_option maxRecDepth 20000 in
set_option maxHeartbeats 1000000 in
/-- Sum. -/
theorem z13Sum (h : Int) (v : Value) (bs : List Nat) (w : World) (hT : TabH w) (hb : Row .u8 w v bs) (hbd : Digs 256 bs) (hl : bs.length ≤ 1000000) :
    Calls Tryd.prog 25 #[.int .i64 h, v] w fun e w' => ∃ v', e = .returned (.tuple #[v', .int .i64 (hshE h : Nat)]) ∧ Row .u8 w' v' (hshN h bs) ∧ (∀ b, v'.ownBlock = some b → w.heap.size ≤ b) ∧ Kept Nought w w' := by
  by_cases h1 : h = 1
  · subst h1
    have J := fun W (k : Kept Nought w W) => hSum v bs W (hT.t11.grew k) (hb.grew k) hbd hl
    clear hb hT
    go_enter Tryd.func25, Tryd.ntmps25
    go_wp2_with fail
    refine (J _ (by first | exact Kept.refl _ _ | exact (Kept.refl _ _).drew)).mono ?_
    rintro e w1 ⟨v1, rfl, hr1, hf1, k1⟩
    clear J
    go_wp2_with fail
    exact bodyPost_ret (v := .tuple #[v1, .int .i64 0]) (by simp [results, Tryd.results25, go_sem]) rfl ⟨v1, rfl, hr1, hf1, k1⟩
  · by_cases h2 : h = 2
    · subst h2
      have J := fun W (k : Kept Nought w W) => mSum384 v bs W (hT.t12.grew k) (hb.grew k) hbd hl
      clear hb hT
      go_enter Tryd.func25, Tryd.ntmps25
      go_wp2_with fail
      refine (J _ (by first | exact Kept.refl _ _ | exact (Kept.refl _ _).drew)).mono ?_
      rintro e w1 ⟨v1, rfl, hr1, k1⟩
      clear J
      go_wp2_with fail
      exact bodyPost_ret (v := .tuple #[v1, .int .i64 0]) (by simp [results, Tryd.results25, go_sem]) rfl ⟨v1, rfl, hr1.row, fun b hb => (hr1.lt b hb).1, k1⟩
    · by_cases h3 : h = 3
      · subst h3
        have J := fun W (k : Kept Nought w W) => mSum v bs W (hT.t12.grew k) (hb.grew k) hbd hl
        clear hb hT
        go_enter Tryd.func25, Tryd.ntmps25
        go_wp2_with fail
        refine (J _ (by first | exact Kept.refl _ _ | exact (Kept.refl _ _).drew)).mono ?_
        rintro e w1 ⟨v1, rfl, hr1, k1⟩
        clear J
        go_wp2_with fail
        exact bodyPost_ret (v := .tuple #[v1, .int .i64 0]) (by simp [results, Tryd.results25, go_sem]) rfl ⟨v1, rfl, hr1.row, fun b hb => (hr1.lt b hb).1, k1⟩
      · have e1 : hshE h = 130 := by unfold hshE; rw [if_neg]; rintro (h | h | h) <;> contradiction
        have e2 : hshN h bs = [] := by unfold hshN; rw [if_neg h1, if_neg h2, if_neg h3]
        rw [e1, e2]
        clear e1 e2 hb hT
        go_enter Tryd.func25, Tryd.ntmps25
        go_wp2_with fail
        exact bodyPost_ret (v := .tuple #[.slice none 0 0, .int .i64 130]) (by simp [results, Tryd.results25, go_sem]) rfl ⟨.slice none 0 0, rfl, (OwnB.nil _ w.heap.size).row, (fun b hb => by cases hb), by first | exact Kept.refl _ _ | exact (Kept.refl _ _).drew⟩

end Go.Proofs.YtnhkfdbeacmepaaDoor


/- Package mgf: the blocks of a mask, as a range over a function hands them out (blocks): for ever, over memory of the iterator's own. -/
namespace Go.Proofs.YtnhkfdbeacmepaaDoor
open Go.RowKit Go.Shelf

attribute [local go_sem] Oper.semAt_some

/-- A block of a mask. -/
def mblk (h : Int) (seed : List Nat) (k : Nat) : List Nat := hshN h (seed ++ cnt4 k)

/-- What is handed out. -/
def BlkX (h : Int) (seed : List Nat) (pre : List Value) (v : Value) (A : World) : Prop := Row .u8 A v (mblk h seed pre.length)

/-- blocks: both parameters are boxed; the function value holds the boxes. -/
theorem gBlocks (h : Int) (ao : Option Addr) (len cap : Nat) (w : World) :
    Calls Tryd.prog 68 #[.int .i64 h, .slice ao len cap] w fun e w' => e = .returned (.func (.func 84) #[] #[.pointer (some ⟨w.heap.size + 1, 0, none⟩), .pointer (some ⟨w.heap.size, 0, none⟩)]) ∧ w' = (w.alloc (.cells #[.int .i64 h] 3)).alloc (.cells #[.slice ao len cap] 22) := by
  go_enter Tryd.func68, Tryd.ntmps68
  go_wp2
  go_ret
  exact ⟨rfl, rfl⟩

/-- What stands between two rounds: the iterator's own bytes at block G, both boxes, all that lay in w0. -/
structure BtwM (w0 W wr : World) (G bs bh : Nat) (sv : Value) (h : Int) (seed : List Nat) : Prop where
  arr : ∃ ps : List Nat, ps.length = 4 ∧ Arr .u8 5 wr G (seed ++ ps)
  sb : Boxed wr bs 22 sv
  hb : Boxed wr bh 3 (.int .i64 h)
  old : Kept Nought w0 wr
  size : W.heap.size ≤ wr.heap.size

theorem BtwM.grew {w0 W wr w' : World} {G bs bh : Nat} {sv : Value} {h : Int} {seed : List Nat} (B : BtwM w0 W wr G bs bh sv h seed) (k : Kept Nought wr w') : BtwM w0 W w' G bs bh sv h seed := by
  obtain ⟨⟨ps, h1, h2⟩, h3, h4, h5, h6⟩ := B
  exact ⟨⟨ps, h1, h2.grew k⟩, boxed_grew h3 k, boxed_grew h4 k, h5.trans k, Nat.le_trans h6 k.size⟩

theorem BtwM.lay {w0 w W wr w' : World} {bs bh : Nat} {sv : Value} {h : Int} {seed ps : List Nat} (B : BtwM w0 W wr W.heap.size bs bh sv h seed) (k : Kept (fun b => b = W.heap.size) wr w') (hs : bs < w.heap.size) (hh : bh < w.heap.size) (hW : w.heap.size ≤ W.heap.size) (hp : ps.length = 4) (hA : Arr .u8 5 w' W.heap.size (seed ++ ps)) (h0 : w0.heap.size ≤ w.heap.size) : BtwM w0 W w' W.heap.size bs bh sv h seed := by
  obtain ⟨_, h3, h4, h5, h6⟩ := B
  exact ⟨⟨ps, hp, hA⟩, boxed_but h3 k (by omega), boxed_but h4 k (by omega), kept_new h5 k (by omega), Nat.le_trans h6 k.size⟩

theorem BtwM.turn {w0 w W wr w' : World} {bs bh l : Nat} {Sb : Nat → Prop} {sv : Value} {h : Int} {seed : List Nat} (B : BtwM w0 W wr W.heap.size bs bh sv h seed) (k : Kept (fun b => Sb b ∨ b = l ∨ b + 1 = l) wr w') (hs : bs < w.heap.size) (hh : bh < w.heap.size) (hW : W.heap.size = w.heap.size + 2) (hl : l = w.heap.size + 1) (s1 : ¬ Sb bs) (s2 : ¬ Sb bh) (hSb : ∀ b, Sb b → w0.heap.size ≤ b ∧ b < w.heap.size) (h0 : w0.heap.size ≤ w.heap.size) : BtwM w0 W w' W.heap.size bs bh sv h seed := by
  obtain ⟨⟨ps, h1, h2⟩, h3, h4, h5, h6⟩ := B
  refine ⟨⟨ps, h1, h2.kept k ?_⟩, boxed_but h3 k ?_, boxed_but h4 k ?_, h5.next k ?_, Nat.le_trans h6 k.size⟩
  · rintro (e | e | e)
    · have := (hSb _ e).2
      omega
    · omega
    · omega
  · rintro (e | e | e)
    · exact s1 e
    · omega
    · omega
  · rintro (e | e | e)
    · exact s2 e
    · omega
    · omega
  · rintro x hx (e | e | e)
    · have := (hSb _ e).1
      omega
    · omega
    · omega

set_option maxRecDepth 100000 in
set_option maxHeartbeats 2000000 in
/-- blocks' value, as a range over it wants it. -/
theorem gBlocks1 (n : Nat) (hn : 1 ≤ n) (bs bh : Nat) (h : Int) (ao : Option Addr) (L cap N : Nat) (seed : List Nat) (w0 w : World) (Sb : Nat → Prop) (hT : TabH w0) (hr : Row .u8 w0 (.slice ao L cap) seed) (hd : Digs 256 seed) (hL : L ≤ 900000) (hk : Kept Nought w0 w)
    (hbs : Boxed w bs 22 (.slice ao L cap)) (hbh : Boxed w bh 3 (.int .i64 h)) (hN : N ≤ 4294967295) (hSb : ∀ b, Sb b → w0.heap.size ≤ b ∧ b < w.heap.size) (hs1 : ¬ Sb bs) (hs2 : ¬ Sb bh) :
    SeqC n Tryd.prog 84 #[.pointer (some ⟨bs, 0, none⟩), .pointer (some ⟨bh, 0, none⟩)] (fun v : Value => #[v]) (BlkX h seed) Sb (fun _ => False) N w := by
  rintro l J Jx W hkW hlW hsW hJ hJN hY h0
  obtain ⟨i0, hi0, hz0, hz1, hz2⟩ := info_parts Tryd.info8s
  have hkw := hk.size
  have bsW : Boxed W bs 22 (.slice ao L cap) := (hkW.block _ hbs.lt (fun f => f)).trans hbs
  have bhW : Boxed W bh 3 (.int .i64 h) := (hkW.block _ hbh.lt (fun f => f)).trans hbh
  have HLT : Hid (bs < w.heap.size ∧ bh < w.heap.size) := ⟨hbs.lt, hbh.lt⟩
  obtain ⟨_, _, _, e0, hLs, _, _, _, _⟩ := hr.open
  cases e0
  obtain ⟨CS, hCS⟩ : ∃ CS, CS = seed.map fun z : Nat => Value.int .u8 (z : Int) := ⟨_, rfl⟩
  have HC := toHid hCS
  have HLC : Hid (CS.length = L) := by unfold Hid; rw [hCS, List.length_map]; exact hLs.out
  have HSRC : Hid (∀ A, Kept Nought w0 A → 0 < CS.length → ∃ ad, ao = some ad ∧ ∀ j u, CS[j]? = some u → A.cell? (ad.add j) = some u) := by rw [hCS]; exact fun A k hp => row_src hr k hp
  have HO1 : Hid (∀ u ∈ CS, u.oneCell' = true) := by rw [hCS]; exact ones8 _ _
  obtain ⟨m, hm⟩ : ∃ m, m = L + 4 := ⟨_, rfl⟩
  have gm : (L : Int) + 4 = (m : Int) := by omega
  have HM := toHid hm
  have hmb : m ≤ 900004 := by omega
  have gLm : (L : Int) ≤ (m : Int) := by omega
  have gL0 : (0 : Int) ≤ (L : Int) := by omega
  have HKW := toHid (hk.trans hkW)
  have cbs := bsW.cell
  have fbs := bsW.frozen
  have HBS := toHid bsW
  have HBH := toHid bhW
  have HTab : Hid (∀ A, Kept Nought w0 A → TabH A) := fun A k => hT.grew k
  have HDS := toHid hd
  have HH0 := toHid h0
  have HJN := toHid hJN
  have HSW := toHid hsW
  have HLW := toHid hlW
  clear hCS hm bsW bhW hT hr hd hk hkW hbs hbh h0 hJN hsW hlW
  refine callsIn_of_wp Tryd.func84 rfl trivial ?_ rfl
  simp only [Tryd.ntmps84, List.size_toArray, List.length_cons, List.length_nil, Nat.reduceAdd, Nat.reduceSub, Array.replicate_succ, Array.replicate_zero, List.push_toArray, List.append_toArray, List.nil_append, List.cons_append]
  refine wpIn_wide.2 ?_
  go_wp2_with (at_make; refine wpList_make_full _ rfl _ _ 22 rfl W.heap.size 5 i0 _ 1 Tryd.underlying22 hi0 hz0 hz1 _ _ _ _ m rfl rfl (by first | rfl | omega) (by first | rfl | omega) (by rw [hz2]; omega) (by unfold maxLen; omega) (Nat.le_refl _) ?_; intro w1 ho1 hg1; rw [zeros_map] at ho1; have k1 := grown_kept hg1; obtain ⟨w2, hrun, hb2, k2⟩ := run_copy_part (P := Tryd.prog) 22 22 3 5 W.heap.size 0 m m (some ⟨W.heap.size, 0, none⟩) ao L cap _ 5 CS Tryd.underlying22 (by rw [hi0]; simp [hz1]) (own_block ho1) (by rw [HLC.out]; exact (Nat.min_eq_left (by omega)).symm) (fun hp => ⟨rfl, HSRC.out _ (HKW.out.trans k1) hp⟩) (by have := HLC.out; simp; omega) HO1.out; rw [HLC.out] at hrun; have HB2 : Hid _ := hb2; have HK2 := toHid (kept_new k1 k2 (Nat.le_refl _)); have cbs1 := k1.cellN cbs; clear hb2 ho1 hg1 k1 k2)
  have HA2 : Hid (Arr .u8 5 w2 W.heap.size (seed ++ List.replicate 4 0)) := by
    have := HB2.out
    rw [HC.out, splice_fill, hLs.out, HM.out, show L + 4 - L = 4 by omega] at this
    exact this
  have H0 : Hid (BtwM w0 W w2 W.heap.size bs bh (.slice ao L cap) h seed) := ⟨⟨_, List.length_replicate, HA2.out⟩, boxed_grew HBS.out HK2.out, boxed_grew HBH.out HK2.out, HKW.out.trans HK2.out, HK2.out.size⟩
  have HJ0 : Hid (J [] w2) := hJ _ _ _ HH0.out (below_kept HK2.out (Nat.le_refl _))
  have HLS := toHid hLs
  rw [show m - L = 4 by have := HM.out; omega]
  clear HB2 HSRC HO1 HLC HC hrun HA2 HH0 cbs cbs1 fbs HBS HBH hLs
  refine (wpIn_wide (n := n)).1 ?_
  gi_loopw [6] (fun iv wr => ∃ (k : Nat) (pre : List Value), iv = .int .u32 (k : Int) ∧ Hid (pre.length = k) ∧ Hid (J pre wr) ∧ Hid (BtwM w0 W wr W.heap.size bs bh (.slice ao L cap) h seed)) (fun iv _ => N - (intOf iv).toNat)
  case atStart => exact ⟨0, [], rfl, rfl, HJ0.out, H0.out⟩
  case round =>
    clear HJ0 H0 HK2
    obtain ⟨k, pre, rfl, HP, HJ, HB⟩ := hrel
    have hkN : k < N := by have := HJN.out _ _ HJ.out; have := HP.out; omega
    have gk1 : IntKind.u32.wrap ((k : Int) + 1) = (k : Int) + 1 := by rw [IntKind.wrap_u32]; omega
    obtain ⟨ps, hps, hA⟩ := HB.out.arr
    have hLay := gLay W.heap.size L 4 k seed ps wr hA HLS.out.out hps
    clear hA hps
    gi_wp2_with fail
    refine ⟨trivial, ?_⟩
    refine (callsIn_wide.2 hLay).mono ?_
    rintro e w3 ⟨⟨v3, rfl⟩, hA3, k3⟩
    have B3 := toHid (HB.out.lay k3 HLT.out.1 HLT.out.2 (by have := HSW.out; omega) (cnt4_length k) hA3 hkw)
    have HJ3 := toHid (hJ _ _ _ HJ.out (k3.below HB.out.size (fun _ e => by omega)))
    have hSum := z13Sum h (.slice (some ⟨W.heap.size, 0, none⟩) m m) (seed ++ cnt4 k) w3 (HTab.out _ B3.out.old) (Row.of_block hA3 (by rw [List.length_append, HLS.out.out, cnt4_length]; exact HM.out.symm) (by unfold maxLen; omega)) (HDS.out.append (cnt4_digs k)) (by rw [List.length_append, HLS.out.out, cnt4_length]; omega)
    have cbh := B3.out.hb.cell
    clear hLay hA3 k3 HJ HB
    gi_wp2_with fail
    refine ⟨trivial, ?_⟩
    refine (callsIn_wide.2 hSum).mono ?_
    rintro e w4 ⟨v4, rfl, r4, _, k4⟩
    have B4 := toHid (B3.out.grew k4)
    have HJ4 := toHid (hJ _ _ _ HJ3.out (below_kept k4 B3.out.size))
    have hx4 : BlkX h seed pre v4 w4 := by unfold BlkX mblk; rw [HP.out]; exact r4
    obtain ⟨fn, tmps, assign, body, hy, hR⟩ := hY pre v4 w4 HJ4.out hx4
    obtain ⟨xo, xn, xc, rfl, _⟩ := r4.open
    clear hSum r4 k4 cbh hx4 B3 HJ3
    gi_wp2_with fail
    refine hR.mono ?_
    rintro e w5 (⟨rfl, hJ5, k5⟩ | ⟨rfl, hJx5⟩)
    · have B5 := toHid (B4.out.turn k5 HLT.out.1 HLT.out.2 HSW.out HLW.out hs1 hs2 hSb hkw)
      have HJ5 := toHid hJ5
      clear hR hy hJ5 k5 B4 HJ4
      gi_wp2_with fail
      go_roundw
      case rel => exact ⟨k + 1, pre ++ [Value.slice xo xn xc], by first | rfl | (rw [gk1]; rfl), by unfold Hid; rw [List.length_append, HP.out]; rfl, HJ5, B5⟩
      case measure => simp [intOf]; omega
    · gi_wp2_with fail
      refine bodyPost_ret (results_none rfl _ _ _) rfl ?_
      exact ⟨⟨_, rfl⟩, .inr ⟨_, hJx5⟩⟩

end Go.Proofs.YtnhkfdbeacmepaaDoor


/- Layer 13 (hash): the names' table, Size, Name, Of, Prefix; the laws' first test. -/
namespace Go.Proofs.YtnhkfdbeacmepaaDoor
open Go.RowKit

set_option maxRecDepth 20000 in
set_option maxHeartbeats 1000000 in
/-- Size. -/
theorem z13Size (h : Int) (w : World) :
    Calls Tryd.prog 24 #[.int .i64 h] w fun e w' => e = .returned (.int .i64 (hszN h : Nat)) ∧ Kept Nought w w' := by
  rcases hsz_cases h with ⟨rfl, e⟩ | ⟨rfl, e⟩ | ⟨rfl, e⟩ | ⟨h1, h2, h3, e⟩
  all_goals
    rw [e]
    clear e
    go_enter Tryd.func24, Tryd.ntmps24
    go_wp2_with fail
    go_ret
    exact ⟨rfl, by first | exact Kept.refl _ _ | exact (Kept.refl _ _).drew⟩

end Go.Proofs.YtnhkfdbeacmepaaDoor

