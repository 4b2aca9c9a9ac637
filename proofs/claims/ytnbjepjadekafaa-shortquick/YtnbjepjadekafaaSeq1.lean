/- Melted of: Seq1 PowR. -/
import Derived.Test.YtnbjepjadekafaaTra1
import Derived.RangeFuncNested
import Derived.RangeFuncBound
import Derived.RangeFuncCalls
import Derived.RangeFuncLeaves
import Derived.RangeFuncBox
import Derived.Shelf.Abstract
import Derived.Shelf.RegionOpen
import Derived.OwnWalkIn
import Derived.TacticsInMore
import Derived.LoopNIn
import Derived.LoopIn
import Derived.Deep.RegionHeld3

/- What a range over a function asks of memory: blocks that lie as they lay; numbers, traces and variables while the loop's own books are turned. -/
namespace Go.Proofs.Ytnbjepjadekafaa
open Go.RowKit Go.Shelf

/-- The blocks of S lie as they lay. -/
def KeepB (S : Nat → Prop) (W W' : World) : Prop := ∀ k, S k → W'.heap[k]? = W.heap[k]?

theorem KeepB.refl (S : Nat → Prop) (W : World) : KeepB S W W := fun _ _ => rfl

theorem KeepB.trans {S : Nat → Prop} {A B C : World} (h : KeepB S A B) (k : KeepB S B C) : KeepB S A C := fun i hi => (k i hi).trans (h i hi)

theorem KeepB.put {S : Nat → Prop} {w : World} (hS : ∀ k, S k → k < w.heap.size) (W : World) (l : Nat) (o o' : Obj) (hl : w.heap.size ≤ l) (_ : W.heap[l]? = some o) (_ : o.isCells = false) (_ : o.isWalk = false) : KeepB S W (W.putObj l o') := fun k hk =>
  World.putObj_heap_other (fun e => by have := hS k hk; omega)

theorem KeepB.cell {S : Nat → Prop} {W W' : World} (h : KeepB S W W') {p : Addr} (hp : S p.block) : W'.cell? p = W.cell? p := World.cell?_of_block (h p.block hp)

theorem KeepB.row {S : Nat → Prop} {k : IntKind} {W W' : World} {v : Value} {zs : List Nat} (h : KeepB S W W') (hs : ∀ b, v.ownBlock = some b → 0 < zs.length → S b) (hr : Row k W v zs) : Row k W' v zs := by
  obtain ⟨ao, cap, rfl, h1, h2, h3, h4⟩ := hr
  refine ⟨ao, cap, rfl, h1, h2, h3, fun i hi => ?_⟩
  obtain ⟨b, off, rfl, hc⟩ := h4 i hi
  exact ⟨b, off, rfl, (h.cell (p := ⟨b, off + i, none⟩) (hs b rfl (by omega))).trans hc⟩

theorem cellA {W : World} {a : Addr} {v : Value} (o : Obj) (h : W.cell? a = some v) : (W.alloc o).cell? a = some v := cell_kept h (World.grownBy_alloc W o none) (fun r e => by cases e)

theorem frozenA {W : World} {a : Addr} {v : Value} (o : Obj) (h : W.cell? a = some v) (hf : W.frozen? a = false) : (W.alloc o).frozen? a = false := (frozen_kept h (World.grownBy_alloc W o none) (fun r e => by cases e)).trans hf

/-- What the loop's own books are when they are turned: a new block, or one that is no variable's. -/
def Turn (B : Nat) (W W' : World) : Prop := ∃ row, W.grownBy W' row ∧ ∀ r, row = some r → B ≤ r ∧ ∃ o : Obj, W.heap[r]? = some o ∧ o.isCells = false

/-- A row of the call's own stands while blocks turn that are no rows. -/
theorem own_turn {W W' : World} {row : Option Nat} {base size n : Nat} {e : TypeId} {v : Value} {xs : List Value} (h : W.ownsRow base e size v n xs) (hg : W.grownBy W' row) (hr : ∀ r, row = some r → ∃ o : Obj, W.heap[r]? = some o ∧ o.isCells = false) : W'.ownsRow base e size v n xs := by
  refine ⟨h.1, ?_⟩
  rcases h.2 with h1 | ⟨g, cap, cur, e1, hb, hblk, h4⟩
  · exact .inl h1
  · refine .inr ⟨g, cap, cur, e1, hb, ?_, h4⟩
    rw [hg.block g (Array.getElem?_eq_some_iff.1 hblk).1 ?_]
    · exact hblk
    · intro e
      obtain ⟨o, ho, hc⟩ := hr g e.symm
      rw [hblk] at ho
      cases ho
      cases hc

theorem boxed_turn {W W' : World} {row : Option Nat} {B : Nat} {t : TypeId} {v : Value} (h : Boxed W B t v) (hg : W.grownBy W' row) (hr : ∀ r, row = some r → ∃ o : Obj, W.heap[r]? = some o ∧ o.isCells = false) : Boxed W' B t v := h.kept hg (fun e => by
  obtain ⟨o, ho, hc⟩ := hr B e.symm
  have hb : W.heap[B]? = some _ := h
  rw [hb] at ho
  cases ho
  cases hc)

theorem Turn.cells {B : Nat} {W W' : World} (t : Turn B W W') {b : Nat} {c : Array Value} {ty : TypeId} {f : Nat × Nat} (h : W.heap[b]? = some (.cells c ty f)) : W'.heap[b]? = some (.cells c ty f) := by
  obtain ⟨row, hg, hr⟩ := t
  rw [hg.block b (Array.getElem?_eq_some_iff.1 h).1 ?_]
  · exact h
  · intro e
    obtain ⟨_, o, ho, hc⟩ := hr b e.symm
    rw [h] at ho
    cases ho
    cases hc

theorem Turn.kept {B : Nat} {S : Nat → Prop} {w W W' : World} (t : Turn B W W') (k : Kept S w W) (hB : w.heap.size ≤ B) : Kept S w W' := by
  obtain ⟨row, hg, hr⟩ := t
  exact k.grown hg (fun b e hb => by have := (hr b e).1; omega)

theorem Turn.own {B : Nat} {W W' : World} (t : Turn B W W') {base size n : Nat} {e : TypeId} {v : Value} {xs : List Value} (h : W.ownsRow base e size v n xs) : W'.ownsRow base e size v n xs := by
  obtain ⟨row, hg, hr⟩ := t
  exact own_turn h hg (fun r e => (hr r e).2)

theorem Turn.cell {B : Nat} {W W' : World} (t : Turn B W W') {a : Addr} {v : Value} (h : W.cell? a = some v) : W'.cell? a = some v := by
  obtain ⟨row, hg, hr⟩ := t
  exact cell_kept h hg (fun r e => (hr r e).2)

theorem Turn.row {B : Nat} {W W' : World} (t : Turn B W W') {k : IntKind} {v : Value} {zs : List Nat} (h : Row k W v zs) : Row k W' v zs := by
  obtain ⟨ao, cap, rfl, h1, h2, h3, h4⟩ := h
  refine ⟨ao, cap, rfl, h1, h2, h3, fun i hi => ?_⟩
  obtain ⟨b, off, rfl, hc⟩ := h4 i hi
  exact ⟨b, off, rfl, t.cell hc⟩

theorem Turn.u64s {B : Nat} {W W' : World} (t : Turn B W W') {v : Value} (h : U64s W v) : U64s W' v := by
  intro b hb
  obtain ⟨cs, fr, hg⟩ := h b hb
  exact ⟨cs, fr, t.cells hg⟩

theorem Turn.isTr {B : Nat} {W W' : World} (t : Turn B W W') {p : Nat} {g : Option Nat} {l : List Ev} (h : IsTr W p g l) : IsTr W' p g l := by
  obtain ⟨v, s, h1, h2, h3, h4⟩ := h
  exact ⟨v, s, t.cells h1, h2, t.own h3, h4⟩

theorem Turn.trIn {B : Nat} {W W' : World} (t : Turn B W W') {o : Tr} (h : TrIn W o) : TrIn W' o := by
  cases o with
  | none => trivial
  | some x => exact ⟨t.isTr h.1, h.2⟩

theorem Turn.did {B : Nat} {w W W' : World} (t : Turn B W W') {o o' : Tr} {m : List Ev} (d : Did w o m W o') (hB : w.heap.size ≤ B) : Did w o m W' o' := by
  refine ⟨t.kept d.1 hB, ?_⟩
  rcases d.2 with h1 | ⟨p, g, l, g', e1, e2, ht, hg⟩
  · exact .inl h1
  · exact .inr ⟨p, g, l, g', e1, e2, t.isTr ht, hg⟩

/-- The end of a loop turns the book of its deferred calls. -/
theorem turn_put {B D : Nat} {W : World} {o : Obj} (hD : B ≤ D) (hK : W.heap[D]? = some o) (ho : o.isCells = false) (o' : Obj) : Turn B W (W.putObj D o') :=
  ⟨some D, grownBy_putObj' W D o', fun r e => by cases e; exact ⟨hD, o, hK, ho⟩⟩

/-- What holds through every turn is what a range over a function asks of what stands between its rounds. -/
theorem ownFrom_turn {β : Type} {B : Nat} {I : β → World → Prop} (h : ∀ s W W', I s W → Turn B W W' → I s W') : OwnFrom B I := fun s W W' row hs hg hr => h s W W' hs ⟨row, hg, hr⟩

/-- What is seen of a call keeps whatever is no variable's. -/
theorem keepsFrom_kept {B : Nat} {S : Nat → Prop} {W W' : World} (k : Kept S W W') (hS : ∀ b, S b → B ≤ b → ∃ c ty f, W.heap[b]? = some (.cells c ty f)) : KeepsFrom B W W' :=
  ⟨k.size, fun b o hb hk ho => by
    rw [← hk]
    refine k.block b (Array.getElem?_eq_some_iff.1 hk).1 (fun hs => ?_)
    obtain ⟨c, ty, f, h⟩ := hS b hs hb
    rw [h] at hk
    cases hk
    cases ho⟩

end Go.Proofs.Ytnbjepjadekafaa

/- A region that draws its order in a round of a range over a function: as everywhere. -/
namespace Go.Proofs.Ytnbjepjadekafaa
open Go.RowKit Go.Shelf

theorem oper_round {P : Program} {o : Oper} {a : Act} {w : World} {l n : Nat} {K : Act → World → Prop} {Q : Exit → Act → World → Prop} (hd : ∀ c, o.op ≠ .defer c) (h : o.wp P a w K Q) : o.wpIn (Fence.wide.inRound l) n P a w K Q := by
  refine ⟨fun _ _ => trivial, ?_⟩
  rw [show (Fence.wide.inRound l).round = some l from rfl, Oper.semAt_some l a.eval o hd]
  unfold Oper.wp at h
  generalize (execOp a.eval o).run P w = r at *
  cases r with
  | ok x w' =>
    cases x with
    | enter f args => exact ⟨fun e => (by cases e), CallsIn.inRound l (callsIn_wide.2 h)⟩
    | row row args => exact ⟨fun e => (by cases e), fun c cs _ => let ⟨v, w'', r, s⟩ := h c cs; ⟨v, w'', r, stepsIn_wide.2 s⟩⟩
    | round l f tmps assign body => exact h.elim
    | _ => exact h
  | halt x w' => cases x <;> exact h

def noDefer (ops : Array Oper) : Bool := ops.toList.all fun o => match o.op with | .defer _ => false | _ => true

theorem noDefer_at {ops : Array Oper} (h : noDefer ops = true) {i : Nat} {o : Oper} (ho : ops[i]? = some o) : ∀ c, o.op ≠ .defer c := by
  intro c e
  unfold noDefer at h
  rw [List.all_eq_true] at h
  have hm : o ∈ ops.toList := by
    rw [Array.mem_toList_iff]
    exact Array.mem_of_getElem? ho
  have := h o hm
  rw [e] at this
  cases this

theorem anyIn_of_any {P : Program} {md : Region.Mode} {ops : Array Oper} {Q : Exit → Act → World → Prop} {l n : Nat} (hnd : noDefer ops = true) (hlo : ¬ LetsOut Q) : ∀ (fuel : Nat) (listed : Array Bool) (a : Act) (w : World), wpAny P md ops Q fuel listed a w → wpAnyIn (Fence.wide.inRound l) n P md ops Q fuel listed a w
  | 0, _, _, _, h => h
  | fuel + 1, listed, a, w, h => ⟨h.1, fun i hi => by
    have h2 := h.2 i hi
    unfold wpOp at h2
    unfold wpOpIn
    cases ho : ops[i]? with
    | none =>
      rw [ho] at h2
      exact anyIn_of_any hnd hlo fuel _ a w h2
    | some o =>
      rw [ho] at h2
      dsimp only at h2 ⊢
      split
      · rename_i hw
        rw [if_pos hw] at h2
        rcases h2 with h2 | h2
        · exact Oper.wpIn_mono (fun a w => anyIn_of_any hnd hlo fuel _ a w) (oper_round (noDefer_at hnd ho) h2)
        · exact absurd h2.2 hlo
      · rename_i hw
        rw [if_neg hw] at h2
        exact ⟨fun _ _ => trivial, anyIn_of_any hnd hlo fuel _ _ w h2⟩⟩

/-- A drawn region in a round, by the law that holds what S says. -/
theorem region_round {P : Program} {ops : Array Oper} {Q : Exit → Act → World → Prop} {S : World → Prop} {l n id : Nat} {a : Act} {w : World} (hm : P.follows .mixedOrders = true) (hnd : noDefer ops = true) (hlo : ¬ LetsOut Q)
    (h : wpAnyH P .any ops Q S ops.size (Array.replicate ops.size false) a w.drew) : (Code.region id ops true).wpIn (Fence.wide.inRound l) n P Q a w :=
  wpIn_region_any hm (anyIn_of_any hnd hlo _ _ _ _ (wpAny_of_held _ _ _ _ h))

/-- A call of a function, as one step of a region that draws. -/
theorem step_call {P : Program} {ops : Array Oper} {o : Oper} {a : Act} {w : World} {K : Act → World → Prop} {Q : Exit → Act → World → Prop} {E : Prop} (f : Nat) (args : List Operand) (tys : Array TypeId) (vals : List Value) (hg : o.guard = none)
    (ho : o.op = .call { callee := .value (.func f), args := args.toArray, argTypes := tys }) (hv : args.map a.eval = vals) (he : ∀ args w, (callFunc f args).run P w = .ok (.enter f args) w) {R : Ending → World → Prop} (hc : Calls P f vals.toArray w R)
    (h : ∀ e w', R e w' → ∃ v, e = .returned v ∧ K (a.put o.dst v) w') :
    if Region.wanted o (yielded ops a.tmps) = true then Oper.wp P o a w K Q else E := by
  have hw : Region.wanted o (yielded ops a.tmps) = true := by simp [Region.wanted, hg]
  rw [if_pos hw]
  have hc2 : Calls P f vals.toArray w fun
      | .returned v, w'' => K (a.put o.dst v) w''
      | .panicked chain, w'' => Q (.panic chain) a w''
      | .outgrown, _ => LetsOut Q := hc.mono (fun e w' r => by
    obtain ⟨v, rfl, hk⟩ := h e w' r
    exact hk)
  unfold Oper.wp
  simp [execOp, ho, resolve, invoke, hv, he, go_sem]
  exact hc2

end Go.Proofs.Ytnbjepjadekafaa
