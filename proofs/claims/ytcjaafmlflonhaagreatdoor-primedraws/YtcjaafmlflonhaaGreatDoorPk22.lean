/- Put together of: Seq0 Seq1 Pow1 Mir2 LimH Lays. -/
import Derived.Test.YtcjaafmlflonhaaGreatDoorPk1
import Derived.Test.YtcjaafmlflonhaaGreatDoorPk3
import Derived.Test.YtcjaafmlflonhaaGreatDoorPk9
import Derived.Test.YtcjaafmlflonhaaGreatDoorPk10
import Derived.Test.YtcjaafmlflonhaaGreatDoorPk18
import Derived.Test.YtcjaafmlflonhaaGreatDoorPk19
import Derived.Test.YtcjaafmlflonhaaGreatDoorPk21
import Derived.RangeFuncWrites
import Derived.RangeFuncNested
import Derived.RangeFuncBound
import Derived.RangeFuncCalls
import Derived.RangeFuncLeaves
import Derived.RangeFuncBox
import Derived.Shelf.Abstract
import Derived.Shelf.RegionOpen
import Derived.OwnWalkIn
import Derived.TacticsInMore
import Derived.LoopNIn
import Derived.LoopIn
import Derived.Deep.RegionHeld3
import Derived.Deep.RegionLaw
import Derived.Deep.AppendLies
import Derived.Shelf.Strings.BuilderK
import Derived.Shelf.Strings.Repeat
import Derived.Shelf.Small.Wraps
import Derived.Shelf.Strconv.Itoa0

/- What a range over a function asks of memory (Rnd1: a drawn region in a round). -/

/- What a range over a function asks of memory: blocks that lie as they lay; numbers and variables while the loop's own books are turned. -/
namespace Go.Proofs.YtcjaafmlflonhaaGreatDoor
open Go.RowKit Go.Shelf

/-- The blocks of S lie as they lay. -/
def KeepB (S : Nat → Prop) (W W' : World) : Prop := ∀ k, S k → W'.heap[k]? = W.heap[k]?

theorem KeepB.refl (S : Nat → Prop) (W : World) : KeepB S W W := fun _ _ => rfl

theorem KeepB.trans {S : Nat → Prop} {A B C : World} (h : KeepB S A B) (k : KeepB S B C) : KeepB S A C := fun i hi => (k i hi).trans (h i hi)

theorem KeepB.put {S : Nat → Prop} {w : World} (hS : ∀ k, S k → k < w.heap.size) (W : World) (l : Nat) (o o' : Obj) (hl : w.heap.size ≤ l) (_ : W.heap[l]? = some o) (_ : o.isCells = false) (_ : o.isWalk = false) : KeepB S W (W.putObj l o') := fun k hk =>
  World.putObj_heap_other (fun e => by have := hS k hk; omega)

theorem KeepB.cell {S : Nat → Prop} {W W' : World} (h : KeepB S W W') {p : Addr} (hp : S p.block) : W'.cell? p = W.cell? p := World.cell?_of_block (h p.block hp)

theorem KeepB.row {S : Nat → Prop} {k : IntKind} {W W' : World} {v : Value} {zs : List Nat} (h : KeepB S W W') (hs : ∀ b, v.ownBlock = some b → 0 < zs.length → S b) (hr : Row k W v zs) : Row k W' v zs := by
  obtain ⟨ao, cap, rfl, h1, h2, h3, h4⟩ := hr
  refine ⟨ao, cap, rfl, h1, h2, h3, fun i hi => ?_⟩
  obtain ⟨b, off, rfl, hc⟩ := h4 i hi
  exact ⟨b, off, rfl, (h.cell (p := ⟨b, off + i, none⟩) (hs b rfl (by omega))).trans hc⟩

theorem cellA {W : World} {a : Addr} {v : Value} (o : Obj) (h : W.cell? a = some v) : (W.alloc o).cell? a = some v := cell_kept h (World.grownBy_alloc W o none) (fun r e => by cases e)

theorem frozenA {W : World} {a : Addr} {v : Value} (o : Obj) (h : W.cell? a = some v) (hf : W.frozen? a = false) : (W.alloc o).frozen? a = false := (frozen_kept h (World.grownBy_alloc W o none) (fun r e => by cases e)).trans hf

/-- What the loop's own books are when they are turned: a new block, or one that is no variable's. -/
def Turn (B : Nat) (W W' : World) : Prop := ∃ row, W.grownBy W' row ∧ ∀ r, row = some r → B ≤ r ∧ ∃ o : Obj, W.heap[r]? = some o ∧ o.isCells = false

/-- A row of the call's own stands while blocks turn that are no rows. -/
theorem own_turn {W W' : World} {row : Option Nat} {base size n : Nat} {e : TypeId} {v : Value} {xs : List Value} (h : W.ownsRow base e size v n xs) (hg : W.grownBy W' row) (hr : ∀ r, row = some r → ∃ o : Obj, W.heap[r]? = some o ∧ o.isCells = false) : W'.ownsRow base e size v n xs := by
  refine ⟨h.1, ?_⟩
  rcases h.2 with h1 | ⟨g, cap, cur, e1, hb, hblk, h4⟩
  · exact .inl h1
  · refine .inr ⟨g, cap, cur, e1, hb, ?_, h4⟩
    rw [hg.block g (Array.getElem?_eq_some_iff.1 hblk).1 ?_]
    · exact hblk
    · intro e
      obtain ⟨o, ho, hc⟩ := hr g e.symm
      rw [hblk] at ho
      cases ho
      cases hc

theorem boxed_turn {W W' : World} {row : Option Nat} {B : Nat} {t : TypeId} {v : Value} (h : Boxed W B t v) (hg : W.grownBy W' row) (hr : ∀ r, row = some r → ∃ o : Obj, W.heap[r]? = some o ∧ o.isCells = false) : Boxed W' B t v := h.kept hg (fun e => by
  obtain ⟨o, ho, hc⟩ := hr B e.symm
  have hb : W.heap[B]? = some _ := h
  rw [hb] at ho
  cases ho
  cases hc)

theorem Turn.cells {B : Nat} {W W' : World} (t : Turn B W W') {b : Nat} {c : Array Value} {ty : TypeId} {f : Nat × Nat} (h : W.heap[b]? = some (.cells c ty f)) : W'.heap[b]? = some (.cells c ty f) := by
  obtain ⟨row, hg, hr⟩ := t
  rw [hg.block b (Array.getElem?_eq_some_iff.1 h).1 ?_]
  · exact h
  · intro e
    obtain ⟨_, o, ho, hc⟩ := hr b e.symm
    rw [h] at ho
    cases ho
    cases hc

theorem Turn.kept {B : Nat} {S : Nat → Prop} {w W W' : World} (t : Turn B W W') (k : Kept S w W) (hB : w.heap.size ≤ B) : Kept S w W' := by
  obtain ⟨row, hg, hr⟩ := t
  exact k.grown hg (fun b e hb => by have := (hr b e).1; omega)

theorem Turn.own {B : Nat} {W W' : World} (t : Turn B W W') {base size n : Nat} {e : TypeId} {v : Value} {xs : List Value} (h : W.ownsRow base e size v n xs) : W'.ownsRow base e size v n xs := by
  obtain ⟨row, hg, hr⟩ := t
  exact own_turn h hg (fun r e => (hr r e).2)

theorem Turn.cell {B : Nat} {W W' : World} (t : Turn B W W') {a : Addr} {v : Value} (h : W.cell? a = some v) : W'.cell? a = some v := by
  obtain ⟨row, hg, hr⟩ := t
  exact cell_kept h hg (fun r e => (hr r e).2)

theorem Turn.row {B : Nat} {W W' : World} (t : Turn B W W') {k : IntKind} {v : Value} {zs : List Nat} (h : Row k W v zs) : Row k W' v zs := by
  obtain ⟨ao, cap, rfl, h1, h2, h3, h4⟩ := h
  refine ⟨ao, cap, rfl, h1, h2, h3, fun i hi => ?_⟩
  obtain ⟨b, off, rfl, hc⟩ := h4 i hi
  exact ⟨b, off, rfl, t.cell hc⟩

/-- The end of a loop turns the book of its deferred calls. -/
theorem turn_put {B D : Nat} {W : World} {o : Obj} (hD : B ≤ D) (hK : W.heap[D]? = some o) (ho : o.isCells = false) (o' : Obj) : Turn B W (W.putObj D o') :=
  ⟨some D, grownBy_putObj' W D o', fun r e => by cases e; exact ⟨hD, o, hK, ho⟩⟩

/-- What holds through every turn is what a range over a function asks of what stands between its rounds. -/
theorem ownFrom_turn {β : Type} {B : Nat} {I : β → World → Prop} (h : ∀ s W W', I s W → Turn B W W' → I s W') : OwnFrom B I := fun s W W' row hs hg hr => h s W W' hs ⟨row, hg, hr⟩

/-- What is seen of a call keeps whatever is no variable's. -/
theorem keepsFrom_kept {B : Nat} {S : Nat → Prop} {W W' : World} (k : Kept S W W') (hS : ∀ b, S b → B ≤ b → ∃ c ty f, W.heap[b]? = some (.cells c ty f)) : KeepsFrom B W W' :=
  ⟨k.size, fun b o hb hk ho => by
    rw [← hk]
    refine k.block b (Array.getElem?_eq_some_iff.1 hk).1 (fun hs => ?_)
    obtain ⟨c, ty, f, h⟩ := hS b hs hb
    rw [h] at hk
    cases hk
    cases ho⟩

end Go.Proofs.YtcjaafmlflonhaaGreatDoor


/- What a range over a function asks of memory (Seq0), and of traces. -/
namespace Go.Proofs.YtcjaafmlflonhaaGreatDoor
open Go.RowKit Go.Shelf

theorem Turn.isTr {B : Nat} {W W' : World} (t : Turn B W W') {p : Nat} {g : Option Nat} {l : List Ev} (h : IsTr W p g l) : IsTr W' p g l := by
  obtain ⟨v, s, h1, h2, h3, h4⟩ := h
  exact ⟨v, s, t.cells h1, h2, t.own h3, h4⟩

theorem Turn.did {B : Nat} {w W W' : World} (t : Turn B W W') {o o' : Tr} {m : List Ev} (d : Did w o m W o') (hB : w.heap.size ≤ B) : Did w o m W' o' := by
  refine ⟨t.kept d.1 hB, ?_⟩
  rcases d.2 with h1 | ⟨p, g, l, g', e1, e2, ht, hg⟩
  · exact .inl h1
  · exact .inr ⟨p, g, l, g', e1, e2, t.isTr ht, hg⟩

end Go.Proofs.YtcjaafmlflonhaaGreatDoor


/- Melted of: PowN PowA PowB. -/

/- Package power: its numbers: Montgomery's form, windows of four bits. -/
namespace Go.Proofs.YtcjaafmlflonhaaGreatDoor
open Go.RowKit

/-- A number as Enter has it. -/
def mon (n V X : Nat) : Nat := 2 ^ (64 * n) * X % V

theorem mon_lt {n V X : Nat} (hV : 0 < V) : mon n V X < V := Nat.mod_lt _ hV

theorem mon_mod (n V X : Nat) : mon n V (X % V) = mon n V X := by
  unfold mon
  rw [Nat.mul_mod, Nat.mod_mod, ← Nat.mul_mod]

theorem mon_zero (n V : Nat) : mon n V 0 = 0 := by
  unfold mon
  rw [Nat.mul_zero, Nat.zero_mod]

theorem mon_mul {n V A B Y : Nat} (hodd : V % 2 = 1) (h1 : Y < V) (h2 : 2 ^ (64 * n) * Y % V = mon n V A * mon n V B % V) : Y = mon n V (A * B) := by
  have hco : Nat.Coprime (2 ^ (64 * n)) V := (odd_coprime hodd).symm
  refine (Nat.mod_eq_of_lt h1).symm.trans ?_
  unfold mon at *
  refine cancel_mod hco ?_
  rw [h2, ← Nat.mul_mod]
  congr 1
  generalize 2 ^ (64 * n) = R
  grind

theorem mon_leave {n V A Y : Nat} (hodd : V % 2 = 1) (h1 : Y < V) (h2 : 2 ^ (64 * n) * Y % V = mon n V A % V) : Y = A % V := by
  have hco : Nat.Coprime (2 ^ (64 * n)) V := (odd_coprime hodd).symm
  refine (Nat.mod_eq_of_lt h1).symm.trans ?_
  refine cancel_mod hco ?_
  rw [h2]
  unfold mon
  rw [Nat.mod_mod]

end Go.Proofs.YtcjaafmlflonhaaGreatDoor

/- Package power: attempt, refuse, step; a modulus and numbers in Montgomery's form, in memory; Mul, Enter and Leave on them. -/
namespace Go.Proofs.YtcjaafmlflonhaaGreatDoor
open Go.RowKit

/-- A modulus that is one, apart from the trace. -/
structure Mod8 (w : World) (o : Tr) (ao bo : Option Addr) (n l K mcap rcap : Nat) (ms rs : List Nat) : Prop where
  hm : RowT w o (.slice ao n mcap) ms
  hr : RowT w o (.slice bo l rcap) rs
  hmd : Digs 18446744073709551616 ms
  hrd : Digs 18446744073709551616 rs
  hK : K < 18446744073709551616
  ok : okMod ms K rs

theorem Mod8.did {w w' : World} {o o' : Tr} {m : List Ev} {ao bo : Option Addr} {n l K mcap rcap : Nat} {ms rs : List Nat} (h : Mod8 w o ao bo n l K mcap rcap ms rs) (d : Did w o m w' o') : Mod8 w' o' ao bo n l K mcap rcap ms rs := ⟨h.hm.did d, h.hr.did d, h.hmd, h.hrd, h.hK, h.ok⟩

theorem Mod8.grew {w w' : World} {o : Tr} {ao bo : Option Addr} {n l K mcap rcap : Nat} {ms rs : List Nat} (h : Mod8 w o ao bo n l K mcap rcap ms rs) (k : Kept Nought w w') : Mod8 w' o ao bo n l K mcap rcap ms rs := ⟨h.hm.grew k, h.hr.grew k, h.hmd, h.hrd, h.hK, h.ok⟩

/-- What is known of its numbers. -/
theorem Mod8.facts {w : World} {o : Tr} {ao bo : Option Addr} {n l K mcap rcap : Nat} {ms rs : List Nat} (h : Mod8 w o ao bo n l K mcap rcap ms rs) : (0 < n ∧ n ≤ 130) ∧ l = n ∧ val 18446744073709551616 ms % 2 = 1 ∧ 2 ≤ val 18446744073709551616 ms ∧ val 18446744073709551616 ms < 18446744073709551616 ^ n := by
  obtain ⟨_, _, _, e1, h1, _⟩ := h.hm.1.open
  cases e1
  obtain ⟨_, _, _, e1, h2, _⟩ := h.hr.1.open
  cases e1
  obtain ⟨_, f2, f3, f4, f5, f6, _⟩ := h.ok.facts h1.out h2.out h.hmd h.hrd h.hK
  have m := montE_ok h.ok.1
  exact ⟨⟨f2, f3⟩, f4, f5, by omega, f6⟩

/-- A number in Montgomery's form, in a block of words. -/
def MonAt (w : World) (v : Value) (n V P : Nat) : Prop := Row .u64 w v (digs 18446744073709551616 (mon n V P) n) ∧ U64s w v

theorem MonAt.did {w w' : World} {o o' : Tr} {m : List Ev} {v : Value} {n V P : Nat} (h : MonAt w v n V P) (d : Did w o m w' o') (ht : TrIn w o) : MonAt w' v n V P := ⟨((h.2.rowT h.1 ht).did d).1, h.2.did d ht⟩

theorem MonAt.grew {w w' : World} {v : Value} {n V P : Nat} (h : MonAt w v n V P) (k : Kept Nought w w') : MonAt w' v n V P := ⟨h.1.grew k, h.2.grew k⟩

theorem MonAt.kept {S : Nat → Prop} {w w' : World} {v : Value} {n V P : Nat} (h : MonAt w v n V P) (k : Kept S w w') (hs : ∀ b, v.ownBlock = some b → ¬ S b) : MonAt w' v n V P := ⟨h.1.kept k hs, h.2.kept k hs⟩

theorem MonAt.shape {w : World} {v : Value} {n V P : Nat} (h : MonAt w v n V P) : ∃ xo xc, v = .slice xo n xc := by
  obtain ⟨xo, xn, xc, rfl, hl, _⟩ := h.1.open
  have := hl.out
  rw [digs_length] at this
  subst this
  exact ⟨_, _, rfl⟩

theorem mon_val {n V P : Nat} (hV : 0 < V) (hn : V < 18446744073709551616 ^ n) : val 18446744073709551616 (digs 18446744073709551616 (mon n V P) n) = mon n V P := by
  rw [val_digs, Nat.mod_eq_of_lt (Nat.lt_trans (mon_lt hV) hn)]

end Go.Proofs.YtcjaafmlflonhaaGreatDoor

/- Package power: the sixteen powers that stand ready (powers). -/
namespace Go.Proofs.YtcjaafmlflonhaaGreatDoor
open Go.RowKit

/-- A row of numbers, in a block of its own type, is no part of a trace. -/
theorem ownN_apart {w : World} {o : Tr} {base size n : Nat} {v : Value} {xs : List Value} (h : w.ownsRow base 31 size v n xs) (ht : TrIn w o) : ∀ b, v.ownBlock = some b → ¬ trFoot o b := by
  rcases h.2 with ⟨rfl, _⟩ | ⟨g', cap, cur, rfl, _, hgg, _⟩
  · intro b hb
    cases hb
  · intro b hb
    have e : g' = b := by simpa [Value.ownBlock] using hb
    subst e
    exact cells_apart hgg ht (by decide) (by decide)

/-- Numbers lie in other blocks than a row of numbers. -/
theorem u64s_ne {w : World} {base size n : Nat} {v u : Value} {xs : List Value} (h : w.ownsRow base 31 size v n xs) (hu : U64s w u) : ∀ b, u.ownBlock = some b → v.ownBlock ≠ some b := by
  intro b hb e
  obtain ⟨cs, fr, hg⟩ := hu b hb
  rcases h.2 with ⟨rfl, _⟩ | ⟨g', cap, cur, rfl, _, hgg, _⟩
  · cases e
  · have e' : g' = b := by simpa [Value.ownBlock] using e
    subst e'
    rw [hgg] at hg
    simp only [Option.some.injEq, Obj.cells.injEq] at hg
    exact absurd hg.2.1 (by decide)

/-- A table: the first k powers of X in Montgomery's form; each number is new since w0, or xv. -/
def Tab8 (w0 w : World) (xv v : Value) (n k : Nat) (A : Nat → Option Addr) (C : Nat → Nat) (V X : Nat) : Prop :=
  w.ownsRow w0.heap.size 31 1 v k ((List.range k).map fun j => .slice (A j) n (C j)) ∧ ∀ j, j < k → MonAt w (.slice (A j) n (C j)) n V (X ^ j) ∧ (Fresh w0 (.slice (A j) n (C j)) ∨ Value.slice (A j) n (C j) = xv)

theorem Tab8.did {w0 w w' : World} {o o' : Tr} {m : List Ev} {xv v : Value} {n k V X : Nat} {A : Nat → Option Addr} {C : Nat → Nat} (h : Tab8 w0 w xv v n k A C V X) (d : Did w o m w' o') (ht : TrIn w o) : Tab8 w0 w' xv v n k A C V X :=
  ⟨d.kept.own h.1 (ownN_apart h.1 ht), fun j hj => ⟨(h.2 j hj).1.did d ht, (h.2 j hj).2⟩⟩

theorem Tab8.grew {w0 w w' : World} {xv v : Value} {n k V X : Nat} {A : Nat → Option Addr} {C : Nat → Nat} (h : Tab8 w0 w xv v n k A C V X) (kk : Kept Nought w w') : Tab8 w0 w' xv v n k A C V X :=
  ⟨kk.own h.1 (fun _ _ f => f), fun j hj => ⟨(h.2 j hj).1.grew kk, (h.2 j hj).2⟩⟩

theorem Tab8.push {w0 W w4 : World} {xv out : Value} {n k V X g cap : Nat} {A : Nat → Option Addr} {C : Nat → Nat} {yo : Option Addr} {yc : Nat} (h : Tab8 w0 W xv out n k A C V X) (hy : MonAt W (.slice yo n yc) n V (X ^ k)) (hf : Fresh w0 (.slice yo n yc))
    (ho : w4.ownsRow w0.heap.size 31 1 (.slice (some ⟨g, 0, none⟩) (k + 1) cap) (k + 1) (((List.range k).map fun j => .slice (A j) n (C j)) ++ [.slice yo n yc])) (hg : W.grownBy w4 out.ownBlock) :
    Tab8 w0 w4 xv (.slice (some ⟨g, 0, none⟩) (k + 1) cap) n (k + 1) (fun j => if j = k then yo else A j) (fun j => if j = k then yc else C j) V X := by
  have kk : Kept (fun b => out.ownBlock = some b) W w4 := (Kept.refl _ W).grown hg (fun b e _ => e)
  refine ⟨?_, fun j hj => ?_⟩
  · rw [List.range_succ, List.map_append, List.map_cons, List.map_nil]
    dsimp only
    rw [if_pos rfl, if_pos rfl]
    have e : ((List.range k).map fun j => Value.slice (if j = k then yo else A j) n (if j = k then yc else C j)) = (List.range k).map fun j => Value.slice (A j) n (C j) := by
      refine List.map_congr_left (fun j hj => ?_)
      have : j < k := List.mem_range.1 hj
      rw [if_neg (by omega), if_neg (by omega)]
    rw [e]
    exact ho
  · by_cases e : j = k
    · subst e
      dsimp only
      rw [if_pos rfl, if_pos rfl]
      exact ⟨hy.kept kk (u64s_ne h.1 hy.2), .inl hf⟩
    · dsimp only
      rw [if_neg e, if_neg e]
      obtain ⟨h1, h2⟩ := h.2 j (by omega)
      exact ⟨h1.kept kk (u64s_ne h.1 h1.2), h2⟩

theorem Tab8.after {w0 W w : World} {xv v : Value} {n k V X : Nat} {A : Nat → Option Addr} {C : Nat → Nat} (h : Tab8 W w xv v n k A C V X) (kk : Kept Nought w0 W) : Tab8 w0 w xv v n k A C V X :=
  ⟨own_base h.1 (fun b e => Nat.le_trans kk.size (World.ownsRow.lt h.1 b e).1), fun j hj => ⟨(h.2 j hj).1, (h.2 j hj).2.imp (fun f => f.after kk) id⟩⟩

theorem Tab8.at {w0 w : World} {xv : Value} {n k c g V X : Nat} {A : Nat → Option Addr} {C : Nat → Nat} (h : Tab8 w0 w xv (.slice (some ⟨g, 0, none⟩) k c) n k A C V X) {j : Nat} (hj : j < k) : w.cell? ⟨g, j, none⟩ = some (.slice (A j) n (C j)) := by
  rw [World.ownsRow.cellAt h.1 j (by omega), List.getElem?_map, List.getElem?_range hj]
  rfl

end Go.Proofs.YtcjaafmlflonhaaGreatDoor


/- Package miller: numbers of the strong test in Montgomery's form. -/
namespace Go.Proofs.YtcjaafmlflonhaaGreatDoor
open Go.RowKit

theorem mon_inj {n V A B : Nat} (hodd : V % 2 = 1) (h : mon n V A = mon n V B) : A % V = B % V := by
  have hV : 0 < V := by omega
  refine mon_leave (n := n) hodd (Nat.mod_lt _ hV) ?_
  rw [← h]
  unfold mon
  rw [Nat.mod_mod, Nat.mul_mod, Nat.mod_mod, ← Nat.mul_mod]

theorem mon_same {n V A B : Nat} (hodd : V % 2 = 1) : mon n V A = mon n V B ↔ A % V = B % V := by
  refine ⟨mon_inj hodd, fun h => ?_⟩
  rw [← mon_mod n V A, ← mon_mod n V B, h]

theorem mon_last {n V : Nat} (hodd : V % 2 = 1) (h1 : 1 < V) : V - mon n V 1 = mon n V (V - 1) := by
  have hV : 0 < V := by omega
  have ha := mon_lt (n := n) (X := 1) hV
  have hb := mon_lt (n := n) (X := V - 1) hV
  have hs : (mon n V 1 + mon n V (V - 1)) % V = 0 := by
    unfold mon
    rw [← Nat.add_mod, ← Nat.mul_add, show 1 + (V - 1) = V by omega, Nat.mul_mod_left]
  have h0 : mon n V 1 ≠ 0 := fun h => by
    have := mon_inj hodd (h.trans (mon_zero n V).symm)
    rw [Nat.mod_eq_of_lt h1, Nat.zero_mod] at this
    omega
  obtain ⟨q, hq⟩ := Nat.dvd_of_mod_eq_zero hs
  generalize mon n V 1 = a at *
  generalize mon n V (V - 1) = b at *
  rcases q with _ | _ | q
  · omega
  · omega
  · rw [show q + 1 + 1 = q + 2 by omega, Nat.mul_add] at hq
    have : V * 2 ≤ V * q + V * 2 := Nat.le_add_left _ _
    omega

theorem mon_sub {n V : Nat} (hodd : V % 2 = 1) (h1 : 1 < V) : subN V (mon n V 1) n = mon n V (V - 1) := by
  have ha := mon_lt (n := n) (X := 1) (show 0 < V by omega)
  unfold subN
  rw [if_neg (by omega)]
  exact mon_last hodd h1

/-- What the strong test says, of a base whose power B stands at the beginning of s squares. -/
theorem strong_of {N A s : Nat} (hs : IsTz (N - 1) s) : strongP N A ↔ (A ^ ((N - 1) / 2 ^ s) % N = 1 ∨ ∃ i, i < s ∧ (A ^ ((N - 1) / 2 ^ s)) ^ 2 ^ i % N = N - 1) := by
  constructor
  · rintro ⟨t, ht, h⟩
    obtain rfl := ht.uniq hs
    exact h
  · exact fun h => ⟨s, hs, h⟩

theorem sq_one {N B i : Nat} (h1 : 1 < N) (h : B ^ 2 ^ i % N = 1) : ∀ j, i ≤ j → B ^ 2 ^ j % N = 1 := by
  intro j hj
  obtain ⟨d, rfl⟩ : ∃ d, j = i + d := ⟨j - i, by omega⟩
  clear hj
  induction d with
  | zero => exact h
  | succ d ih =>
    rw [← Nat.add_assoc, ← sq_pow, ih, Nat.mul_one, Nat.mod_eq_of_lt h1]

theorem sq_mon (n V B i : Nat) : mon n V (B ^ 2 ^ i * B ^ 2 ^ i) = mon n V (B ^ 2 ^ (i + 1)) := by
  rw [← Nat.pow_add, show 2 ^ i + 2 ^ i = 2 ^ (i + 1) by rw [Nat.pow_succ]; omega]

end Go.Proofs.YtcjaafmlflonhaaGreatDoor


/- Package limbs: Right: what it answers and writes down, for any number. -/
namespace Go.Proofs.YtcjaafmlflonhaaGreatDoor
open Go.RowKit

theorem dig_above {X t n p : Nat} (hp : p < n) : dig 18446744073709551616 X p = dig 18446744073709551616 (X + t * 18446744073709551616 ^ n) p := by
  unfold dig
  have e : t * 18446744073709551616 ^ n = 18446744073709551616 ^ p * (t * 18446744073709551616 ^ (n - p - 1) * 18446744073709551616) := by
    rw [show n = p + ((n - p - 1) + 1) by omega, Nat.pow_add, Nat.pow_succ, show p + (n - p - 1 + 1) - p - 1 = n - p - 1 by omega]
    simp only [Nat.mul_left_comm, Nat.mul_comm]
  rw [e, Nat.add_mul_div_left _ _ (Nat.pow_pos (by omega)), Nat.add_mul_mod_self_right]

theorem right_dig (Z p : Nat) : dig 18446744073709551616 (Z / 2) p = dig 18446744073709551616 Z p / 2 + 9223372036854775808 * (Z / 18446744073709551616 ^ (p + 1) % 2) := by
  unfold dig
  rw [Nat.pow_succ, ← Nat.div_div_eq_div_mul, Nat.div_div_eq_div_mul Z 2, Nat.mul_comm 2, ← Nat.div_div_eq_div_mul]
  generalize Z / 18446744073709551616 ^ p = T
  omega

theorem shr_or (x c : Nat) (hx : x < 18446744073709551616) (hc : c ≤ 1) : bits .or .u64 ((x / 2 : Nat) : Int) ((9223372036854775808 * c : Nat) : Int) = ((x / 2 + 9223372036854775808 * c : Nat) : Int) := by
  rw [u64_or_nat _ _ (by omega) (by omega)]
  congr 1
  rw [Nat.or_comm, Nat.add_comm, show 9223372036854775808 * c = 2 ^ 63 * c from rfl, ← Nat.two_pow_add_eq_or_of_lt (by omega : x / 2 < 2 ^ 63)]

theorem set_top (D : List Nat) (n k m : Nat) (hl : D.length = n) (hk : k < n) (hm : m = n - 1 - k) : (List.replicate (n - k) 0 ++ D.drop (n - k)).set m (D.getD m 0) = List.replicate (n - (k + 1)) 0 ++ D.drop (n - (k + 1)) := by
  rw [show n - (k + 1) = m by omega, show n - k = m + 1 by omega, List.replicate_succ', List.append_assoc, List.set_append_right _ _ (by simp), List.length_replicate, Nat.sub_self, List.drop_eq_getElem_cons (show m < D.length by omega), List.getD_eq_getElem?_getD, List.getElem?_eq_getElem (show m < D.length by omega)]
  simp

/-- A row that is being filled from the top. -/
theorem top_cell {w : World} {base g n k m : Nat} {t : TypeId} {D : List Nat} (h : OwnN .u64 t w base (.slice (some ⟨g, 0, none⟩) n n) n (List.replicate (n - k) 0 ++ D)) (hk : k < n) (hm : m = n - 1 - k) : w.cell? ⟨g, m, none⟩ = some (.int .u64 0) := by
  rw [World.ownsRow.cellAt h m (by omega), List.getElem?_map, List.getElem?_append_left (by simp; omega), List.getElem?_replicate, if_pos (by omega)]
  rfl

set_option maxRecDepth 20000 in
set_option maxHeartbeats 2000000 in
/-- Right. -/
theorem lRight (o : Tr) (u : Value) (xs : List Nat) (bit : Nat) (hbit : bit < 18446744073709551616) (w : World) (ht : TrRoom w o 1) (hu : RowT w o u xs) (hdx : Digs 18446744073709551616 xs) (hL : xs.length ≤ 100000000) :
    Calls Tryz.prog 107 #[trPtr o, u, .int .u64 (bit : Nat)] w fun e w' => ∃ v', e = .returned (.tuple #[v', .int .u64 ((val 18446744073709551616 xs + bit % 2 * 18446744073709551616 ^ xs.length) % 2 : Nat)]) ∧
      OwnN .u64 23 w' w.heap.size v' xs.length (digs 18446744073709551616 ((val 18446744073709551616 xs + bit % 2 * 18446744073709551616 ^ xs.length) / 2) xs.length) ∧ ∃ o', Did w o [(1, (xs.length : Nat), 0)] w' o' := by
  obtain ⟨i0, hi0, hz0, hz1, hz2⟩ := info_parts Tryz.info23
  have hand := and_one_u64 (bit : Int) (by omega) (by omega)
  obtain ⟨bt, hbt⟩ : ∃ bt, bt = bit % 2 := ⟨_, rfl⟩
  rw [show (bit : Int) % 2 = (bt : Int) by omega] at hand
  rw [← hbt]
  have hb1 : bt ≤ 1 := by omega
  clear hbt
  have hself := toHid (digs_val_self hdx)
  have hX : Hid (val 18446744073709551616 xs < 18446744073709551616 ^ xs.length) := val_lt_le hdx (Nat.le_refl _)
  obtain ⟨ao, n, cap, rfl, hLx, _, _, _, _⟩ := hu.1.open
  have hnb : n ≤ 100000000 := by rw [← hLx.out]; exact hL
  rw [hLx.out] at hX hself ⊢
  have HU : Hid (RowT w o (.slice ao n cap) xs) := hu
  have HT : Hid (TrRoom w o 1) := ht
  have hS := tSpanDid o n w ht.1
  obtain ⟨tp, htp⟩ : ∃ tp, tp = trPtr o := ⟨_, rfl⟩
  rw [← htp] at hS ⊢
  clear hu ht hLx hdx htp hL
  generalize val 18446744073709551616 xs = X at *
  have hD : Hid (∀ p, p < n → dig 18446744073709551616 X p = dig 18446744073709551616 (X + bt * 18446744073709551616 ^ n) p) := fun p hp => dig_above hp
  have hB0 : Hid (bt = (X + bt * 18446744073709551616 ^ n) / 18446744073709551616 ^ n % 2) := by
    unfold Hid
    rw [Nat.add_mul_div_right _ _ (Nat.pow_pos (by omega)), Nat.div_eq_of_lt hX.out]; omega
  generalize X + bt * 18446744073709551616 ^ n = Z at *
  obtain ⟨C, hC⟩ : ∃ C, C = Z % 2 := ⟨_, rfl⟩
  rw [← hC]
  have HC := toHid hC
  clear hC
  go_enter Tryz.func107, Tryz.ntmps107
  go_wp2_with fail
  refine hS.mono ?_
  rintro e w4 ⟨rfl, o2, d2⟩
  have d4 := toHid d2
  have hr1 := HU.out.did d2
  obtain ⟨a1, n1, c1, e1, hN1, _, _, _, hn1⟩ := hr1.1.open
  simp only [Value.slice.injEq] at e1
  obtain ⟨rfl, rfl, rfl⟩ := e1
  have hw4 : Hid (w.heap.size ≤ w4.heap.size) := d2.size
  rw [← hself.out] at hn1
  clear hS d2 hr1 hN1
  go_wp2_with (at_make; refine wpList_make_full _ rfl _ _ 31 rfl w4.heap.size 23 i0 _ 1 Tryz.underlying31 hi0 hz0 hz1 _ _ _ _ n rfl rfl rfl rfl (by rw [hz2]; omega) (by unfold maxLen; omega) (Nat.le_refl _) ?_; intro w5 ho5 hg5)
  rw [zeros_map] at ho5
  have k5 := grown_kept hg5
  clear hg5
  go_loopw [10, 23] (fun c i wr => ∃ (k c' : Nat), k ≤ n ∧ c' ≤ 1 ∧ i = .int .i64 (k : Int) ∧ c = .int .u64 (c' : Int) ∧ OwnN .u64 23 wr w4.heap.size (.slice (some ⟨w4.heap.size, 0, none⟩) n n) n (List.replicate (n - k) 0 ++ (digs 18446744073709551616 (Z / 2) n).drop (n - k)) ∧ Kept Nought w4 wr ∧
      Hid (c' = Z / 18446744073709551616 ^ (n - k) % 2)) (fun _ i _ => n - (intOf i).toNat)
  case atStart => exact ⟨0, bt, Nat.zero_le _, hb1, rfl, rfl, by rw [Nat.sub_zero, List.drop_eq_nil_of_le (by rw [digs_length]; exact Nat.le_refl _), List.append_nil]; exact ho5, k5, hB0⟩
  case round =>
    obtain ⟨k, c, hk, hc, rfl, rfl, ho, hkp, HC2⟩ := hrel
    by_cases hkn : k < n
    · have hk0 : (0 : Int) ≤ (k : Int) := Int.natCast_nonneg _
      have hk1 : (k : Int) < (n : Int) := by omega
      obtain ⟨m, hm⟩ : ∃ m, m = n - 1 - k := ⟨_, rfl⟩
      obtain ⟨b1, off1, rfl, hc1⟩ := digs_at ((hn1 m (by omega)).grew hkp) (by omega)
      have hc0 := top_cell ho hkn hm
      have hf := World.ownsRow.frozenAt ho m
      have hst := fun u => (World.ownsRow.stored ho m u).1
      have hx : dig 18446744073709551616 X m < 18446744073709551616 := Nat.mod_lt _ (by omega)
      obtain ⟨z, hz⟩ : ∃ z : Nat, z = dig 18446744073709551616 X m / 2 + 9223372036854775808 * c := ⟨_, rfl⟩
      have hzd : z = dig 18446744073709551616 (Z / 2) m := by
        rw [hz, right_dig, hD.out m (by omega), HC2.out, show m + 1 = n - k by omega]
      have HST : Hid (OwnN .u64 23 (wr.setCell ⟨w4.heap.size, m, none⟩ (.int .u64 (z : Int))) w4.heap.size (.slice (some ⟨w4.heap.size, 0, none⟩) n n) n (List.replicate (n - (k + 1)) 0 ++ (digs 18446744073709551616 (Z / 2) n).drop (n - (k + 1)))) := by
        have := hst (.int .u64 (z : Int))
        unfold Hid OwnN
        rw [← set_top _ n k m (digs_length _ _ _) hkn hm, digs_getD _ _ _ _ (by omega), ← hzd, List.map_set]
        exact this
      have HCN : Hid (dig 18446744073709551616 X m % 2 = Z / 18446744073709551616 ^ (n - (k + 1)) % 2) := by
        unfold Hid
        rw [hD.out m (by omega), show n - (k + 1) = m by omega]
        unfold dig
        omega
      have hpl : (n : Int) - 1 - (k : Int) = (m : Int) := by omega
      have hm0 : (0 : Int) ≤ (m : Int) := Int.natCast_nonneg _
      have hm1 : (m : Int) < (n : Int) := by omega
      have HM : Hid (m = n - 1 - k) := hm
      clear hn1 HC2 hst ho5 k5 hzd hm
      generalize dig 18446744073709551616 X m = x at *
      have HOR : Hid (bits .or .u64 ((x : Int) / 2) ((c : Int) * 9223372036854775808) = (z : Int)) := by
        unfold Hid
        rw [show ((c : Int) * 9223372036854775808) = ((9223372036854775808 * c : Nat) : Int) by omega, show (x : Int) / 2 = ((x / 2 : Nat) : Int) by omega, shr_or x c hx hc, hz]
      have hand2 := and_one_u64 (x : Int) (by omega) (by omega)
      clear hz
      go_wp2_with fail
      go_region
      all_goals
        go_wp2_with fail
        rw [HOR.out]
        go_roundw
        case rel => exact ⟨k + 1, x % 2, by omega, by omega, by go_num, rfl, HST.out, (hkp.setCell _ (fun h => by simp at h) _).drew, HCN⟩
        case measure => simp [intOf]; omega
    · have hk1 : ¬ (k : Int) < (n : Int) := by omega
      have e : k = n := by omega
      subst e
      rw [Nat.sub_self, List.replicate_zero, List.nil_append, List.drop_zero] at ho
      have E2 : Hid (C = c) := by
        have := HC2.out
        rw [Nat.sub_self, Nat.pow_zero, Nat.div_one] at this
        exact HC.out.trans this.symm
      clear hn1 HC2 ho5 k5
      go_wp2_with fail
      go_ret2
      rw [E2.out]
      exact ⟨_, rfl, own_base ho (fun b hb => Nat.le_trans hw4.out (ho.lt b hb).1), o2, d4.out.grew hkp⟩

end Go.Proofs.YtcjaafmlflonhaaGreatDoor


/- Where the library functions that package nat calls lie in this translation: the tables of numbers, each row checked. -/
namespace Go.Proofs.YtcjaafmlflonhaaGreatDoor
open Go.Shelf

def l122_ren : Go.Shelf.Ren := ⟨fun | 122 => 83 | 215 => 121 | n => n, fun | 3 => 3 | 4 => 4 | n => n, fun n => n⟩

theorem l122 : Lays.n122 Tryz.prog l122_ren := {
  mixed := by kernel_rfl,
  f122 := Tryz.func83.trans (congrArg some (by kernel_rfl)),
  f215 := Tryz.func121.trans (congrArg some (by kernel_rfl)),
  t3 := Tryz.underlying3,
  a3 := Tryz.isAgg3,
  z3 := Tryz.sizeOf3,
  v3 := Tryz.zeroValue3,
  t4 := Tryz.underlying4,
  a4 := Tryz.isAgg4,
  z4 := Tryz.sizeOf4,
  v4 := Tryz.zeroValue4 }

end Go.Proofs.YtcjaafmlflonhaaGreatDoor

