/- A trace that goes on: what a call that writes events down leaves, with the trace as it is then; numbers that lie apart from it. -/
import Derived.Test.YtnjmckfkfkalgabTCalls
import Derived.Test.YtnjmckfkfkalgabCopies
namespace Go.Proofs.Ytnjmckfkfkalgab
open Go.RowKit

/-- From w to w' the events m were written down: the trace o has become o'; all else is kept. -/
def Did (w : World) (o : Tr) (m : List Ev) (w' : World) (o' : Tr) : Prop :=
  Kept (trFoot o) w w' ∧ ((o = none ∧ o' = none) ∨ ∃ p g l g', o = some (p, g, l) ∧ o' = some (p, g', l ++ m) ∧ IsTr w' p g' (l ++ m) ∧ (g' = g ∨ ∃ x, g' = some x ∧ w.heap.size ≤ x))

/-- The trace has room for k events more. -/
def TrRoom (w : World) (o : Tr) (k : Nat) : Prop := TrIn w o ∧ (trEvs o).length + k < 1000000000000

theorem TrRoom.none (w : World) (k : Nat) (hk : k < 1000000000000) : TrRoom w none k := ⟨trivial, by simp [trEvs]; omega⟩

theorem TrRoom.less {w : World} {o : Tr} {k j : Nat} (h : TrRoom w o k) (hj : j ≤ k) : TrRoom w o j := ⟨h.1, by have := h.2; omega⟩

theorem TrRoom.grew {w w' : World} {o : Tr} {k : Nat} (h : TrRoom w o k) (hk : Kept Nought w w') : TrRoom w' o k := ⟨h.1.grew hk, h.2⟩

theorem Did.kept {w w' : World} {o o' : Tr} {m : List Ev} (h : Did w o m w' o') : Kept (trFoot o) w w' := h.1

theorem Did.size {w w' : World} {o o' : Tr} {m : List Ev} (h : Did w o m w' o') : w.heap.size ≤ w'.heap.size := h.1.size

theorem Did.ptr {w w' : World} {o o' : Tr} {m : List Ev} (h : Did w o m w' o') : trPtr o' = trPtr o := by
  rcases h.2 with ⟨rfl, rfl⟩ | ⟨p, g, l, g', rfl, rfl, _⟩ <;> rfl

theorem Did.len {w w' : World} {o o' : Tr} {m : List Ev} (h : Did w o m w' o') : (trEvs o').length ≤ (trEvs o).length + m.length := by
  rcases h.2 with ⟨rfl, rfl⟩ | ⟨p, g, l, g', rfl, rfl, _⟩
  · simp
  · simp [trEvs]

theorem Did.evs {w w' : World} {o o' : Tr} {m : List Ev} (h : Did w o m w' o') (ho : o ≠ none) : trEvs o' = trEvs o ++ m := by
  rcases h.2 with ⟨rfl, rfl⟩ | ⟨p, g, l, g', rfl, rfl, _⟩
  · exact absurd rfl ho
  · rfl

theorem Did.room {w w' : World} {o o' : Tr} {m : List Ev} {k : Nat} (h : Did w o m w' o') (hr : TrRoom w o (m.length + k)) : TrRoom w' o' k := by
  have hl := h.len
  have h2 := hr.2
  refine ⟨?_, by omega⟩
  rcases h.2 with ⟨rfl, rfl⟩ | ⟨p, g, l, g', rfl, rfl, ht, _⟩
  · trivial
  · exact ⟨ht, by simp only [trEvs] at hl; simp only [trEvs] at h2; rw [List.length_append]; omega⟩

theorem Did.foot {w w' : World} {o o' : Tr} {m : List Ev} (h : Did w o m w' o') {b : Nat} (hb : b < w.heap.size) (hf : trFoot o' b) : trFoot o b := by
  rcases h.2 with ⟨rfl, rfl⟩ | ⟨p, g, l, g', rfl, rfl, _, hg⟩
  · exact hf
  · rcases hf with rfl | hf
    · exact .inl rfl
    · rcases hg with rfl | ⟨x, rfl, hx⟩
      · exact .inr hf
      · simp at hf; omega

theorem Did.trans {w w1 w2 : World} {o o1 o2 : Tr} {m m' : List Ev} (h : Did w o m w1 o1) (k : Did w1 o1 m' w2 o2) : Did w o (m ++ m') w2 o2 := by
  refine ⟨h.1.next k.1 (fun x hx hf => h.foot hx hf), ?_⟩
  rcases h.2 with ⟨rfl, rfl⟩ | ⟨p, g, l, g', rfl, rfl, ht, hg⟩
  · rcases k.2 with ⟨_, rfl⟩ | ⟨_, _, _, _, e, _⟩
    · exact .inl ⟨rfl, rfl⟩
    · cases e
  · rcases k.2 with ⟨e, _⟩ | ⟨p2, g2, l2, g2', e, rfl, ht2, hg2⟩
    · cases e
    · simp only [Option.some.injEq, Prod.mk.injEq] at e
      obtain ⟨rfl, rfl, rfl⟩ := e
      refine .inr ⟨_, _, _, _, rfl, by rw [List.append_assoc], by rw [← List.append_assoc]; exact ht2, ?_⟩
      rcases hg2 with rfl | ⟨x, rfl, hx⟩
      · exact hg
      · exact .inr ⟨x, rfl, Nat.le_trans h.1.size hx⟩

theorem Did.of_kept {w w' : World} {o : Tr} (h : Kept Nought w w') (ht : TrIn w o) : Did w o [] w' o := by
  refine ⟨h.any, ?_⟩
  cases o with
  | none => exact .inl ⟨rfl, rfl⟩
  | some x =>
    obtain ⟨p, g, l⟩ := x
    exact .inr ⟨p, g, l, g, rfl, by simp, by simpa using ht.1.grew h, .inl rfl⟩

theorem Did.grew {w w' w2 : World} {o o' : Tr} {m : List Ev} (h : Did w o m w' o') (k : Kept Nought w' w2) : Did w o m w2 o' := by
  refine ⟨h.1.trans k.any, ?_⟩
  rcases h.2 with h1 | ⟨p, g, l, g', e1, e2, ht, hg⟩
  · exact .inl h1
  · exact .inr ⟨p, g, l, g', e1, e2, ht.grew k, hg⟩

theorem Did.after {a w w' : World} {o o' : Tr} {m : List Ev} (k : Kept Nought a w) (h : Did w o m w' o') : Did a o m w' o' := by
  refine ⟨k.any.trans h.1, ?_⟩
  rcases h.2 with h1 | ⟨p, g, l, g', e1, e2, ht, hg⟩
  · exact .inl h1
  · refine .inr ⟨p, g, l, g', e1, e2, ht, ?_⟩
    rcases hg with hg | ⟨x, e, hx⟩
    · exact .inl hg
    · exact .inr ⟨x, e, Nat.le_trans k.size hx⟩

theorem Did.of_wrote {w w' : World} {o : Tr} {m : List Ev} (h : Wrote w m w' o) : ∃ o', Did w o m w' o' := by
  have hk := h.kept
  cases o with
  | none => exact ⟨none, hk, .inl ⟨rfl, rfl⟩⟩
  | some x =>
    obtain ⟨p, g, l⟩ := x
    obtain ⟨_, g', ht, hg⟩ := h
    exact ⟨some (p, g', l ++ m), hk, .inr ⟨p, g, l, g', rfl, rfl, ht, hg⟩⟩

theorem Did.none {w w' : World} {o' : Tr} {m : List Ev} (h : Did w none m w' o') : o' = none ∧ Kept Nought w w' := by
  rcases h.2 with ⟨_, rfl⟩ | ⟨_, _, _, _, e, _⟩
  · exact ⟨rfl, h.1.mono (fun _ _ f => f)⟩
  · cases e

/-- A number in memory that lies apart from the trace. -/
def RowT (w : World) (o : Tr) (v : Value) (xs : List Nat) : Prop := Row .u64 w v xs ∧ (xs ≠ [] → ∀ b, v.ownBlock = some b → ¬ trFoot o b)

theorem RowT.row {w : World} {o : Tr} {v : Value} {xs : List Nat} (h : RowT w o v xs) : Row .u64 w v xs := h.1

theorem RowT.none {w : World} {v : Value} {xs : List Nat} (h : Row .u64 w v xs) : RowT w none v xs := ⟨h, fun _ _ _ f => f⟩

theorem Row.lt {k : IntKind} {w : World} {v : Value} {xs : List Nat} (h : Row k w v xs) (hne : xs ≠ []) : ∀ b, v.ownBlock = some b → b < w.heap.size := by
  obtain ⟨ao, cap, rfl, _, _, _, hc⟩ := h
  intro b hb
  have : 0 < xs.length := by
    rcases xs with _ | ⟨x, r⟩
    · exact absurd rfl hne
    · simp
  obtain ⟨b', off, rfl, hcell⟩ := hc 0 this
  have e : b' = b := by simpa [Value.ownBlock] using hb
  subst e
  exact World.block_lt_of_cell? w _ hcell

theorem Row.kept' {S : Nat → Prop} {k : IntKind} {w w' : World} {v : Value} {zs : List Nat} (h : Row k w v zs) (hk : Kept S w w') (hs : zs ≠ [] → ∀ b, v.ownBlock = some b → ¬ S b) : Row k w' v zs := by
  by_cases h0 : zs = []
  · subst h0
    obtain ⟨ao, cap, rfl, h1, h2, h3, _⟩ := h
    exact ⟨ao, cap, rfl, h1, h2, h3, fun i hi => absurd hi (by simp)⟩
  · exact h.kept hk (hs h0)

theorem RowT.did {w w' : World} {o o' : Tr} {m : List Ev} {v : Value} {xs : List Nat} (h : RowT w o v xs) (d : Did w o m w' o') : RowT w' o' v xs :=
  ⟨h.1.kept' d.1 h.2, fun hne b hb hf => h.2 hne b hb (d.foot (h.1.lt hne b hb) hf)⟩

theorem RowT.grew {w w' : World} {o : Tr} {v : Value} {xs : List Nat} (h : RowT w o v xs) (k : Kept Nought w w') : RowT w' o v xs := ⟨h.1.grew k, h.2⟩

/-- What the call itself has made lies apart from every trace. -/
theorem own_apart {w : World} {o : Tr} {base size n : Nat} {v : Value} {xs : List Value} (h : w.ownsRow base 24 size v n xs) (ht : TrIn w o) : ∀ b, v.ownBlock = some b → ¬ trFoot o b := by
  cases o with
  | none => intro _ _ f; exact f
  | some x =>
    obtain ⟨p, g, l⟩ := x
    obtain ⟨⟨u, s, hp, hg, hr, _⟩, _⟩ := ht
    rcases h.2 with ⟨rfl, _⟩ | ⟨g', cap, cur, rfl, _, hgg, _⟩
    · intro b hb; cases hb
    · intro b hb hf
      have e : g' = b := by simpa [Value.ownBlock] using hb
      subst e
      rcases hf with rfl | hf
      · rw [hp] at hgg; simp at hgg
      · rcases hr.2 with ⟨rfl, _⟩ | ⟨g2, cap2, cur2, rfl, _, hgg2, _⟩
        · rw [← hg] at hf; cases hf
        · rw [← hg] at hf
          have e : g2 = g' := by simpa [Value.ownBlock] using hf
          subst e
          rw [hgg2] at hgg; simp at hgg

/-- Nor is a block of another type a part of it. -/
theorem cells_apart {w : World} {o : Tr} {g : Nat} {cs : Array Value} {t : TypeId} {fr : Nat × Nat} (h : w.heap[g]? = some (.cells cs t fr)) (ht : TrIn w o) (h1 : t ≠ 51) (h2 : t ≠ 58) : ¬ trFoot o g := by
  cases o with
  | none => intro f; exact f
  | some x =>
    obtain ⟨p, g1, l⟩ := x
    obtain ⟨⟨u, s, hp, hg, hr, _⟩, _⟩ := ht
    intro hf
    rcases hf with rfl | hf
    · rw [hp] at h; simp only [Option.some.injEq, Obj.cells.injEq] at h; exact h1 h.2.1.symm
    · rcases hr.2 with ⟨rfl, _⟩ | ⟨g2, cap2, cur2, rfl, _, hgg2, _⟩
      · rw [← hg] at hf; cases hf
      · rw [← hg] at hf
        have e : g2 = g := by simpa [Value.ownBlock] using hf
        subst e
        rw [hgg2] at h; simp only [Option.some.injEq, Obj.cells.injEq] at h; exact h2 h.2.1.symm

theorem own_rowT {w : World} {o : Tr} {base n : Nat} {v : Value} {zs : List Nat} (h : OwnN .u64 24 w base v n zs) (hl : zs.length = n) (ht : TrIn w o) : RowT w o v zs :=
  ⟨Row.of_own (base := base) (e := 24) (by rw [hl]; exact h), fun _ => own_apart h ht⟩

/-- What is written into a new block that is no part of the trace. -/
theorem Did.wroteNew {w w' w2 : World} {o o' : Tr} {m : List Ev} {h : Nat} (d : Did w o m w' o') (k : Kept (fun b => b = h) w' w2) (hh : w.heap.size ≤ h) (hf : ¬ trFoot o' h) : Did w o m w2 o' := by
  refine ⟨d.1.next k (fun x hx e => by omega), ?_⟩
  rcases d.2 with h1 | ⟨p, g, l, g', e1, e2, ht, hg⟩
  · exact .inl h1
  · subst e2
    exact .inr ⟨p, g, l, g', e1, rfl, ht.kept k (fun e => hf (.inl e.symm)) (fun x hx e => hf (.inr (by rw [← e]; exact hx))), hg⟩

theorem tSpanDid (o : Tr) (n : Int) (w : World) (h : TrIn w o) :
    Calls Try.prog 22 #[trPtr o, .int .i64 n] w fun r w' => r = .returned (.tuple #[]) ∧ ∃ o', Did w o [(1, n, 0)] w' o' := by
  refine (tSpan o n w h).mono ?_
  rintro r w' ⟨rfl, hw⟩
  exact ⟨rfl, Did.of_wrote hw⟩

end Go.Proofs.Ytnjmckfkfkalgab
