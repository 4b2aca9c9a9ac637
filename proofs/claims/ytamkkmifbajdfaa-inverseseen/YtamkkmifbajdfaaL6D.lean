/- Two traces of a law's own, side by side, behind a world W0 of which nothing is changed. -/
import Derived.Test.YtamkkmifbajdfaaLaw6
import Derived.Test.YtamkkmifbajdfaaTra2
namespace Go.Proofs.Ytamkkmifbajdfaa
open Go.RowKit

def n6 {α : Type} (a b c d e f : α) : Nat → α := fun i => if i = 0 then a else if i = 1 then b else if i = 2 then c else if i = 3 then d else if i = 4 then e else f

theorem six_slots {W : World} {g : Nat} {A : Nat → Option Addr} {N C : Nat → Nat} {t : TypeId} (h : W.heap[g]? = some (.cells #[.slice (A 0) (N 0) (C 0), .slice (A 1) (N 1) (C 1), .slice (A 2) (N 2) (C 2), .slice (A 3) (N 3) (C 3), .slice (A 4) (N 4) (C 4), .slice (A 5) (N 5) (C 5)] t (0, 0))) : Slots W (some ⟨g, 0, none⟩) 6 A N C := by
  intro i hi
  refine ⟨g, 0, rfl, ?_⟩
  have h6 : i = 0 ∨ i = 1 ∨ i = 2 ∨ i = 3 ∨ i = 4 ∨ i = 5 := by omega
  rcases h6 with rfl | rfl | rfl | rfl | rfl | rfl
  · exact (cell_of_row W g 0 _ _ _ h).trans rfl
  · exact (cell_of_row W g 1 _ _ _ h).trans rfl
  · exact (cell_of_row W g 2 _ _ _ h).trans rfl
  · exact (cell_of_row W g 3 _ _ _ h).trans rfl
  · exact (cell_of_row W g 4 _ _ _ h).trans rfl
  · exact (cell_of_row W g 5 _ _ _ h).trans rfl

theorem few6 (A : Nat → Option Addr) (N C : Nat → Nat) (W : World) (R : Bool) (hR : R = decide (N 0 ≤ 40 ∧ N 1 ≤ 40 ∧ N 2 ≤ 40 ∧ N 3 ≤ 40 ∧ N 4 ≤ 40 ∧ N 5 ≤ 40)) :
    Calls Try.prog 38 #[.slice (some ⟨W.heap.size, 0, none⟩) 6 6] (W.alloc (.cells #[.slice (A 0) (N 0) (C 0), .slice (A 1) (N 1) (C 1), .slice (A 2) (N 2) (C 2), .slice (A 3) (N 3) (C 3), .slice (A 4) (N 4) (C 4), .slice (A 5) (N 5) (C 5)] 26)) fun r w' => r = .returned (.bool R) ∧ w' = W.alloc (.cells #[.slice (A 0) (N 0) (C 0), .slice (A 1) (N 1) (C 1), .slice (A 2) (N 2) (C 2), .slice (A 3) (N 3) (C 3), .slice (A 4) (N 4) (C 4), .slice (A 5) (N 5) (C 5)] 26) := by
  refine f5Few (some ⟨W.heap.size, 0, none⟩) 6 6 A N C _ (by omega) R ?_ (six_slots (heap_alloc_new W _))
  rw [hR]
  refine decide_eq_decide.2 ⟨fun h i hi => ?_, fun h => ⟨h 0 (by omega), h 1 (by omega), h 2 (by omega), h 3 (by omega), h 4 (by omega), h 5 (by omega)⟩⟩
  have h6 : i = 0 ∨ i = 1 ∨ i = 2 ∨ i = 3 ∨ i = 4 ∨ i = 5 := by omega
  rcases h6 with rfl | rfl | rfl | rfl | rfl | rfl
  · exact h.1
  · exact h.2.1
  · exact h.2.2.1
  · exact h.2.2.2.1
  · exact h.2.2.2.2.1
  · exact h.2.2.2.2.2

/-- One trace at p with the events es, behind W0. -/
def Solo (W0 W : World) (p : Nat) (es : List Ev) (o : Tr) : Prop := TrIn W o ∧ o ≠ none ∧ trPtr o = .pointer (some ⟨p, 0, none⟩) ∧ trEvs o = es ∧ ∀ b, trFoot o b → W0.heap.size ≤ b

def Duo (W0 W : World) (p q : Nat) (es et : List Ev) : Prop :=
  Kept Nought W0 W ∧ ∃ o r : Tr, Solo W0 W p es o ∧ Solo W0 W q et r ∧ ∀ b, trFoot o b → ¬ trFoot r b

theorem TrIn.apart2 {w w' : World} {o q : Tr} {m : List Ev} {o' : Tr} (h : TrIn w q) (d : Did w o m w' o') (hd : ∀ b, trFoot q b → ¬ trFoot o b) : TrIn w' q := by
  cases q with
  | none => trivial
  | some x =>
    obtain ⟨p, g, l⟩ := x
    exact ⟨h.1.kept d.kept (hd p (.inl rfl)) (fun x hx => hd x (.inr hx)), h.2⟩

theorem Duo.swap {W0 W : World} {p q : Nat} {es et : List Ev} (h : Duo W0 W p q es et) : Duo W0 W q p et es := by
  obtain ⟨k, o, r, h1, h2, h3⟩ := h
  exact ⟨k, r, o, h2, h1, fun b f g => h3 b g f⟩

theorem Duo.grew {W0 W W' : World} {p q : Nat} {es et : List Ev} (h : Duo W0 W p q es et) (k : Kept Nought W W') : Duo W0 W' p q es et := by
  obtain ⟨k0, o, r, h1, h2, h3⟩ := h
  exact ⟨k0.trans k, o, r, ⟨h1.1.grew k, h1.2⟩, ⟨h2.1.grew k, h2.2⟩, h3⟩

/-- A call that writes the first one. -/
theorem Duo.call {W0 W : World} {p q f : Nat} {es et m : List Ev} {args : Value → Array Value} (h : Duo W0 W p q es et) (hlen : es.length + 2000 < 1000000000000) (hm : m.length ≤ 2000)
    (hc : ∀ o, TrRoom W o 2000 → (∀ v zs, Row .u64 W0 v zs → RowT W o v zs) → Calls Try.prog f (args (trPtr o)) W fun e w' => ∃ x, e = .returned x ∧ ∃ o', Did W o m w' o') :
    Calls Try.prog f (args (.pointer (some ⟨p, 0, none⟩))) W fun e w' => ∃ x, e = .returned x ∧ Duo W0 w' p q (es ++ m) et := by
  obtain ⟨k, o, r, ⟨h1, h0, h2, h3, h4⟩, ⟨g1, g0, g2, g3, g4⟩, ha⟩ := h
  rw [← h2]
  have hroom : TrRoom W o 2000 := ⟨h1, by rw [h3]; exact hlen⟩
  refine (hc o hroom (fun v zs hr => ⟨hr.grew k, fun hn b hb f => ?_⟩)).mono ?_
  · have := hr.lt hn b hb
    have := h4 b f
    omega
  · rintro e w' ⟨x, rfl, o', d⟩
    refine ⟨x, rfl, ?_, o', r, ⟨(d.room (k := 0) (hroom.less (by omega))).1, ?_, by rw [d.ptr, h2], by rw [d.evs h0, h3], fun b f => ?_⟩, ⟨g1.apart2 d (fun b f g => ha b g f), g0, g2, g3, g4⟩, fun b f g => ?_⟩
    · exact k.next d.kept (fun x hx f => absurd (h4 x f) (by omega))
    · intro e
      have := d.ptr
      rw [e, h2] at this
      exact absurd this (by simp [trPtr])
    · by_cases hb : b < W.heap.size
      · exact h4 b (d.foot hb f)
      · have := k.size
        omega
    · have hb := g1.foot b g
      exact ha b (d.foot hb f) g

/-- Two new ones. -/
theorem Duo.new (W : World) : Duo W ((W.alloc newTr).alloc newTr) W.heap.size (W.heap.size + 1) [] [] := by
  have t0 : IsTr ((W.alloc newTr).alloc newTr) W.heap.size none [] := (newTr_is W).grew ((Kept.refl _ _).alloc _)
  have t1 : IsTr ((W.alloc newTr).alloc newTr) (W.heap.size + 1) none [] := by
    have := newTr_is (W.alloc newTr)
    simpa using this
  have hft : ∀ q b, trFoot (some (q, none, [])) b → b = q := fun q b f => by
    rcases f with f | f
    · exact f
    · cases f
  refine ⟨((Kept.refl _ _).alloc _).alloc _, some (W.heap.size, none, []), some (W.heap.size + 1, none, []), ⟨⟨t0, by simp⟩, by simp, rfl, rfl, fun b f => by rw [hft _ b f]; exact Nat.le_refl _⟩, ⟨⟨t1, by simp⟩, by simp, rfl, rfl, fun b f => by rw [hft _ b f]; omega⟩, fun b f g => ?_⟩
  have e1 := hft _ b f
  have e2 := hft _ b g
  omega

theorem Duo.same {W0 W : World} {p q : Nat} {es : List Ev} (h : Duo W0 W p q es es) :
    Calls Try.prog 16 #[.pointer (some ⟨p, 0, none⟩), .pointer (some ⟨q, 0, none⟩)] W fun e w' => e = .returned (.bool true) ∧ Duo W0 w' p q es es := by
  have h' := h
  obtain ⟨k, o, r, ⟨h1, h0, h2, h3, h4⟩, ⟨g1, g0, g2, g3, g4⟩, ha⟩ := h
  have hS := tSame o r W h1 g1
  rw [h2, g2, h3, g3, show sameB es es = true by simp [sameB]] at hS
  refine hS.mono ?_
  rintro e w' ⟨rfl, k⟩
  exact ⟨rfl, h'.grew k⟩

theorem Duo.many {W0 W : World} {p q : Nat} {es et : List Ev} (h : Duo W0 W p q es et) :
    Calls Try.prog 17 #[.pointer (some ⟨p, 0, none⟩)] W fun e w' => e = .returned (.int .i64 (es.length : Nat)) ∧ w' = W := by
  obtain ⟨k, o, r, ⟨h1, h0, h2, h3, h4⟩, ⟨g1, g0, g2, g3, g4⟩, ha⟩ := h
  have := tMany o W h1
  rw [h2, h3] at this
  exact this

def evM (n : Nat) : List Ev := if n ≤ 130 then List.replicate 2 (1, (n : Int), 0) ++ timesEvs n else []

def evE (n : Nat) : List Ev := if n ≤ 130 then List.replicate 1 (1, (n : Int), 0) ++ timesEvs n else []

def evL (n : Nat) : List Ev := if n ≤ 130 then List.replicate 1 (1, (n : Int), 0) ++ List.replicate (n + 2) (1, (n : Int), 0) else []

theorem ev_len (n : Nat) : (evM n).length ≤ 2000 ∧ (evE n).length ≤ 2000 ∧ (evL n).length ≤ 2000 ∧ (n ≤ 130 → 0 < (evM n).length) := by
  unfold evM evE evL timesEvs
  by_cases h : n ≤ 130
  · simp only [if_pos h]
    simp
    omega
  · simp only [if_neg h]
    simp
    omega

end Go.Proofs.Ytamkkmifbajdfaa
