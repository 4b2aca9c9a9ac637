/- Two traces of a law's own, side by side, behind a world W0 of which nothing is changed. (out of L6D and Duo2 in round 21: what speaks of no number) -/
import Derived.Test.YtegjdjfnpphipaaTra2
namespace Go.Proofs.Ytegjdjfnpphipaa
open Go.RowKit

/-- One trace at p with the events es, behind W0. -/
def Solo (W0 W : World) (p : Nat) (es : List Ev) (o : Tr) : Prop := TrIn W o ∧ o ≠ none ∧ trPtr o = .pointer (some ⟨p, 0, none⟩) ∧ trEvs o = es ∧ ∀ b, trFoot o b → W0.heap.size ≤ b

def Duo (W0 W : World) (p q : Nat) (es et : List Ev) : Prop :=
  Kept Nought W0 W ∧ ∃ o r : Tr, Solo W0 W p es o ∧ Solo W0 W q et r ∧ ∀ b, trFoot o b → ¬ trFoot r b

theorem TrIn.apart2 {w w' : World} {o q : Tr} {m : List Ev} {o' : Tr} (h : TrIn w q) (d : Did w o m w' o') (hd : ∀ b, trFoot q b → ¬ trFoot o b) : TrIn w' q := by
  cases q with
  | none => trivial
  | some x =>
    obtain ⟨p, g, l⟩ := x
    exact ⟨h.1.kept d.kept (hd p (.inl rfl)) (fun x hx => hd x (.inr hx)), h.2⟩

theorem Duo.swap {W0 W : World} {p q : Nat} {es et : List Ev} (h : Duo W0 W p q es et) : Duo W0 W q p et es := by
  obtain ⟨k, o, r, h1, h2, h3⟩ := h
  exact ⟨k, r, o, h2, h1, fun b f g => h3 b g f⟩

theorem Duo.grew {W0 W W' : World} {p q : Nat} {es et : List Ev} (h : Duo W0 W p q es et) (k : Kept Nought W W') : Duo W0 W' p q es et := by
  obtain ⟨k0, o, r, h1, h2, h3⟩ := h
  exact ⟨k0.trans k, o, r, ⟨h1.1.grew k, h1.2⟩, ⟨h2.1.grew k, h2.2⟩, h3⟩

/-- A call that writes the first one. -/
theorem Duo.call {W0 W : World} {p q f : Nat} {es et m : List Ev} {args : Value → Array Value} (h : Duo W0 W p q es et) (hlen : es.length + 2000 < 1000000000000) (hm : m.length ≤ 2000)
    (hc : ∀ o, TrRoom W o 2000 → (∀ v zs, Row .u64 W0 v zs → RowT W o v zs) → Calls Try.prog f (args (trPtr o)) W fun e w' => ∃ x, e = .returned x ∧ ∃ o', Did W o m w' o') :
    Calls Try.prog f (args (.pointer (some ⟨p, 0, none⟩))) W fun e w' => ∃ x, e = .returned x ∧ Duo W0 w' p q (es ++ m) et := by
  obtain ⟨k, o, r, ⟨h1, h0, h2, h3, h4⟩, ⟨g1, g0, g2, g3, g4⟩, ha⟩ := h
  rw [← h2]
  have hroom : TrRoom W o 2000 := ⟨h1, by rw [h3]; exact hlen⟩
  refine (hc o hroom (fun v zs hr => ⟨hr.grew k, fun hn b hb f => ?_⟩)).mono ?_
  · have := hr.lt hn b hb
    have := h4 b f
    omega
  · rintro e w' ⟨x, rfl, o', d⟩
    refine ⟨x, rfl, ?_, o', r, ⟨(d.room (k := 0) (hroom.less (by omega))).1, ?_, by rw [d.ptr, h2], by rw [d.evs h0, h3], fun b f => ?_⟩, ⟨g1.apart2 d (fun b f g => ha b g f), g0, g2, g3, g4⟩, fun b f g => ?_⟩
    · exact k.next d.kept (fun x hx f => absurd (h4 x f) (by omega))
    · intro e
      have := d.ptr
      rw [e, h2] at this
      exact absurd this (by simp [trPtr])
    · by_cases hb : b < W.heap.size
      · exact h4 b (d.foot hb f)
      · have := k.size
        omega
    · have hb := g1.foot b g
      exact ha b (d.foot hb f) g

/-- Two new ones. -/
theorem Duo.new (W : World) : Duo W ((W.alloc newTr).alloc newTr) W.heap.size (W.heap.size + 1) [] [] := by
  have t0 : IsTr ((W.alloc newTr).alloc newTr) W.heap.size none [] := (newTr_is W).grew ((Kept.refl _ _).alloc _)
  have t1 : IsTr ((W.alloc newTr).alloc newTr) (W.heap.size + 1) none [] := by
    have := newTr_is (W.alloc newTr)
    simpa using this
  have hft : ∀ q b, trFoot (some (q, none, [])) b → b = q := fun q b f => by
    rcases f with f | f
    · exact f
    · cases f
  refine ⟨((Kept.refl _ _).alloc _).alloc _, some (W.heap.size, none, []), some (W.heap.size + 1, none, []), ⟨⟨t0, by simp⟩, by simp, rfl, rfl, fun b f => by rw [hft _ b f]; exact Nat.le_refl _⟩, ⟨⟨t1, by simp⟩, by simp, rfl, rfl, fun b f => by rw [hft _ b f]; omega⟩, fun b f g => ?_⟩
  have e1 := hft _ b f
  have e2 := hft _ b g
  omega

theorem Duo.same {W0 W : World} {p q : Nat} {es : List Ev} (h : Duo W0 W p q es es) :
    Calls Try.prog 21 #[.pointer (some ⟨p, 0, none⟩), .pointer (some ⟨q, 0, none⟩)] W fun e w' => e = .returned (.bool true) ∧ Duo W0 w' p q es es := by
  have h' := h
  obtain ⟨k, o, r, ⟨h1, h0, h2, h3, h4⟩, ⟨g1, g0, g2, g3, g4⟩, ha⟩ := h
  have hS := tSame o r W h1 g1
  rw [h2, g2, h3, g3, show sameB es es = true by simp [sameB]] at hS
  refine hS.mono ?_
  rintro e w' ⟨rfl, k⟩
  exact ⟨rfl, h'.grew k⟩

theorem Duo.many {W0 W : World} {p q : Nat} {es et : List Ev} (h : Duo W0 W p q es et) :
    Calls Try.prog 35 #[.pointer (some ⟨p, 0, none⟩)] W fun e w' => e = .returned (.int .i64 (es.length : Nat)) ∧ w' = W := by
  obtain ⟨k, o, r, ⟨h1, h0, h2, h3, h4⟩, ⟨g1, g0, g2, g3, g4⟩, ha⟩ := h
  have := tMany o W h1
  rw [h2, h3] at this
  exact this

theorem TrIn.keptS {S : Nat → Prop} {w w' : World} {o : Tr} (h : TrIn w o) (k : Kept S w w') (hs : ∀ x, trFoot o x → ¬ S x) : TrIn w' o := by
  cases o with
  | none => trivial
  | some x =>
    obtain ⟨p, g, l⟩ := x
    exact ⟨h.1.kept k (hs p (.inl rfl)) (fun x hx => hs x (.inr hx)), h.2⟩

theorem bool_of9 (P : Prop) : ∃ R : Bool, R = true ↔ P := by
  by_cases h : P
  · exact ⟨true, by simp [h]⟩
  · exact ⟨false, by simp [h]⟩

/-- A call that writes the first trace, of up to b events. -/
theorem Duo.callB {W0 W : World} {p q f : Nat} {es et m : List Ev} {args : Value → Array Value} (b : Nat) (h : Duo W0 W p q es et) (hlen : es.length + b < 1000000000000) (hm : m.length ≤ b)
    (hc : ∀ o, TrRoom W o b → (∀ v zs, Row .u64 W0 v zs → RowT W o v zs) → Calls Try.prog f (args (trPtr o)) W fun e w' => ∃ x, e = .returned x ∧ ∃ o', Did W o m w' o') :
    Calls Try.prog f (args (.pointer (some ⟨p, 0, none⟩))) W fun e w' => ∃ x, e = .returned x ∧ Duo W0 w' p q (es ++ m) et := by
  obtain ⟨k, o, r, ⟨h1, h0, h2, h3, h4⟩, ⟨g1, g0, g2, g3, g4⟩, ha⟩ := h
  rw [← h2]
  have hroom : TrRoom W o b := ⟨h1, by rw [h3]; exact hlen⟩
  refine (hc o hroom (fun v zs hr => ⟨hr.grew k, fun hn b hb f => ?_⟩)).mono ?_
  · have := hr.lt hn b hb
    have := h4 b f
    omega
  · rintro e w' ⟨x, rfl, o', d⟩
    refine ⟨x, rfl, ?_, o', r, ⟨(d.room (k := 0) (hroom.less (by omega))).1, ?_, by rw [d.ptr, h2], by rw [d.evs h0, h3], fun b f => ?_⟩, ⟨g1.apart2 d (fun b f g => ha b g f), g0, g2, g3, g4⟩, fun b f g => ?_⟩
    · exact k.next d.kept (fun x hx f => absurd (h4 x f) (by omega))
    · intro e
      have := d.ptr
      rw [e, h2] at this
      exact absurd this (by simp [trPtr])
    · by_cases hb : b < W.heap.size
      · exact h4 b (d.foot hb f)
      · have := k.size
        omega
    · have hb := g1.foot b g
      exact ha b (d.foot hb f) g

/-- A call that writes the first trace, of up to b events, behind a change of other memory (S); R: what else is told. -/
theorem Duo.callS {W0 W : World} {p q f : Nat} {es et : List Ev} {args : Value → Array Value} {S : Nat → Prop} (b : Nat) (R : Value → List Ev → World → Prop) (h : Duo W0 W p q es et) (hlen : es.length + b < 1000000000000) (hS0 : ∀ x, S x → W0.heap.size ≤ x) (hS : ∀ o, TrIn W o → ∀ x, trFoot o x → ¬ S x)
    (hc : ∀ o, TrRoom W o b → (∀ v zs, Row .u64 W0 v zs → RowT W o v zs) → Calls Try.prog f (args (trPtr o)) W fun e w' => ∃ x m, e = .returned x ∧ R x m w' ∧ m.length ≤ b ∧ ∃ w1 o', Kept S W w1 ∧ Did w1 o m w' o') :
    Calls Try.prog f (args (.pointer (some ⟨p, 0, none⟩))) W fun e w' => ∃ x m, e = .returned x ∧ R x m w' ∧ m.length ≤ b ∧ Duo W0 w' p q (es ++ m) et := by
  obtain ⟨k, o, r, ⟨h1, h0, h2, h3, h4⟩, ⟨g1, g0, g2, g3, g4⟩, ha⟩ := h
  rw [← h2]
  have hroom : TrRoom W o b := ⟨h1, by rw [h3]; exact hlen⟩
  refine (hc o hroom (fun v zs hr => ⟨hr.grew k, fun hn b hb f => ?_⟩)).mono ?_
  · have := hr.lt hn b hb
    have := h4 b f
    omega
  · rintro e w' ⟨x, m, rfl, hR, hm, w1, o', k1, d⟩
    have h1' : TrIn w1 o := h1.keptS k1 (hS o h1)
    have g1' : TrIn w1 r := g1.keptS k1 (hS r g1)
    have hroom' : TrRoom w1 o b := ⟨h1', by rw [h3]; exact hlen⟩
    have k' : Kept Nought W0 w1 := k.next k1 (fun x hx f => absurd (hS0 x f) (by omega))
    refine ⟨x, m, rfl, hR, hm, ?_, o', r, ⟨(d.room (k := 0) (hroom'.less (by omega))).1, ?_, by rw [d.ptr, h2], by rw [d.evs h0, h3], fun b f => ?_⟩, ⟨g1'.apart2 d (fun b f g => ha b g f), g0, g2, g3, g4⟩, fun b f g => ?_⟩
    · exact k'.next d.kept (fun x hx f => absurd (h4 x f) (by omega))
    · intro e
      have := d.ptr
      rw [e, h2] at this
      exact absurd this (by simp [trPtr])
    · by_cases hb : b < w1.heap.size
      · exact h4 b (d.foot hb f)
      · have := k'.size
        omega
    · have hb := g1'.foot b g
      exact ha b (d.foot hb f) g

end Go.Proofs.Ytegjdjfnpphipaa
