/- Two traces of a law's own side by side: a call of up to b events on the first. -/
import Derived.Test.YtamkkmifbajdfaaL6D
namespace Go.Proofs.Ytamkkmifbajdfaa
open Go.RowKit

theorem bool_of9 (P : Prop) : ∃ R : Bool, R = true ↔ P := by
  by_cases h : P
  · exact ⟨true, by simp [h]⟩
  · exact ⟨false, by simp [h]⟩

/-- A call that writes the first trace, of up to b events. -/
theorem Duo.callB {W0 W : World} {p q f : Nat} {es et m : List Ev} {args : Value → Array Value} (b : Nat) (h : Duo W0 W p q es et) (hlen : es.length + b < 1000000000000) (hm : m.length ≤ b)
    (hc : ∀ o, TrRoom W o b → (∀ v zs, Row .u64 W0 v zs → RowT W o v zs) → Calls Try.prog f (args (trPtr o)) W fun e w' => ∃ x, e = .returned x ∧ ∃ o', Did W o m w' o') :
    Calls Try.prog f (args (.pointer (some ⟨p, 0, none⟩))) W fun e w' => ∃ x, e = .returned x ∧ Duo W0 w' p q (es ++ m) et := by
  obtain ⟨k, o, r, ⟨h1, h0, h2, h3, h4⟩, ⟨g1, g0, g2, g3, g4⟩, ha⟩ := h
  rw [← h2]
  have hroom : TrRoom W o b := ⟨h1, by rw [h3]; exact hlen⟩
  refine (hc o hroom (fun v zs hr => ⟨hr.grew k, fun hn b hb f => ?_⟩)).mono ?_
  · have := hr.lt hn b hb
    have := h4 b f
    omega
  · rintro e w' ⟨x, rfl, o', d⟩
    refine ⟨x, rfl, ?_, o', r, ⟨(d.room (k := 0) (hroom.less (by omega))).1, ?_, by rw [d.ptr, h2], by rw [d.evs h0, h3], fun b f => ?_⟩, ⟨g1.apart2 d (fun b f g => ha b g f), g0, g2, g3, g4⟩, fun b f g => ?_⟩
    · exact k.next d.kept (fun x hx f => absurd (h4 x f) (by omega))
    · intro e
      have := d.ptr
      rw [e, h2] at this
      exact absurd this (by simp [trPtr])
    · by_cases hb : b < W.heap.size
      · exact h4 b (d.foot hb f)
      · have := k.size
        omega
    · have hb := g1.foot b g
      exact ha b (d.foot hb f) g

end Go.Proofs.Ytamkkmifbajdfaa
