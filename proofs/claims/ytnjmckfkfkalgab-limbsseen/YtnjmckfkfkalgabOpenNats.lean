/- A slice of numbers that came in: from its reading to its cells. -/
import Derived.Test.YtnjmckfkfkalgabLimA
import Derived.Test.YtnjmckfkfkalgabOpenRow
import Derived.Deep.Matrix
namespace Go.Proofs.Ytnjmckfkfkalgab
open Go.RowKit Go.Deep

/-- The slice v holds n numbers: number p lies at A p, in L p words, and is read as xss p. -/
def NatsIn (w : World) (v : Value) (n : Nat) (A : Nat → Option Addr) (L C : Nat → Nat) (xss : Nat → List Nat) : Prop :=
  ∃ ao cap, v = .slice ao n cap ∧ n ≤ cap ∧ cap ≤ maxLen ∧ Slots w ao n A L C ∧ ∀ p, p < n → Row .u64 w (.slice (A p) (L p) (C p)) (xss p) ∧ Digs 18446744073709551616 (xss p)

theorem open_nats {H : Type} {enc : TypeId × Value → H} {w : World} {base fuel : Nat} {held : Bool} {a : Option Addr} {len cap : Nat} {x : DataW H × List MemPlace} (h : DataW.trod enc Try.prog w base (fun _ => true) held fuel 34 [.slice a len cap] = some x) :
    ∃ n A L C xss, NatsIn w (.slice a len cap) n A L C xss := by
  rcases open_int_rows Try.underlying34 Try.underlying23 Try.underlying24 (by kernel_rfl) (by kernel_rfl) h with ⟨hcs, _⟩ | ⟨a', len', cap', A, L, C, Z, hcs, _, hl, hm, _, hx⟩
  · simp at hcs
    obtain ⟨rfl, rfl, rfl⟩ := hcs
    exact ⟨0, fun _ => none, fun _ => 0, fun _ => 0, fun _ => [], none, 0, rfl, Nat.le_refl _, Nat.zero_le _, fun i hi => by omega, fun p hp => by omega⟩
  · simp at hcs
    obtain ⟨rfl, rfl, rfl⟩ := hcs
    have each : ∀ r, r < len → ∃ ns : List Nat, Row .u64 w (.slice (A r) (L r) (C r)) ns ∧ Digs 18446744073709551616 ns := fun r hr => by
      obtain ⟨_, h1, h2, h3, h4, h5, h6⟩ := hx r (by omega)
      cases hA : A r with
      | none =>
        have e := h5 hA
        rw [e] at h1 h3
        have eL : L r = 0 := by omega
        have eZ : Z r = [] := List.eq_nil_of_length_eq_zero h3
        rw [e, eL]
        exact row_of_ints wf_u64 (zs := []) (.inl ⟨rfl, rfl, rfl, rfl⟩)
      | some b =>
        exact row_of_ints wf_u64 (.inr ⟨b, rfl, h1, h2, h3, fun i hi => (h6 b hA).2 i (by omega), h4⟩)
    obtain ⟨q, hq⟩ := choose_lt each
    refine ⟨len, A, L, C, q, some a', cap, rfl, hl, hm, fun i hi => ?_, hq⟩
    obtain ⟨b, off, spot⟩ := a'
    have hc := (hx i (by omega)).1
    have hspot : spot = none := by simpa [Addr.add] using World.cell?_spot (hx 0 (by omega)).1
    subst hspot
    rw [Go.WideShapes.add_plain] at hc
    exact ⟨b, off, rfl, hc⟩

end Go.Proofs.Ytnjmckfkfkalgab
