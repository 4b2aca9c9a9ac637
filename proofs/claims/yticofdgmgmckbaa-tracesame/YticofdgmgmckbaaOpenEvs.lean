/- A slice of events, and an event, that came in: what their readings say of their cells. -/
import Derived.Test.YticofdgmgmckbaaAcc
import Derived.Deep.Slices
import Derived.Deep.Strs
import Derived.Lib.SmallJoins
import Derived.OpenShut
namespace Go.Proofs.Yticofdgmgmckbaa
open Go.RowKit Go.Deep

theorem Try.cells27 : Try.prog.cellsOf 27 = 3 := by kernel_rfl

theorem ev_fields : ∃ f0 f1 f2 : Field, Try.prog.underlying 27 = some (.struct #[f0, f1, f2]) ∧ f0.type = 3 ∧ f1.type = 3 ∧ f2.type = 3 ∧ f0.offset = 0 ∧ f1.offset = 1 ∧ f2.offset = 2 :=
  ⟨_, _, _, Try.underlying27, rfl, rfl, rfl, rfl, rfl, rfl⟩

theorem Try.cells3 : Try.prog.cellsOf 3 = 1 := by kernel_rfl

section
variable {H : Type} {enc : TypeId × Value → H} {w : World} {base : Nat} {spare : Nat → Bool} {held : Bool}

theorem ev_cells {fuel : Nat} {cs : List Value} {x : DataW H × List MemPlace} (h : DataW.trod enc Try.prog w base spare held fuel 27 cs = some x) : ∃ a b c : Int, cs = [.int .i64 a, .int .i64 b, .int .i64 c] := by
  obtain ⟨f0, f1, f2, hu, t0, t1, t2, o0, o1, o2⟩ := ev_fields
  obtain ⟨y0, y1, y2, n, _, hl, h0, h1, h2⟩ := trod_struct3 hu h
  rw [Try.cells27] at hl
  rw [t0, o0, Try.cells3] at h0
  rw [t1, o1, Try.cells3] at h1
  rw [t2, o2, Try.cells3] at h2
  obtain ⟨a, ha, _, _⟩ := DataW.trod_int Try.underlying3 h0
  obtain ⟨b, hb, _, _⟩ := DataW.trod_int Try.underlying3 h1
  obtain ⟨c, hc, _, _⟩ := DataW.trod_int Try.underlying3 h2
  cases cs with
  | nil => simp at hl
  | cons c0 cs =>
    cases cs with
    | nil => simp at hl
    | cons c1 cs =>
      cases cs with
      | nil => simp at hl
      | cons c2 cs =>
        simp only [List.length_cons] at hl
        have hcs : cs = [] := List.eq_nil_of_length_eq_zero (by omega)
        subst hcs
        simp at ha hb hc
        exact ⟨a, b, c, by rw [ha, hb, hc]⟩

theorem open_evs {fuel : Nat} {a : Option Addr} {len cap : Nat} {x : DataW H × List MemPlace} (h : DataW.trod enc Try.prog w base spare held fuel 22 [.slice a len cap] = some x) : ∃ l : List Ev, ArgEvs w (.slice a len cap) l ∧ l.length ≤ maxLen := by
  rcases open_slice Try.underlying22 h with ⟨hcs, _⟩ | ⟨a', len', cap', m, n, D, Pl, hcs, hb, hl, hm, hmm, _, hx⟩
  · simp at hcs
    obtain ⟨rfl, rfl, rfl⟩ := hcs
    exact ⟨[], ⟨none, 0, rfl, fun k hk => by simp at hk⟩, by simp⟩
  · simp at hcs
    obtain ⟨rfl, rfl, rfl⟩ := hcs
    have hlm : len ≤ m := by rw [hmm]; split <;> omega
    rw [Try.cells27] at hx
    have each : ∀ i, i < len → ∃ e : Ev, w.cell? (a'.add (i * 3)) = some (.int .i64 e.1) ∧ w.cell? (a'.add (i * 3 + 1)) = some (.int .i64 e.2.1) ∧ w.cell? (a'.add (i * 3 + 2)) = some (.int .i64 e.2.2) := fun i hi => by
      obtain ⟨cs', h1, h2⟩ := hx i (by omega)
      obtain ⟨_, _, hcell⟩ := World.cells?_some h1
      obtain ⟨p, q, r, rfl⟩ := ev_cells h2
      have e0 := hcell 0 (by omega)
      have e1 := hcell 1 (by omega)
      have e2 := hcell 2 (by omega)
      rw [add_add] at e0 e1 e2
      exact ⟨(p, q, r), e0, e1, e2⟩
    obtain ⟨q, hq⟩ := choose_lt each
    have hlen : ((List.range len).map q).length = len := by simp
    refine ⟨(List.range len).map q, ⟨some a', cap, by rw [hlen], fun k hk => ?_⟩, by rw [hlen]; omega⟩
    rw [hlen] at hk
    obtain ⟨c0, c1, c2⟩ := hq k hk
    obtain ⟨b, off, spot⟩ := a'
    have hspot : spot = none := by
      obtain ⟨z0, _, _⟩ := hq 0 (by omega)
      simpa [Addr.add] using World.cell?_spot z0
    subst hspot
    rw [Go.WideShapes.add_plain] at c0 c1 c2
    refine ⟨b, off, _, _, _, rfl, c0, c1, c2, ?_⟩
    show _ = _
    simp [hk]
end

end Go.Proofs.Yticofdgmgmckbaa
