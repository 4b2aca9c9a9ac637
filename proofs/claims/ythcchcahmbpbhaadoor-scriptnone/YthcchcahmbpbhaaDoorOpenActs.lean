/- A call that is to be made (a struct of two ints and a number), and a slice of such, that came in: from their readings to their cells. -/
import Derived.Test.YthcchcahmbpbhaaDoorOpenRow
import Derived.Deep.Slices
import Derived.Deep.Strs
import Derived.Deep.Matrix
namespace Go.Proofs.YthcchcahmbpbhaaDoor
open Go.RowKit Go.Deep Go.ChangeShapes

/-- The slice v holds n calls: call i is D i, M i and the number at V i, which is read as xss i. -/
def ActsIn (w : World) (v : Value) (n : Nat) (D M : Nat → Int) (V : Nat → Value) (xss : Nat → List Nat) : Prop :=
  ∃ ao cap, v = .slice ao n cap ∧ n ≤ cap ∧ cap ≤ maxLen ∧ ∀ i, i < n → (∃ b off, ao = some ⟨b, off, none⟩ ∧ w.cell? ⟨b, off + i * 3, none⟩ = some (.int .i64 (D i)) ∧ w.cell? ⟨b, off + (i * 3 + 1), none⟩ = some (.int .i64 (M i)) ∧ w.cell? ⟨b, off + (i * 3 + 2), none⟩ = some (V i)) ∧ Row .u64 w (V i) (xss i) ∧ Digs 18446744073709551616 (xss i)

theorem Tryd.cells34 : Tryd.prog.cellsOf 34 = 3 := by kernel_rfl

theorem act_fields : ∃ f0 f1 f2 : Field, Tryd.prog.underlying 34 = some (.struct #[f0, f1, f2]) ∧ f0.type = 3 ∧ f1.type = 3 ∧ f2.type = 32 ∧ f0.offset = 0 ∧ f1.offset = 1 ∧ f2.offset = 2 :=
  ⟨_, _, _, Tryd.underlying34, rfl, rfl, rfl, rfl, rfl, rfl⟩

theorem act_cellN : Tryd.prog.cellsOf 32 = 1 := by kernel_rfl

theorem act_cellI : Tryd.prog.cellsOf 3 = 1 := by kernel_rfl

section
variable {H : Type} {enc : TypeId × Value → H} {w : World} {base : Nat} {held : Bool}

theorem open_natA {fuel : Nat} {cs : List Value} {x : DataW H × List MemPlace} (h : DataW.trod enc Tryd.prog w base (fun _ => true) held fuel 32 cs = some x) :
    ∃ v ns, cs = [v] ∧ Row .u64 w v ns ∧ Digs 18446744073709551616 ns := by
  rcases open_ints Tryd.underlying32 Tryd.underlying55 (by kernel_rfl) h with ⟨hcs, _⟩ | ⟨x, l, c, zs, hcs, _, hl, hm, hz, _, hcell, hwz⟩
  · obtain ⟨ns, hr, hd⟩ := row_of_ints (w := w) (k := .u64) wf_u64 (zs := []) (.inl ⟨rfl, rfl, rfl, rfl⟩)
    exact ⟨_, ns, hcs, hr, hd⟩
  · obtain ⟨ns, hr, hd⟩ := row_of_ints (w := w) (k := .u64) wf_u64 (.inr ⟨_, rfl, hl, hm, by simpa using hz, hcell, hwz⟩)
    exact ⟨_, ns, hcs, hr, hd⟩

theorem open_act {fuel : Nat} {cs : List Value} {x : DataW H × List MemPlace} (h : DataW.trod enc Tryd.prog w base (fun _ => true) held fuel 34 cs = some x) :
    ∃ (d m : Int) (v : Value) (zs : List Nat), cs = [.int .i64 d, .int .i64 m, v] ∧ Row .u64 w v zs ∧ Digs 18446744073709551616 zs ∧ (Lit.int .i64 d).wf = true ∧ (Lit.int .i64 m).wf = true := by
  obtain ⟨f0, f1, f2, hu, t0, t1, t2, o0, o1, o2⟩ := act_fields
  obtain ⟨y0, y1, y2, n, _, hl, h0, h1, h2⟩ := trod_struct3 hu h
  rw [Tryd.cells34] at hl
  rw [t0, o0, act_cellI] at h0
  rw [t1, o1, act_cellI] at h1
  rw [t2, o2, act_cellN] at h2
  obtain ⟨d, ha, _, hd⟩ := DataW.trod_int Tryd.underlying3 h0
  obtain ⟨m, hb, _, hm⟩ := DataW.trod_int Tryd.underlying3 h1
  obtain ⟨v, zs, hc, r2, d2⟩ := open_natA h2
  cases cs with
  | nil => simp at hl
  | cons c0 cs =>
    cases cs with
    | nil => simp at hl
    | cons c1 cs =>
      cases cs with
      | nil => simp at hl
      | cons c2 cs =>
        simp only [List.length_cons] at hl
        have hcs : cs = [] := List.eq_nil_of_length_eq_zero (by omega)
        subst hcs
        simp at ha hb hc
        exact ⟨d, m, v, zs, by rw [ha, hb, hc], r2, d2, hd, hm⟩

theorem open_acts {fuel : Nat} {a : Option Addr} {len cap : Nat} {x : DataW H × List MemPlace} (h : DataW.trod enc Tryd.prog w base (fun _ => true) held fuel 23 [.slice a len cap] = some x) :
    ∃ n D M V xss, ActsIn w (.slice a len cap) n D M V xss := by
  rcases open_slice Tryd.underlying23 h with ⟨hcs, _⟩ | ⟨a', len', cap', m, n, DD, Pl, hcs, hb, hl, hm, hmm, _, hx⟩
  · simp at hcs
    obtain ⟨rfl, rfl, rfl⟩ := hcs
    exact ⟨0, fun _ => 0, fun _ => 0, fun _ => .bool false, fun _ => [], none, 0, rfl, Nat.le_refl _, Nat.zero_le _, fun i hi => by omega⟩
  · simp at hcs
    obtain ⟨rfl, rfl, rfl⟩ := hcs
    have hlm : len ≤ m := by rw [hmm]; split <;> omega
    rw [Tryd.cells34] at hx
    have each : ∀ i, i < len → ∃ e : Int × Int × Value × List Nat, w.cell? (a'.add (i * 3)) = some (.int .i64 e.1) ∧ w.cell? (a'.add (i * 3 + 1)) = some (.int .i64 e.2.1) ∧ w.cell? (a'.add (i * 3 + 2)) = some e.2.2.1 ∧ Row .u64 w e.2.2.1 e.2.2.2 ∧ Digs 18446744073709551616 e.2.2.2 := fun i hi => by
      obtain ⟨cs', h1, h2⟩ := hx i (by omega)
      obtain ⟨_, _, hcell⟩ := World.cells?_some h1
      obtain ⟨p, q, r, zs, rfl, r1, d1, _, _⟩ := open_act h2
      have e0 := hcell 0 (by omega)
      have e1 := hcell 1 (by omega)
      have e2 := hcell 2 (by omega)
      rw [add_add] at e0 e1 e2
      exact ⟨(p, q, r, zs), e0, e1, e2, r1, d1⟩
    obtain ⟨q, hq⟩ := choose_lt each
    refine ⟨len, fun i => (q i).1, fun i => (q i).2.1, fun i => (q i).2.2.1, fun i => (q i).2.2.2, some a', cap, rfl, hl, hm, fun i hi => ?_⟩
    obtain ⟨c0, c1, c2, c3, c4⟩ := hq i hi
    obtain ⟨b, off, spot⟩ := a'
    have hspot : spot = none := by
      obtain ⟨z0, _, _⟩ := hq 0 (by omega)
      simpa [Addr.add] using World.cell?_spot z0
    subst hspot
    rw [Go.WideShapes.add_plain] at c0 c1 c2
    exact ⟨⟨b, off, rfl, c0, c1, c2⟩, c3, c4⟩
end

end Go.Proofs.YthcchcahmbpbhaaDoor
