/- A modulus (a struct of a number, a word, a number) that came in: from its reading to its cells. -/
import Derived.Test.YtamkkmifbajdfaaGreatOpenRow
import Derived.Deep.Strs
namespace Go.Proofs.YtamkkmifbajdfaaGreat
open Go.RowKit Go.Deep Go.ChangeShapes

theorem Tryz.cells34 : Tryz.prog.cellsOf 34 = 3 := by kernel_rfl

theorem mod_fields : ∃ f0 f1 f2 : Field, Tryz.prog.underlying 34 = some (.struct #[f0, f1, f2]) ∧ f0.type = 23 ∧ f1.type = 32 ∧ f2.type = 23 ∧ f0.offset = 0 ∧ f1.offset = 1 ∧ f2.offset = 2 :=
  ⟨_, _, _, Tryz.underlying34, rfl, rfl, rfl, rfl, rfl, rfl⟩

theorem mod_cellN : Tryz.prog.cellsOf 23 = 1 := by kernel_rfl

theorem mod_cellW : Tryz.prog.cellsOf 32 = 1 := by kernel_rfl

section
variable {H : Type} {enc : TypeId × Value → H} {w : World} {base : Nat} {held : Bool}

theorem open_nat {fuel : Nat} {cs : List Value} {x : DataW H × List MemPlace} (h : DataW.trod enc Tryz.prog w base (fun _ => true) held fuel 23 cs = some x) :
    ∃ v ns, cs = [v] ∧ Row .u64 w v ns ∧ Digs 18446744073709551616 ns := by
  rcases open_ints Tryz.underlying23 Tryz.underlying32 (by kernel_rfl) h with ⟨hcs, _⟩ | ⟨x, l, c, zs, hcs, _, hl, hm, hz, _, hcell, hwz⟩
  · obtain ⟨ns, hr, hd⟩ := row_of_ints (w := w) (k := .u64) wf_u64 (zs := []) (.inl ⟨rfl, rfl, rfl, rfl⟩)
    exact ⟨_, ns, hcs, hr, hd⟩
  · obtain ⟨ns, hr, hd⟩ := row_of_ints (w := w) (k := .u64) wf_u64 (.inr ⟨_, rfl, hl, hm, by simpa using hz, hcell, hwz⟩)
    exact ⟨_, ns, hcs, hr, hd⟩

theorem open_mod {fuel : Nat} {cs : List Value} {x : DataW H × List MemPlace} (h : DataW.trod enc Tryz.prog w base (fun _ => true) held fuel 34 cs = some x) :
    ∃ (u : Value) (xs : List Nat) (k : Int) (v : Value) (zs : List Nat), cs = [u, .int .u64 k, v] ∧ Row .u64 w u xs ∧ Digs 18446744073709551616 xs ∧ (Lit.int .u64 k).wf = true ∧ Row .u64 w v zs ∧ Digs 18446744073709551616 zs := by
  obtain ⟨f0, f1, f2, hu, t0, t1, t2, o0, o1, o2⟩ := mod_fields
  obtain ⟨y0, y1, y2, n, _, hl, h0, h1, h2⟩ := trod_struct3 hu h
  rw [Tryz.cells34] at hl
  rw [t0, o0, mod_cellN] at h0
  rw [t1, o1, mod_cellW] at h1
  rw [t2, o2, mod_cellN] at h2
  obtain ⟨u, xs, ha, r1, d1⟩ := open_nat h0
  obtain ⟨k, hb, _, hk⟩ := DataW.trod_int Tryz.underlying32 h1
  obtain ⟨v, zs, hc, r2, d2⟩ := open_nat h2
  cases cs with
  | nil => simp at hl
  | cons c0 cs =>
    cases cs with
    | nil => simp at hl
    | cons c1 cs =>
      cases cs with
      | nil => simp at hl
      | cons c2 cs =>
        simp only [List.length_cons] at hl
        have hcs : cs = [] := List.eq_nil_of_length_eq_zero (by omega)
        subst hcs
        simp at ha hb hc
        exact ⟨u, xs, k, v, zs, by rw [ha, hb, hc], r1, d1, hk, r2, d2⟩

end

end Go.Proofs.YtamkkmifbajdfaaGreat
