/- A key (a struct of seven numbers and a word) that came in: from its reading to its cells. -/
import Derived.Test.YtiljkgoafknefaaGreatOpenRow
import Derived.Test.YtiljkgoafknefaaGreatLaw19b
import Derived.Deep.Strs
namespace Go.Proofs.YtiljkgoafknefaaGreat
open Go.RowKit Go.Deep Go.ChangeShapes

theorem Tryz.cells32 : Tryz.prog.cellsOf 32 = 8 := by kernel_rfl

theorem key_fields : ∃ f0 f1 f2 f3 f4 f5 f6 f7 : Field, Tryz.prog.underlying 32 = some (.struct #[f0, f1, f2, f3, f4, f5, f6, f7]) ∧ (f0.type = 23 ∧ f1.type = 24 ∧ f2.type = 23 ∧ f3.type = 23 ∧ f4.type = 23 ∧ f5.type = 23 ∧ f6.type = 23 ∧ f7.type = 23) ∧ f0.offset = 0 ∧ f1.offset = 1 ∧ f2.offset = 2 ∧ f3.offset = 3 ∧ f4.offset = 4 ∧ f5.offset = 5 ∧ f6.offset = 6 ∧ f7.offset = 7 :=
  ⟨_, _, _, _, _, _, _, _, Tryz.underlying32, ⟨rfl, rfl, rfl, rfl, rfl, rfl, rfl, rfl⟩, rfl, rfl, rfl, rfl, rfl, rfl, rfl, rfl⟩

theorem key_cellN : Tryz.prog.cellsOf 23 = 1 := by kernel_rfl

theorem key_cellW : Tryz.prog.cellsOf 24 = 1 := by kernel_rfl

section
variable {H : Type} {enc : TypeId × Value → H} {w : World} {base : Nat} {held : Bool}

theorem open_natK {fuel : Nat} {cs : List Value} {x : DataW H × List MemPlace} (h : DataW.trod enc Tryz.prog w base (fun _ => true) held fuel 23 cs = some x) :
    ∃ o n c ns, cs = [.slice o n c] ∧ Row .u64 w (.slice o n c) ns ∧ Digs 18446744073709551616 ns := by
  have hh : ∃ v ns, cs = [v] ∧ Row .u64 w v ns ∧ Digs 18446744073709551616 ns := by
    rcases open_ints Tryz.underlying23 Tryz.underlying24 (by kernel_rfl) h with ⟨hcs, _⟩ | ⟨x, l, c, zs, hcs, _, hl, hm, hz, _, hcell, hwz⟩
    · obtain ⟨ns, hr, hd⟩ := row_of_ints (w := w) (k := .u64) wf_u64 (zs := []) (.inl ⟨rfl, rfl, rfl, rfl⟩)
      exact ⟨_, ns, hcs, hr, hd⟩
    · obtain ⟨ns, hr, hd⟩ := row_of_ints (w := w) (k := .u64) wf_u64 (.inr ⟨_, rfl, hl, hm, by simpa using hz, hcell, hwz⟩)
      exact ⟨_, ns, hcs, hr, hd⟩
  obtain ⟨v, ns, rfl, hr, hd⟩ := hh
  obtain ⟨o, n, c, rfl, _⟩ := hr.open
  exact ⟨o, n, c, ns, rfl, hr, hd⟩

set_option maxRecDepth 20000 in
theorem open_key {fuel : Nat} {cs : List Value} {x : DataW H × List MemPlace} (h : DataW.trod enc Tryz.prog w base (fun _ => true) held fuel 32 cs = some x) :
    ∃ (t : KS) (l : KL), cs = t.v.toList ∧ t.Rows w l ∧ l.Digs ∧ t.en < 18446744073709551616 := by
  obtain ⟨f0, f1, f2, f3, f4, f5, f6, f7, hu, ⟨t0, t1, t2, t3, t4, t5, t6, t7⟩, o0, o1, o2, o3, o4, o5, o6, o7⟩ := key_fields
  obtain ⟨xs, n, _, _, hl, hlen, hf⟩ := DataW.trod_struct hu h
  rw [Tryz.cells32] at hl
  match xs, hlen with
  | [y0, y1, y2, y3, y4, y5, y6, y7], _ =>
    have h0 := hf 0 f0 rfl
    have h1 := hf 1 f1 rfl
    have h2 := hf 2 f2 rfl
    have h3 := hf 3 f3 rfl
    have h4 := hf 4 f4 rfl
    have h5 := hf 5 f5 rfl
    have h6 := hf 6 f6 rfl
    have h7 := hf 7 f7 rfl
    rw [t0, o0, key_cellN] at h0
    rw [t1, o1, key_cellW] at h1
    rw [t2, o2, key_cellN] at h2
    rw [t3, o3, key_cellN] at h3
    rw [t4, o4, key_cellN] at h4
    rw [t5, o5, key_cellN] at h5
    rw [t6, o6, key_cellN] at h6
    rw [t7, o7, key_cellN] at h7
    obtain ⟨no, nl, nc, ln, e0, r0, d0⟩ := open_natK h0
    obtain ⟨k, e1, _, hk⟩ := DataW.trod_int Tryz.underlying24 h1
    obtain ⟨dO, dl, dc, ld, e2, r2, d2⟩ := open_natK h2
    obtain ⟨po, pl, pc, lp, e3, r3, d3⟩ := open_natK h3
    obtain ⟨qo, ql, qc, lq, e4, r4, d4⟩ := open_natK h4
    obtain ⟨dpo, dpl, dpc, ldp, e5, r5, d5⟩ := open_natK h5
    obtain ⟨dqo, dql, dqc, ldq, e6, r6, d6⟩ := open_natK h6
    obtain ⟨qio, qil, qic, lqi, e7, r7, d7⟩ := open_natK h7
    obtain ⟨hk0, hk1⟩ := bounds_u64 hk
    obtain ⟨en, rfl⟩ := Int.eq_ofNat_of_zero_le hk0
    match cs, hl with
    | [c0, c1, c2, c3, c4, c5, c6, c7], _ =>
      simp at e0 e1 e2 e3 e4 e5 e6 e7
      subst e0 e1 e2 e3 e4 e5 e6 e7
      exact ⟨⟨no, nl, nc, en, dO, dl, dc, po, pl, pc, qo, ql, qc, dpo, dpl, dpc, dqo, dql, dqc, qio, qil, qic⟩, ⟨ln, ld, lp, lq, ldp, ldq, lqi⟩, rfl, ⟨r0, r2, r3, r4, r5, r6, r7⟩, ⟨d0, d2, d3, d4, d5, d6, d7⟩, by show en < _; omega⟩

end

end Go.Proofs.YtiljkgoafknefaaGreat
