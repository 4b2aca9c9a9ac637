/- short.Quick answers what the plain power answers, number and error, for every modulus, number and exponent within the statement cap, and the example of chapter 9 holds. -/
import Derived.Test.YtnbjepjadekafaaRows
import Derived.Test.YtnbjepjadekafaaBase1
import Derived.Test.YtnbjepjadekafaaOpenRow
import Derived.Test.YtnbjepjadekafaaOpenMod
import Derived.Test.YtnbjepjadekafaaTra1
import Derived.Test.YtnbjepjadekafaaSeq1
import Derived.Test.YtnbjepjadekafaaBase2
import Derived.Test.YtnbjepjadekafaaBase3
import Derived.Test.YtnbjepjadekafaaBase4
import Derived.Test.YtnbjepjadekafaaNatB
import Derived.Test.YtnbjepjadekafaaSho1
import Derived.Test.YtnbjepjadekafaaWor1
import Derived.Test.YtnbjepjadekafaaLim1
import Derived.Test.YtnbjepjadekafaaPro1
import Derived.Test.YtnbjepjadekafaaMonA
import Derived.Test.YtnbjepjadekafaaPro2
import Derived.Test.YtnbjepjadekafaaLim2
import Derived.Test.YtnbjepjadekafaaMonB
import Derived.Test.YtnbjepjadekafaaMon2
import Derived.Test.YtnbjepjadekafaaBigDivMod
import Derived.Test.YtnbjepjadekafaaBigM
import Derived.Test.YtnbjepjadekafaaInv0
import Derived.Test.YtnbjepjadekafaaRef6m
import Derived.Test.YtnbjepjadekafaaMon3
import Derived.Test.YtnbjepjadekafaaLim3
import Derived.Test.YtnbjepjadekafaaWInv
import Derived.Test.YtnbjepjadekafaaMon4
import Derived.Test.YtnbjepjadekafaaMon5
import Derived.Test.YtnbjepjadekafaaPow1
import Derived.Test.YtnbjepjadekafaaSho2
import Derived.Test.YtnbjepjadekafaaSho3
import Derived.Test.YtnbjepjadekafaaL5A
import Derived.Test.YtnbjepjadekafaaRef6D
import Derived.Test.YtnbjepjadekafaaRef6E
import Derived.Test.YtnbjepjadekafaaRef6o
import Derived.Test.YtnbjepjadekafaaLaw6
import Derived.Test.YtnbjepjadekafaaRef7A
import Derived.Test.YtnbjepjadekafaaRef7B
import Derived.Test.YtnbjepjadekafaaRef8A
import Derived.Test.YtnbjepjadekafaaLaw9
import Derived.Test.YtnbjepjadekafaaLShoQuick
import Derived.WalkKit
import Derived.ProofKit
import Derived.OpenShut
import Derived.ShutString
import Derived.ChangeOld
import Derived.Below
namespace Go.Proofs.Ytnbjepjadekafaa.shortQuick
open Go.ChangeShapes Go.WideShapes Go.ChangeAt Go.RowKit
open Go.ChangeMaps (open_string shut_string)
set_option linter.unusedVariables false

theorem own : ownKnob Try.prog.godebug = none := by kernel_rfl

theorem laidOut : laidOutB Try.prog = true := by kernel_rfl

set_option maxRecDepth 100000 in
theorem lifted (os : Os) (started : os.Started) (H : Type) (enc : TypeId × Value → H) :
    ReturnsInHanded {} Try.checked os 4 .any (Rows.shortQuickSpec.pre6 enc Try.prog Try.f4 Rows.shortQuickRow.domain false) (Rows.shortQuickSpec.post enc Try.prog Try.f4 false true false false) := by
  refine returnsInHanded_of_change (C := Try.checked) own started (by kernel_rfl) Try.func4
    (ChangeSpec.witness6 (enc := enc) (C := Try.checked) false ⟨#[], #[.agg #[.slice none 0 0, .int .u64 0, .slice none 0 0], .slice none 0 0, .slice none 0 0], []⟩ 4 (by kernel_rfl) (by kernel_rfl) (by kernel_rfl) (by kernel_rfl)) ?_
  intro W base args ds gs before hval0 hW hcnd _
  have hval : ∀ (j : Nat) t v, Try.f4.params[j]? = some t → args[j]? = some v → Value.okWide Try.prog W .any base t v := hval0
  have hW' := hW
  obtain ⟨p, q, hA0, hV, rfl, hfz, hnd⟩ := hW
  have hA : DataW.TrodAll enc Try.prog W 0 (fun _ => true) true Try.f4.params.toList args.toList ds p := hA0
  rw [Try.params4] at hA hval
  obtain ⟨v0, vs0, d0, ds0, p0, q0, hargs, rfl, rfl, h0, r0⟩ := trodAll_cons hA
  obtain ⟨v1, vs1, d1, ds1, p1, q1, rfl, rfl, rfl, h1, r1⟩ := trodAll_cons r0
  obtain ⟨v2, vs2, d2, ds2, p2, q2, rfl, rfl, rfl, h2, r2⟩ := trodAll_cons r1
  obtain ⟨rfl, rfl, rfl⟩ := trodAll_nil r2
  obtain rfl : args = #[v0, v1, v2] := by cases args; simp_all
  obtain ⟨rfl, rfl⟩ := trodVars_none hV
  have k0 := h0
  have lt0 : ∀ x ∈ p0, x.block < W.heap.size := by obtain ⟨m, hm⟩ := k0; exact DataW.trod_lt m _ _ _ hm
  obtain ⟨u0, xs0, kk0, w0, zs0, rfl, ra0, da0, wk0, rb0, db0⟩ : ∃ (u : Value) (xs : List Nat) (k : Int) (v : Value) (zs : List Nat), v0 = .agg #[u, .int .u64 k, v] ∧ Row .u64 W u xs ∧ Digs 18446744073709551616 xs ∧ (Lit.int .u64 k).wf = true ∧ Row .u64 W v zs ∧ Digs 18446744073709551616 zs := by
    obtain ⟨cs, rfl, _⟩ := okWide_struct Try.underlying26 (hval 0 26 v0 rfl rfl)
    obtain ⟨fuel, hf⟩ := h0
    obtain ⟨u, xs, k, v, zs, hc, f1, f2, f3, f4, f5⟩ := open_mod hf
    obtain ⟨cs⟩ := cs
    simp [Value.cells] at hc
    exact ⟨u, xs, k, v, zs, by rw [hc], f1, f2, f3, f4, f5⟩
  obtain ⟨a1, len1, cap1, rfl⟩ := okWide_slice Try.underlying23 (hval 1 23 v1 rfl rfl)
  have k1 := h1
  have lt1 : ∀ x ∈ p1, x.block < W.heap.size := by obtain ⟨m, hm⟩ := k1; exact DataW.trod_lt m _ _ _ hm
  obtain ⟨n1, row1, dg1⟩ : ∃ ns : List Nat, Row .u64 W (.slice a1 len1 cap1) ns ∧ Digs 18446744073709551616 ns := by
    obtain ⟨fuel, hf⟩ := h1
    rcases open_ints Try.underlying23 Try.underlying24 (by kernel_rfl) hf with ⟨hcs, _⟩ | ⟨x, l, c, zs, hcs, _, hl, hm, hz, _, hcell, hwz⟩
    · simp [Value.cells] at hcs
      obtain ⟨rfl, rfl, rfl⟩ := hcs
      exact row_of_ints wf_u64 (zs := []) (.inl ⟨rfl, rfl, rfl, rfl⟩)
    · simp [Value.cells] at hcs
      obtain ⟨rfl, rfl, rfl⟩ := hcs
      exact row_of_ints wf_u64 (.inr ⟨_, rfl, hl, hm, by simpa using hz, hcell, hwz⟩)
  obtain ⟨a2, len2, cap2, rfl⟩ := okWide_slice Try.underlying23 (hval 2 23 v2 rfl rfl)
  have k2 := h2
  have lt2 : ∀ x ∈ p2, x.block < W.heap.size := by obtain ⟨m, hm⟩ := k2; exact DataW.trod_lt m _ _ _ hm
  obtain ⟨n2, row2, dg2⟩ : ∃ ns : List Nat, Row .u64 W (.slice a2 len2 cap2) ns ∧ Digs 18446744073709551616 ns := by
    obtain ⟨fuel, hf⟩ := h2
    rcases open_ints Try.underlying23 Try.underlying24 (by kernel_rfl) hf with ⟨hcs, _⟩ | ⟨x, l, c, zs, hcs, _, hl, hm, hz, _, hcell, hwz⟩
    · simp [Value.cells] at hcs
      obtain ⟨rfl, rfl, rfl⟩ := hcs
      exact row_of_ints wf_u64 (zs := []) (.inl ⟨rfl, rfl, rfl, rfl⟩)
    · simp [Value.cells] at hcs
      obtain ⟨rfl, rfl, rfl⟩ := hcs
      exact row_of_ints wf_u64 (.inr ⟨_, rfl, hl, hm, by simpa using hz, hcell, hwz⟩)
  clear hA0 hval0
  refine (walkShortQuick u0 xs0 kk0 w0 zs0 _ n1 _ n2 W ra0 rb0 row1 row2 da0 db0 dg1 dg2 wk0).mono fun e W' ⟨he, bel⟩ => ?_
  subst he
  exact ⟨_, rfl, _, _, _, [], _, [], hW', trodAll_mk1 (shut_bool Try.underlying4 _), (trodAll_cons_mk (Below.trod laidOut (by kernel_rfl) (of_decide_eq_true (by kernel_rfl)) k0 bel lt0) (trodAll_cons_mk (Below.trod laidOut (by kernel_rfl) (of_decide_eq_true (by kernel_rfl)) k1 bel lt1) (trodAll_cons_mk (Below.trod laidOut (by kernel_rfl) (of_decide_eq_true (by kernel_rfl)) k2 bel lt2) trodAll_mk0))), rfl, bel.frame _, fun h => by cases h⟩

theorem over : Rows.shortQuickRow.holds Try.pinned (OpenSpec.ofChange Rows.shortQuickSpec) :=
  OpenClaim.holds_of_wide 4 Try.f4 rfl rfl rfl rfl rfl rfl rfl ⟨rfl, rfl, rfl, rfl, rfl⟩ rfl rfl rfl rfl rfl (by kernel_rfl) Try.func4 (by kernel_rfl)
    (of_decide_eq_true (by kernel_rfl)) (by unfold Func.isWrapper; first | (rw [if_pos (by decide +kernel)]; kernel_rfl) | (rw [if_neg (by decide +kernel)]; exact ⟨rfl, rfl⟩))
    (fun os started H enc _ => lifted os started H enc)
end Go.Proofs.Ytnbjepjadekafaa.shortQuick

namespace Go.Proofs.Ytnbjepjadekafaa
theorem ShortQuick_holds : Rows.ShortQuickSaid := shortQuick.over
#print axioms ShortQuick_holds
end Go.Proofs.Ytnbjepjadekafaa
