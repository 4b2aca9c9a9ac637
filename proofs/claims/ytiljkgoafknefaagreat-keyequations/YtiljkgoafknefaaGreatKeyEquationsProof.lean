/- A key that is made of any two numbers of the lengths that the law asks holds its equations: the private exponent, the halves and the inverse are what they should be, and the key checks. -/
import Derived.Test.YtiljkgoafknefaaGreatRows
import Derived.Test.YtiljkgoafknefaaGreatPk1
import Derived.Test.YtiljkgoafknefaaGreatPk2
import Derived.Test.YtiljkgoafknefaaGreatPk3
import Derived.Test.YtiljkgoafknefaaGreatPk4
import Derived.Test.YtiljkgoafknefaaGreatPk5
import Derived.Test.YtiljkgoafknefaaGreatPk6
import Derived.Test.YtiljkgoafknefaaGreatPk7
import Derived.Test.YtiljkgoafknefaaGreatPk8
import Derived.Test.YtiljkgoafknefaaGreatPk9
import Derived.Test.YtiljkgoafknefaaGreatPk10
import Derived.Test.YtiljkgoafknefaaGreatPk11
import Derived.Test.YtiljkgoafknefaaGreatPk12
import Derived.Test.YtiljkgoafknefaaGreatPk13
import Derived.Test.YtiljkgoafknefaaGreatPk14
import Derived.Test.YtiljkgoafknefaaGreatPk15
import Derived.Test.YtiljkgoafknefaaGreatPk16
import Derived.Test.YtiljkgoafknefaaGreatPk17
import Derived.Test.YtiljkgoafknefaaGreatPk18
import Derived.Test.YtiljkgoafknefaaGreatPk19
import Derived.Test.YtiljkgoafknefaaGreatPk20
import Derived.Test.YtiljkgoafknefaaGreatPk21
import Derived.Test.YtiljkgoafknefaaGreatPk22
import Derived.Test.YtiljkgoafknefaaGreatPk23
import Derived.Test.YtiljkgoafknefaaGreatPk24
import Derived.Test.YtiljkgoafknefaaGreatPk25
import Derived.Test.YtiljkgoafknefaaGreatPk26
import Derived.Test.YtiljkgoafknefaaGreatPk27
import Derived.Test.YtiljkgoafknefaaGreatPk28
import Derived.Test.YtiljkgoafknefaaGreatPk29
import Derived.Test.YtiljkgoafknefaaGreatPk30
import Derived.Test.YtiljkgoafknefaaGreatPk31
import Derived.Test.YtiljkgoafknefaaGreatPk32
import Derived.Test.YtiljkgoafknefaaGreatPk33
import Derived.Test.YtiljkgoafknefaaGreatPk34
import Derived.Test.YtiljkgoafknefaaGreatPk35
import Derived.Test.YtiljkgoafknefaaGreatPk36
import Derived.Test.YtiljkgoafknefaaGreatPk37
import Derived.Test.YtiljkgoafknefaaGreatPk38
import Derived.Test.YtiljkgoafknefaaGreatPk39
import Derived.Test.YtiljkgoafknefaaGreatPk40
import Derived.Test.YtiljkgoafknefaaGreatPk41
import Derived.Test.YtiljkgoafknefaaGreatPk42
import Derived.WalkKit
import Derived.ProofKit
import Derived.OpenShut
import Derived.ShutString
import Derived.ChangeOld
import Derived.Below
namespace Go.Proofs.YtiljkgoafknefaaGreat.keyEquations
open Go.ChangeShapes Go.WideShapes Go.ChangeAt Go.RowKit
open Go.ChangeMaps (open_string shut_string)
set_option linter.unusedVariables false

theorem own : ownKnob Tryz.prog.godebug = none := by kernel_rfl

theorem laidOut : laidOutB Tryz.prog = true := by kernel_rfl

set_option maxRecDepth 100000 in
theorem lifted (os : Os) (started : os.Started) (H : Type) (enc : TypeId × Value → H) :
    ReturnsInHanded {} Tryz.checked os 7 .any (Rows.keyEquationsSpec.pre6 enc Tryz.prog Tryz.f7 Rows.keyEquationsRow.domain false) (Rows.keyEquationsSpec.post enc Tryz.prog Tryz.f7 false true false false) := by
  refine returnsInHanded_of_change (C := Tryz.checked) own started (by kernel_rfl) Tryz.func7
    (ChangeSpec.witness6 (enc := enc) (C := Tryz.checked) false ⟨#[], #[.slice none 0 0, .slice none 0 0, .int .u64 0], []⟩ 7 (by kernel_rfl) (by kernel_rfl) (by kernel_rfl) (by kernel_rfl)) ?_
  intro W base args ds gs before hval0 hW hcnd _
  have hval : ∀ (j : Nat) t v, Tryz.f7.params[j]? = some t → args[j]? = some v → Value.okWide Tryz.prog W .any base t v := hval0
  have hW' := hW
  obtain ⟨p, q, hA0, hV, rfl, hfz, hnd⟩ := hW
  have hA : DataW.TrodAll enc Tryz.prog W 0 (fun _ => true) true Tryz.f7.params.toList args.toList ds p := hA0
  rw [Tryz.params7] at hA hval
  obtain ⟨v0, vs0, d0, ds0, p0, q0, hargs, rfl, rfl, h0, r0⟩ := trodAll_cons hA
  obtain ⟨v1, vs1, d1, ds1, p1, q1, rfl, rfl, rfl, h1, r1⟩ := trodAll_cons r0
  obtain ⟨v2, vs2, d2, ds2, p2, q2, rfl, rfl, rfl, h2, r2⟩ := trodAll_cons r1
  obtain ⟨rfl, rfl, rfl⟩ := trodAll_nil r2
  obtain rfl : args = #[v0, v1, v2] := by cases args; simp_all
  obtain ⟨rfl, rfl⟩ := trodVars_none hV
  obtain ⟨a0, len0, cap0, rfl⟩ := okWide_slice Tryz.underlying23 (hval 0 23 v0 rfl rfl)
  have k0 := h0
  have lt0 : ∀ x ∈ p0, x.block < W.heap.size := by obtain ⟨m, hm⟩ := k0; exact DataW.trod_lt m _ _ _ hm
  obtain ⟨n0, row0, dg0⟩ : ∃ ns : List Nat, Row .u64 W (.slice a0 len0 cap0) ns ∧ Digs 18446744073709551616 ns := by
    obtain ⟨fuel, hf⟩ := h0
    rcases open_ints Tryz.underlying23 Tryz.underlying24 (by kernel_rfl) hf with ⟨hcs, _⟩ | ⟨x, l, c, zs, hcs, _, hl, hm, hz, _, hcell, hwz⟩
    · simp [Value.cells] at hcs
      obtain ⟨rfl, rfl, rfl⟩ := hcs
      exact row_of_ints wf_u64 (zs := []) (.inl ⟨rfl, rfl, rfl, rfl⟩)
    · simp [Value.cells] at hcs
      obtain ⟨rfl, rfl, rfl⟩ := hcs
      exact row_of_ints wf_u64 (.inr ⟨_, rfl, hl, hm, by simpa using hz, hcell, hwz⟩)
  obtain ⟨a1, len1, cap1, rfl⟩ := okWide_slice Tryz.underlying23 (hval 1 23 v1 rfl rfl)
  have k1 := h1
  have lt1 : ∀ x ∈ p1, x.block < W.heap.size := by obtain ⟨m, hm⟩ := k1; exact DataW.trod_lt m _ _ _ hm
  obtain ⟨n1, row1, dg1⟩ : ∃ ns : List Nat, Row .u64 W (.slice a1 len1 cap1) ns ∧ Digs 18446744073709551616 ns := by
    obtain ⟨fuel, hf⟩ := h1
    rcases open_ints Tryz.underlying23 Tryz.underlying24 (by kernel_rfl) hf with ⟨hcs, _⟩ | ⟨x, l, c, zs, hcs, _, hl, hm, hz, _, hcell, hwz⟩
    · simp [Value.cells] at hcs
      obtain ⟨rfl, rfl, rfl⟩ := hcs
      exact row_of_ints wf_u64 (zs := []) (.inl ⟨rfl, rfl, rfl, rfl⟩)
    · simp [Value.cells] at hcs
      obtain ⟨rfl, rfl, rfl⟩ := hcs
      exact row_of_ints wf_u64 (.inr ⟨_, rfl, hl, hm, by simpa using hz, hcell, hwz⟩)
  obtain ⟨a2, rfl, rfl, rfl, w2⟩ := open_int Tryz.underlying24 (hval 2 24 v2 rfl rfl) h2
  clear hA0 hval0
  refine (walkKeyEquations _ n0 _ n1 a2 W row0 row1 dg0 dg1 w2).mono fun e W' ⟨he, bel⟩ => ?_
  subst he
  exact ⟨_, rfl, _, _, _, [], _, [], hW', trodAll_mk1 (shut_bool Tryz.underlying4 _), (trodAll_cons_mk (Below.trod laidOut (by kernel_rfl) (of_decide_eq_true (by kernel_rfl)) k0 bel lt0) (trodAll_cons_mk (Below.trod laidOut (by kernel_rfl) (of_decide_eq_true (by kernel_rfl)) k1 bel lt1) (trodAll_cons_mk (shut_int Tryz.underlying24 w2) trodAll_mk0))), rfl, bel.frame _, fun h => by cases h⟩

theorem over : Rows.keyEquationsRow.holds Tryz.pinned (OpenSpec.ofChange Rows.keyEquationsSpec) :=
  OpenClaim.holds_of_wide 7 Tryz.f7 rfl rfl rfl rfl rfl rfl rfl ⟨rfl, rfl, rfl, rfl, rfl⟩ rfl rfl rfl rfl rfl (by kernel_rfl) Tryz.func7 (by kernel_rfl)
    (of_decide_eq_true (by kernel_rfl)) (by unfold Func.isWrapper; first | (rw [if_pos (by decide +kernel)]; kernel_rfl) | (rw [if_neg (by decide +kernel)]; exact ⟨rfl, rfl⟩))
    (fun os started H enc _ => lifted os started H enc)
end Go.Proofs.YtiljkgoafknefaaGreat.keyEquations

namespace Go.Proofs.YtiljkgoafknefaaGreat
theorem KeyEquations_holds : Rows.KeyEquationsSaid := keyEquations.over
#print axioms KeyEquations_holds
end Go.Proofs.YtiljkgoafknefaaGreat
