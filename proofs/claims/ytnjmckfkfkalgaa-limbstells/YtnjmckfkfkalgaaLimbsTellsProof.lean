/- limbs.Less, limbs.Equal and limbs.Zero answer 1 or 0 for any numbers as the document says; no condition. -/
import Derived.Test.YtnjmckfkfkalgaaRows
import Derived.Test.YtnjmckfkfkalgaaKept
import Derived.Test.YtnjmckfkfkalgaaNums
import Derived.Test.YtnjmckfkfkalgaaNumRow
import Derived.Test.YtnjmckfkfkalgaaOpenRow
import Derived.Test.YtnjmckfkfkalgaaEvs
import Derived.Test.YtnjmckfkfkalgaaTrs
import Derived.Test.YtnjmckfkfkalgaaTWrite
import Derived.Test.YtnjmckfkfkalgaaTRoom
import Derived.Test.YtnjmckfkfkalgaaTCalls
import Derived.Test.YtnjmckfkfkalgaaBigs
import Derived.Test.YtnjmckfkfkalgaaBigNat
import Derived.Test.YtnjmckfkfkalgaaCopies
import Derived.Test.YtnjmckfkfkalgaaSteps
import Derived.Test.YtnjmckfkfkalgaaExt
import Derived.Test.YtnjmckfkfkalgaaWords
import Derived.Test.YtnjmckfkfkalgaaLimA
import Derived.Test.YtnjmckfkfkalgaaBigBit
import Derived.Test.YtnjmckfkfkalgaaLimN
import Derived.Test.YtnjmckfkfkalgaaBigAdd
import Derived.Test.YtnjmckfkfkalgaaBigSub
import Derived.Test.YtnjmckfkfkalgaaBigShift
import Derived.Test.YtnjmckfkfkalgaaRef4A
import Derived.Test.YtnjmckfkfkalgaaRef4B
import Derived.Test.YtnjmckfkfkalgaaBigShr
import Derived.Test.YtnjmckfkfkalgaaRef4C
import Derived.Test.YtnjmckfkfkalgaaLimB
import Derived.Test.YtnjmckfkfkalgaaLimC
import Derived.Test.YtnjmckfkfkalgaaLimD
import Derived.Test.YtnjmckfkfkalgaaLimO
import Derived.Test.YtnjmckfkfkalgaaLimE
import Derived.Test.YtnjmckfkfkalgaaLimQ
import Derived.Test.YtnjmckfkfkalgaaLLimTells
import Derived.WalkKit
import Derived.ProofKit
import Derived.OpenShut
import Derived.ShutString
import Derived.ChangeOld
import Derived.Below
namespace Go.Proofs.Ytnjmckfkfkalgaa.limbsTells
open Go.ChangeShapes Go.WideShapes Go.ChangeAt Go.RowKit
open Go.ChangeMaps (open_string shut_string)
set_option linter.unusedVariables false

theorem own : ownKnob Try.prog.godebug = none := by kernel_rfl

theorem laidOut : laidOutB Try.prog = true := by kernel_rfl

set_option maxRecDepth 100000 in
theorem lifted (os : Os) (started : os.Started) (H : Type) (enc : TypeId × Value → H) :
    ReturnsInHanded {} Try.checked os 4 .any (Rows.limbsTellsSpec.pre6 enc Try.prog Try.f4 Rows.limbsTellsRow.domain false) (Rows.limbsTellsSpec.post enc Try.prog Try.f4 false true false false) := by
  refine returnsInHanded_of_change (C := Try.checked) own started (by kernel_rfl) Try.func4
    (ChangeSpec.witness6 (enc := enc) (C := Try.checked) false ⟨#[], #[.slice none 0 0, .slice none 0 0], []⟩ 4 (by kernel_rfl) (by kernel_rfl) (by kernel_rfl) (by kernel_rfl)) ?_
  intro W base args ds gs before hval0 hW hcnd _
  have hval : ∀ (j : Nat) t v, Try.f4.params[j]? = some t → args[j]? = some v → Value.okWide Try.prog W .any base t v := hval0
  have hW' := hW
  obtain ⟨p, q, hA0, hV, rfl, hfz, hnd⟩ := hW
  have hA : DataW.TrodAll enc Try.prog W 0 (fun _ => true) true Try.f4.params.toList args.toList ds p := hA0
  rw [Try.params4] at hA hval
  obtain ⟨v0, vs0, d0, ds0, p0, q0, hargs, rfl, rfl, h0, r0⟩ := trodAll_cons hA
  obtain ⟨v1, vs1, d1, ds1, p1, q1, rfl, rfl, rfl, h1, r1⟩ := trodAll_cons r0
  obtain ⟨rfl, rfl, rfl⟩ := trodAll_nil r1
  obtain rfl : args = #[v0, v1] := by cases args; simp_all
  obtain ⟨rfl, rfl⟩ := trodVars_none hV
  obtain ⟨a0, len0, cap0, rfl⟩ := okWide_slice Try.underlying23 (hval 0 23 v0 rfl rfl)
  have k0 := h0
  have lt0 : ∀ x ∈ p0, x.block < W.heap.size := by obtain ⟨m, hm⟩ := k0; exact DataW.trod_lt m _ _ _ hm
  obtain ⟨n0, row0, dg0⟩ : ∃ ns : List Nat, Row .u64 W (.slice a0 len0 cap0) ns ∧ Digs 18446744073709551616 ns := by
    obtain ⟨fuel, hf⟩ := h0
    rcases open_ints Try.underlying23 Try.underlying26 (by kernel_rfl) hf with ⟨hcs, _⟩ | ⟨x, l, c, zs, hcs, _, hl, hm, hz, _, hcell, hwz⟩
    · simp [Value.cells] at hcs
      obtain ⟨rfl, rfl, rfl⟩ := hcs
      exact row_of_ints wf_u64 (zs := []) (.inl ⟨rfl, rfl, rfl, rfl⟩)
    · simp [Value.cells] at hcs
      obtain ⟨rfl, rfl, rfl⟩ := hcs
      exact row_of_ints wf_u64 (.inr ⟨_, rfl, hl, hm, by simpa using hz, hcell, hwz⟩)
  obtain ⟨a1, len1, cap1, rfl⟩ := okWide_slice Try.underlying23 (hval 1 23 v1 rfl rfl)
  have k1 := h1
  have lt1 : ∀ x ∈ p1, x.block < W.heap.size := by obtain ⟨m, hm⟩ := k1; exact DataW.trod_lt m _ _ _ hm
  obtain ⟨n1, row1, dg1⟩ : ∃ ns : List Nat, Row .u64 W (.slice a1 len1 cap1) ns ∧ Digs 18446744073709551616 ns := by
    obtain ⟨fuel, hf⟩ := h1
    rcases open_ints Try.underlying23 Try.underlying26 (by kernel_rfl) hf with ⟨hcs, _⟩ | ⟨x, l, c, zs, hcs, _, hl, hm, hz, _, hcell, hwz⟩
    · simp [Value.cells] at hcs
      obtain ⟨rfl, rfl, rfl⟩ := hcs
      exact row_of_ints wf_u64 (zs := []) (.inl ⟨rfl, rfl, rfl, rfl⟩)
    · simp [Value.cells] at hcs
      obtain ⟨rfl, rfl, rfl⟩ := hcs
      exact row_of_ints wf_u64 (.inr ⟨_, rfl, hl, hm, by simpa using hz, hcell, hwz⟩)
  clear hA0 hval0
  refine (walkLimbsTells _ n0 _ n1 W row0 row1 dg0 dg1).mono fun e W' ⟨he, bel⟩ => ?_
  subst he
  exact ⟨_, rfl, _, _, _, [], _, [], hW', trodAll_mk1 (shut_bool Try.underlying4 _), (trodAll_cons_mk (Below.trod laidOut (by kernel_rfl) (of_decide_eq_true (by kernel_rfl)) k0 bel lt0) (trodAll_cons_mk (Below.trod laidOut (by kernel_rfl) (of_decide_eq_true (by kernel_rfl)) k1 bel lt1) trodAll_mk0)), rfl, bel.frame _, fun h => by cases h⟩

theorem over : Rows.limbsTellsRow.holds Try.pinned (OpenSpec.ofChange Rows.limbsTellsSpec) :=
  OpenClaim.holds_of_wide 4 Try.f4 rfl rfl rfl rfl rfl rfl rfl ⟨rfl, rfl, rfl, rfl, rfl⟩ rfl rfl rfl rfl rfl (by kernel_rfl) Try.func4 (by kernel_rfl)
    (of_decide_eq_true (by kernel_rfl)) (by unfold Func.isWrapper; first | (rw [if_pos (by decide +kernel)]; kernel_rfl) | (rw [if_neg (by decide +kernel)]; exact ⟨rfl, rfl⟩))
    (fun os started H enc _ => lifted os started H enc)
end Go.Proofs.Ytnjmckfkfkalgaa.limbsTells

namespace Go.Proofs.Ytnjmckfkfkalgaa
theorem LimbsTells_holds : Rows.LimbsTellsSaid := limbsTells.over
#print axioms LimbsTells_holds
end Go.Proofs.Ytnjmckfkfkalgaa
