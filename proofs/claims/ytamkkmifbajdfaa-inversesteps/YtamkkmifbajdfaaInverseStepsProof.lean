/- For every number of bits the landed Steps answers what the document's plain Steps answers, behind the example of chapter 10. -/
import Derived.Test.YtamkkmifbajdfaaRows
import Derived.Test.YtamkkmifbajdfaaBase1
import Derived.Test.YtamkkmifbajdfaaOpenRow
import Derived.Test.YtamkkmifbajdfaaTra1
import Derived.Test.YtamkkmifbajdfaaWor1
import Derived.Test.YtamkkmifbajdfaaBase2
import Derived.Test.YtamkkmifbajdfaaLim1
import Derived.Test.YtamkkmifbajdfaaPro1
import Derived.Test.YtamkkmifbajdfaaPro2
import Derived.Test.YtamkkmifbajdfaaBase3
import Derived.Test.YtamkkmifbajdfaaBase4
import Derived.Test.YtamkkmifbajdfaaMonA
import Derived.Test.YtamkkmifbajdfaaLim2
import Derived.Test.YtamkkmifbajdfaaMonB
import Derived.Test.YtamkkmifbajdfaaMon2
import Derived.Test.YtamkkmifbajdfaaBigDivMod
import Derived.Test.YtamkkmifbajdfaaBigM
import Derived.Test.YtamkkmifbajdfaaInv0
import Derived.Test.YtamkkmifbajdfaaRef6m
import Derived.Test.YtamkkmifbajdfaaMon3
import Derived.Test.YtamkkmifbajdfaaLim3
import Derived.Test.YtamkkmifbajdfaaWInv
import Derived.Test.YtamkkmifbajdfaaMon4
import Derived.Test.YtamkkmifbajdfaaMon5
import Derived.Test.YtamkkmifbajdfaaLimH
import Derived.Test.YtamkkmifbajdfaaRef6D
import Derived.Test.YtamkkmifbajdfaaRef6E
import Derived.Test.YtamkkmifbajdfaaRef6o
import Derived.Test.YtamkkmifbajdfaaRef7A
import Derived.Test.YtamkkmifbajdfaaRef7B
import Derived.Test.YtamkkmifbajdfaaRef7C
import Derived.Test.YtamkkmifbajdfaaRinA
import Derived.Test.YtamkkmifbajdfaaDst1
import Derived.Test.YtamkkmifbajdfaaDst2
import Derived.Test.YtamkkmifbajdfaaIvn1
import Derived.Test.YtamkkmifbajdfaaIvn2
import Derived.Test.YtamkkmifbajdfaaIvn3
import Derived.Test.YtamkkmifbajdfaaIvn4
import Derived.Test.YtamkkmifbajdfaaIvn5
import Derived.Test.YtamkkmifbajdfaaNatB
import Derived.Test.YtamkkmifbajdfaaRef5A
import Derived.Test.YtamkkmifbajdfaaRef10A
import Derived.Test.YtamkkmifbajdfaaIvn6
import Derived.Test.YtamkkmifbajdfaaRinB
import Derived.Test.YtamkkmifbajdfaaRinC
import Derived.Test.YtamkkmifbajdfaaRinD
import Derived.Test.YtamkkmifbajdfaaIvn7
import Derived.Test.YtamkkmifbajdfaaIvn8
import Derived.Test.YtamkkmifbajdfaaL5A
import Derived.Test.YtamkkmifbajdfaaLaw6
import Derived.Test.YtamkkmifbajdfaaLaw10
import Derived.Test.YtamkkmifbajdfaaLInvSteps
import Derived.WalkKit
import Derived.ProofKit
import Derived.OpenShut
import Derived.ShutString
import Derived.ChangeOld
import Derived.Below
namespace Go.Proofs.Ytamkkmifbajdfaa.inverseSteps
open Go.ChangeShapes Go.WideShapes Go.ChangeAt Go.RowKit
open Go.ChangeMaps (open_string shut_string)
set_option linter.unusedVariables false

theorem own : ownKnob Try.prog.godebug = none := by kernel_rfl

theorem laidOut : laidOutB Try.prog = true := by kernel_rfl

set_option maxRecDepth 100000 in
theorem lifted (os : Os) (started : os.Started) (H : Type) (enc : TypeId × Value → H) :
    ReturnsInHanded {} Try.checked os 3 .any (Rows.inverseStepsSpec.pre6 enc Try.prog Try.f3 Rows.inverseStepsRow.domain false) (Rows.inverseStepsSpec.post enc Try.prog Try.f3 false true false false) := by
  refine returnsInHanded_of_change (C := Try.checked) own started (by kernel_rfl) Try.func3
    (ChangeSpec.witness6 (enc := enc) (C := Try.checked) false ⟨#[], #[.int .i64 0], []⟩ 3 (by kernel_rfl) (by kernel_rfl) (by kernel_rfl) (by kernel_rfl)) ?_
  intro W base args ds gs before hval0 hW hcnd _
  have hval : ∀ (j : Nat) t v, Try.f3.params[j]? = some t → args[j]? = some v → Value.okWide Try.prog W .any base t v := hval0
  have hW' := hW
  obtain ⟨p, q, hA0, hV, rfl, hfz, hnd⟩ := hW
  have hA : DataW.TrodAll enc Try.prog W 0 (fun _ => true) true Try.f3.params.toList args.toList ds p := hA0
  rw [Try.params3] at hA hval
  obtain ⟨v0, vs0, d0, ds0, p0, q0, hargs, rfl, rfl, h0, r0⟩ := trodAll_cons hA
  obtain ⟨rfl, rfl, rfl⟩ := trodAll_nil r0
  obtain rfl : args = #[v0] := by cases args; simp_all
  obtain ⟨rfl, rfl⟩ := trodVars_none hV
  obtain ⟨a0, rfl, rfl, rfl, w0⟩ := open_int Try.underlying3 (hval 0 3 v0 rfl rfl) h0
  clear hA0 hval0
  refine (walkInverseSteps a0 W w0).mono fun e W' ⟨he, bel⟩ => ?_
  subst he
  exact ⟨_, rfl, _, _, _, [], _, [], hW', trodAll_mk1 (shut_bool Try.underlying4 _), (trodAll_cons_mk (shut_int Try.underlying3 w0) trodAll_mk0), rfl, bel.frame _, fun h => by cases h⟩

theorem over : Rows.inverseStepsRow.holds Try.pinned (OpenSpec.ofChange Rows.inverseStepsSpec) :=
  OpenClaim.holds_of_wide 3 Try.f3 rfl rfl rfl rfl rfl rfl rfl ⟨rfl, rfl, rfl, rfl, rfl⟩ rfl rfl rfl rfl rfl (by kernel_rfl) Try.func3 (by kernel_rfl)
    (of_decide_eq_true (by kernel_rfl)) (by unfold Func.isWrapper; first | (rw [if_pos (by decide +kernel)]; kernel_rfl) | (rw [if_neg (by decide +kernel)]; exact ⟨rfl, rfl⟩))
    (fun os started H enc _ => lifted os started H enc)
end Go.Proofs.Ytamkkmifbajdfaa.inverseSteps

namespace Go.Proofs.Ytamkkmifbajdfaa
theorem InverseSteps_holds : Rows.InverseStepsSaid := inverseSteps.over
#print axioms InverseSteps_holds
end Go.Proofs.Ytamkkmifbajdfaa
