/- Whatever the number, mont.Setup answers what the plain side answers: the modulus, or the error. -/
import Derived.Test.YtpgccioblgcjaaaRows
import Derived.Test.YtpgccioblgcjaaaBase1
import Derived.Test.YtpgccioblgcjaaaOpenRow
import Derived.Test.YtpgccioblgcjaaaTra1
import Derived.Test.YtpgccioblgcjaaaWor1
import Derived.Test.YtpgccioblgcjaaaBase2
import Derived.Test.YtpgccioblgcjaaaLim1
import Derived.Test.YtpgccioblgcjaaaPro1
import Derived.Test.YtpgccioblgcjaaaPro2
import Derived.Test.YtpgccioblgcjaaaBase3
import Derived.Test.YtpgccioblgcjaaaBase4
import Derived.Test.YtpgccioblgcjaaaMonE
import Derived.Test.YtpgccioblgcjaaaMonA
import Derived.Test.YtpgccioblgcjaaaMonB
import Derived.Test.YtpgccioblgcjaaaLim2
import Derived.Test.YtpgccioblgcjaaaMonC
import Derived.Test.YtpgccioblgcjaaaMonD
import Derived.Test.YtpgccioblgcjaaaMonF
import Derived.Test.YtpgccioblgcjaaaBigDivMod
import Derived.Test.YtpgccioblgcjaaaBigM
import Derived.Test.YtpgccioblgcjaaaInv0
import Derived.Test.YtpgccioblgcjaaaRef6m
import Derived.Test.YtpgccioblgcjaaaMonG
import Derived.Test.YtpgccioblgcjaaaLim3
import Derived.Test.YtpgccioblgcjaaaMonH
import Derived.Test.YtpgccioblgcjaaaMonI
import Derived.Test.YtpgccioblgcjaaaMonJ
import Derived.Test.YtpgccioblgcjaaaWInv
import Derived.Test.YtpgccioblgcjaaaMonK
import Derived.Test.YtpgccioblgcjaaaMonL
import Derived.Test.YtpgccioblgcjaaaL5A
import Derived.Test.YtpgccioblgcjaaaL6A
import Derived.Test.YtpgccioblgcjaaaL6B
import Derived.Test.YtpgccioblgcjaaaLMonSetup
import Derived.WalkKit
import Derived.ProofKit
import Derived.OpenShut
import Derived.ShutString
import Derived.ChangeOld
import Derived.Below
namespace Go.Proofs.Ytpgccioblgcjaaa.montSetup
open Go.ChangeShapes Go.WideShapes Go.ChangeAt Go.RowKit
open Go.ChangeMaps (open_string shut_string)
set_option linter.unusedVariables false

theorem own : ownKnob Try.prog.godebug = none := by kernel_rfl

theorem laidOut : laidOutB Try.prog = true := by kernel_rfl

set_option maxRecDepth 100000 in
theorem lifted (os : Os) (started : os.Started) (H : Type) (enc : TypeId × Value → H) :
    ReturnsInHanded {} Try.checked os 3 .any (Rows.montSetupSpec.pre6 enc Try.prog Try.f3 Rows.montSetupRow.domain false) (Rows.montSetupSpec.post enc Try.prog Try.f3 false true false false) := by
  refine returnsInHanded_of_change (C := Try.checked) own started (by kernel_rfl) Try.func3
    (ChangeSpec.witness6 (enc := enc) (C := Try.checked) false ⟨#[], #[.slice none 0 0], []⟩ 3 (by kernel_rfl) (by kernel_rfl) (by kernel_rfl) (by kernel_rfl)) ?_
  intro W base args ds gs before hval0 hW hcnd _
  have hval : ∀ (j : Nat) t v, Try.f3.params[j]? = some t → args[j]? = some v → Value.okWide Try.prog W .any base t v := hval0
  have hW' := hW
  obtain ⟨p, q, hA0, hV, rfl, hfz, hnd⟩ := hW
  have hA : DataW.TrodAll enc Try.prog W 0 (fun _ => true) true Try.f3.params.toList args.toList ds p := hA0
  rw [Try.params3] at hA hval
  obtain ⟨v0, vs0, d0, ds0, p0, q0, hargs, rfl, rfl, h0, r0⟩ := trodAll_cons hA
  obtain ⟨rfl, rfl, rfl⟩ := trodAll_nil r0
  obtain rfl : args = #[v0] := by cases args; simp_all
  obtain ⟨rfl, rfl⟩ := trodVars_none hV
  obtain ⟨a0, len0, cap0, rfl⟩ := okWide_slice Try.underlying23 (hval 0 23 v0 rfl rfl)
  have k0 := h0
  have lt0 : ∀ x ∈ p0, x.block < W.heap.size := by obtain ⟨m, hm⟩ := k0; exact DataW.trod_lt m _ _ _ hm
  obtain ⟨n0, row0, dg0⟩ : ∃ ns : List Nat, Row .u64 W (.slice a0 len0 cap0) ns ∧ Digs 18446744073709551616 ns := by
    obtain ⟨fuel, hf⟩ := h0
    rcases open_ints Try.underlying23 Try.underlying26 (by kernel_rfl) hf with ⟨hcs, _⟩ | ⟨x, l, c, zs, hcs, _, hl, hm, hz, _, hcell, hwz⟩
    · simp [Value.cells] at hcs
      obtain ⟨rfl, rfl, rfl⟩ := hcs
      exact row_of_ints wf_u64 (zs := []) (.inl ⟨rfl, rfl, rfl, rfl⟩)
    · simp [Value.cells] at hcs
      obtain ⟨rfl, rfl, rfl⟩ := hcs
      exact row_of_ints wf_u64 (.inr ⟨_, rfl, hl, hm, by simpa using hz, hcell, hwz⟩)
  clear hA0 hval0
  refine (walkMontSetup _ n0 W row0 dg0).mono fun e W' ⟨he, bel⟩ => ?_
  subst he
  exact ⟨_, rfl, _, _, _, [], _, [], hW', trodAll_mk1 (shut_bool Try.underlying4 _), (trodAll_cons_mk (Below.trod laidOut (by kernel_rfl) (of_decide_eq_true (by kernel_rfl)) k0 bel lt0) trodAll_mk0), rfl, bel.frame _, fun h => by cases h⟩

theorem over : Rows.montSetupRow.holds Try.pinned (OpenSpec.ofChange Rows.montSetupSpec) :=
  OpenClaim.holds_of_wide 3 Try.f3 rfl rfl rfl rfl rfl rfl rfl ⟨rfl, rfl, rfl, rfl, rfl⟩ rfl rfl rfl rfl rfl (by kernel_rfl) Try.func3 (by kernel_rfl)
    (of_decide_eq_true (by kernel_rfl)) (by unfold Func.isWrapper; first | (rw [if_pos (by decide +kernel)]; kernel_rfl) | (rw [if_neg (by decide +kernel)]; exact ⟨rfl, rfl⟩))
    (fun os started H enc _ => lifted os started H enc)
end Go.Proofs.Ytpgccioblgcjaaa.montSetup

namespace Go.Proofs.Ytpgccioblgcjaaa
theorem MontSetup_holds : Rows.MontSetupSaid := montSetup.over
#print axioms MontSetup_holds
end Go.Proofs.Ytpgccioblgcjaaa
