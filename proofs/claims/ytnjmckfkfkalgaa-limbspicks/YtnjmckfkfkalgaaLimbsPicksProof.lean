/- limbs.Pick answers the number at any place of any list, in the length of the longest, or noughts; no condition. -/
import Derived.Test.YtnjmckfkfkalgaaRows
import Derived.Test.YtnjmckfkfkalgaaKept
import Derived.Test.YtnjmckfkfkalgaaNums
import Derived.Test.YtnjmckfkfkalgaaNumRow
import Derived.Test.YtnjmckfkfkalgaaOpenRow
import Derived.Test.YtnjmckfkfkalgaaEvs
import Derived.Test.YtnjmckfkfkalgaaTrs
import Derived.Test.YtnjmckfkfkalgaaTWrite
import Derived.Test.YtnjmckfkfkalgaaTRoom
import Derived.Test.YtnjmckfkfkalgaaTCalls
import Derived.Test.YtnjmckfkfkalgaaBigs
import Derived.Test.YtnjmckfkfkalgaaBigNat
import Derived.Test.YtnjmckfkfkalgaaCopies
import Derived.Test.YtnjmckfkfkalgaaSteps
import Derived.Test.YtnjmckfkfkalgaaExt
import Derived.Test.YtnjmckfkfkalgaaWords
import Derived.Test.YtnjmckfkfkalgaaLimA
import Derived.Test.YtnjmckfkfkalgaaOpenNats
import Derived.Test.YtnjmckfkfkalgaaBigBit
import Derived.Test.YtnjmckfkfkalgaaLimN
import Derived.Test.YtnjmckfkfkalgaaBigAdd
import Derived.Test.YtnjmckfkfkalgaaBigSub
import Derived.Test.YtnjmckfkfkalgaaBigShift
import Derived.Test.YtnjmckfkfkalgaaRef4A
import Derived.Test.YtnjmckfkfkalgaaRef4B
import Derived.Test.YtnjmckfkfkalgaaBigShr
import Derived.Test.YtnjmckfkfkalgaaRef4C
import Derived.Test.YtnjmckfkfkalgaaLimB
import Derived.Test.YtnjmckfkfkalgaaLimC
import Derived.Test.YtnjmckfkfkalgaaLimD
import Derived.Test.YtnjmckfkfkalgaaLimO
import Derived.Test.YtnjmckfkfkalgaaLimP
import Derived.Test.YtnjmckfkfkalgaaLimU
import Derived.Test.YtnjmckfkfkalgaaRef4P
import Derived.Test.YtnjmckfkfkalgaaLLimPicks
import Derived.WalkKit
import Derived.ProofKit
import Derived.OpenShut
import Derived.ShutString
import Derived.ChangeOld
import Derived.Below
namespace Go.Proofs.Ytnjmckfkfkalgaa.limbsPicks
open Go.ChangeShapes Go.WideShapes Go.ChangeAt Go.RowKit
open Go.ChangeMaps (open_string shut_string)
set_option linter.unusedVariables false

theorem own : ownKnob Try.prog.godebug = none := by kernel_rfl

theorem laidOut : laidOutB Try.prog = true := by kernel_rfl

set_option maxRecDepth 100000 in
theorem lifted (os : Os) (started : os.Started) (H : Type) (enc : TypeId × Value → H) :
    ReturnsInHanded {} Try.checked os 6 .any (Rows.limbsPicksSpec.pre6 enc Try.prog Try.f6 Rows.limbsPicksRow.domain false) (Rows.limbsPicksSpec.post enc Try.prog Try.f6 false true false false) := by
  refine returnsInHanded_of_change (C := Try.checked) own started (by kernel_rfl) Try.func6
    (ChangeSpec.witness6 (enc := enc) (C := Try.checked) false ⟨#[], #[.slice none 0 0, .int .u64 0], []⟩ 6 (by kernel_rfl) (by kernel_rfl) (by kernel_rfl) (by kernel_rfl)) ?_
  intro W base args ds gs before hval0 hW hcnd _
  have hval : ∀ (j : Nat) t v, Try.f6.params[j]? = some t → args[j]? = some v → Value.okWide Try.prog W .any base t v := hval0
  have hW' := hW
  obtain ⟨p, q, hA0, hV, rfl, hfz, hnd⟩ := hW
  have hA : DataW.TrodAll enc Try.prog W 0 (fun _ => true) true Try.f6.params.toList args.toList ds p := hA0
  rw [Try.params6] at hA hval
  obtain ⟨v0, vs0, d0, ds0, p0, q0, hargs, rfl, rfl, h0, r0⟩ := trodAll_cons hA
  obtain ⟨v1, vs1, d1, ds1, p1, q1, rfl, rfl, rfl, h1, r1⟩ := trodAll_cons r0
  obtain ⟨rfl, rfl, rfl⟩ := trodAll_nil r1
  obtain rfl : args = #[v0, v1] := by cases args; simp_all
  obtain ⟨rfl, rfl⟩ := trodVars_none hV
  obtain ⟨a0, len0, cap0, rfl⟩ := okWide_slice Try.underlying39 (hval 0 39 v0 rfl rfl)
  have k0 := h0
  have lt0 : ∀ x ∈ p0, x.block < W.heap.size := by obtain ⟨m, hm⟩ := k0; exact DataW.trod_lt m _ _ _ hm
  obtain ⟨m0, A0, L0, C0, x0, ns0⟩ : ∃ n A L C xss, NatsIn W (.slice a0 len0 cap0) n A L C xss := by
    obtain ⟨fuel, hf⟩ := h0
    exact open_nats (by simpa [Value.cells] using hf)
  obtain ⟨a1, rfl, rfl, rfl, w1⟩ := open_int Try.underlying26 (hval 1 26 v1 rfl rfl) h1
  clear hA0 hval0
  refine (walkLimbsPicks _ m0 A0 L0 C0 x0 a1 W ns0 w1).mono fun e W' ⟨he, bel⟩ => ?_
  subst he
  exact ⟨_, rfl, _, _, _, [], _, [], hW', trodAll_mk1 (shut_bool Try.underlying4 _), (trodAll_cons_mk (Below.trod laidOut (by kernel_rfl) (of_decide_eq_true (by kernel_rfl)) k0 bel lt0) (trodAll_cons_mk (shut_int Try.underlying26 w1) trodAll_mk0)), rfl, bel.frame _, fun h => by cases h⟩

theorem over : Rows.limbsPicksRow.holds Try.pinned (OpenSpec.ofChange Rows.limbsPicksSpec) :=
  OpenClaim.holds_of_wide 6 Try.f6 rfl rfl rfl rfl rfl rfl rfl ⟨rfl, rfl, rfl, rfl, rfl⟩ rfl rfl rfl rfl rfl (by kernel_rfl) Try.func6 (by kernel_rfl)
    (of_decide_eq_true (by kernel_rfl)) (by unfold Func.isWrapper; first | (rw [if_pos (by decide +kernel)]; kernel_rfl) | (rw [if_neg (by decide +kernel)]; exact ⟨rfl, rfl⟩))
    (fun os started H enc _ => lifted os started H enc)
end Go.Proofs.Ytnjmckfkfkalgaa.limbsPicks

namespace Go.Proofs.Ytnjmckfkfkalgaa
theorem LimbsPicks_holds : Rows.LimbsPicksSaid := limbsPicks.over
#print axioms LimbsPicks_holds
end Go.Proofs.Ytnjmckfkfkalgaa
