/- The statement MillerPrimes returns true for every int n and never panics: for every odd n from 5 to 600 the landed strong test grants a prime every base from 2 to n - 2, and grants any other number at most a quarter of n - 1 bases; no condition on n. -/
import Derived.Test.YtgcbbadakfdcgaaRows
import Derived.Test.YtgcbbadakfdcgaaBase1
import Derived.Test.YtgcbbadakfdcgaaOpenRow
import Derived.Test.YtgcbbadakfdcgaaTra1
import Derived.Test.YtgcbbadakfdcgaaWor1
import Derived.Test.YtgcbbadakfdcgaaBase2
import Derived.Test.YtgcbbadakfdcgaaLim1
import Derived.Test.YtgcbbadakfdcgaaPro1
import Derived.Test.YtgcbbadakfdcgaaPro0
import Derived.Test.YtgcbbadakfdcgaaPro2
import Derived.Test.YtgcbbadakfdcgaaBase3
import Derived.Test.YtgcbbadakfdcgaaBase4
import Derived.Test.YtgcbbadakfdcgaaMonA
import Derived.Test.YtgcbbadakfdcgaaLim2
import Derived.Test.YtgcbbadakfdcgaaMonB
import Derived.Test.YtgcbbadakfdcgaaMon2
import Derived.Test.YtgcbbadakfdcgaaBigDivMod
import Derived.Test.YtgcbbadakfdcgaaBigM
import Derived.Test.YtgcbbadakfdcgaaInv0
import Derived.Test.YtgcbbadakfdcgaaRef6m
import Derived.Test.YtgcbbadakfdcgaaMon3
import Derived.Test.YtgcbbadakfdcgaaRef5C
import Derived.Test.YtgcbbadakfdcgaaPrm1
import Derived.Test.YtgcbbadakfdcgaaPrm2
import Derived.Test.YtgcbbadakfdcgaaMir1
import Derived.Test.YtgcbbadakfdcgaaPrm3
import Derived.Test.YtgcbbadakfdcgaaStr1
import Derived.Test.YtgcbbadakfdcgaaLim3
import Derived.Test.YtgcbbadakfdcgaaWInv
import Derived.Test.YtgcbbadakfdcgaaMon4
import Derived.Test.YtgcbbadakfdcgaaMon5
import Derived.Test.YtgcbbadakfdcgaaRnd1
import Derived.Test.YtgcbbadakfdcgaaSeq0
import Derived.Test.YtgcbbadakfdcgaaSeq1
import Derived.Test.YtgcbbadakfdcgaaPow1
import Derived.Test.YtgcbbadakfdcgaaMir2
import Derived.Test.YtgcbbadakfdcgaaLimH
import Derived.Test.YtgcbbadakfdcgaaLays
import Derived.Test.YtgcbbadakfdcgaaNatB
import Derived.Test.YtgcbbadakfdcgaaNatC
import Derived.Test.YtgcbbadakfdcgaaNatD
import Derived.Test.YtgcbbadakfdcgaaNatE
import Derived.Test.YtgcbbadakfdcgaaMir3
import Derived.Test.YtgcbbadakfdcgaaSho1
import Derived.Test.YtgcbbadakfdcgaaSho2
import Derived.Test.YtgcbbadakfdcgaaSho3
import Derived.Test.YtgcbbadakfdcgaaMir4
import Derived.Test.YtgcbbadakfdcgaaMir5
import Derived.Test.YtgcbbadakfdcgaaLaw17
import Derived.Test.YtgcbbadakfdcgaaMil1
import Derived.Test.YtgcbbadakfdcgaaMil2
import Derived.Test.YtgcbbadakfdcgaaLMilPrimes
import Derived.WalkKit
import Derived.ProofKit
import Derived.OpenShut
import Derived.ShutString
import Derived.ChangeOld
import Derived.Below
namespace Go.Proofs.Ytgcbbadakfdcgaa.millerPrimes
open Go.ChangeShapes Go.WideShapes Go.ChangeAt Go.RowKit
open Go.ChangeMaps (open_string shut_string)
set_option linter.unusedVariables false

theorem own : ownKnob Try.prog.godebug = none := by kernel_rfl

theorem laidOut : laidOutB Try.prog = true := by kernel_rfl

set_option maxRecDepth 100000 in
theorem lifted (os : Os) (started : os.Started) (H : Type) (enc : TypeId × Value → H) :
    ReturnsInHanded {} Try.checked os 3 .any (Rows.millerPrimesSpec.pre6 enc Try.prog Try.f3 Rows.millerPrimesRow.domain false) (Rows.millerPrimesSpec.post enc Try.prog Try.f3 false true false false) := by
  refine returnsInHanded_of_change (C := Try.checked) own started (by kernel_rfl) Try.func3
    (ChangeSpec.witness6 (enc := enc) (C := Try.checked) false ⟨#[], #[.int .i64 0], []⟩ 3 (by kernel_rfl) (by kernel_rfl) (by kernel_rfl) (by kernel_rfl)) ?_
  intro W base args ds gs before hval0 hW hcnd _
  have hval : ∀ (j : Nat) t v, Try.f3.params[j]? = some t → args[j]? = some v → Value.okWide Try.prog W .any base t v := hval0
  have hW' := hW
  obtain ⟨p, q, hA0, hV, rfl, hfz, hnd⟩ := hW
  have hA : DataW.TrodAll enc Try.prog W 0 (fun _ => true) true Try.f3.params.toList args.toList ds p := hA0
  rw [Try.params3] at hA hval
  obtain ⟨v0, vs0, d0, ds0, p0, q0, hargs, rfl, rfl, h0, r0⟩ := trodAll_cons hA
  obtain ⟨rfl, rfl, rfl⟩ := trodAll_nil r0
  obtain rfl : args = #[v0] := by cases args; simp_all
  obtain ⟨rfl, rfl⟩ := trodVars_none hV
  obtain ⟨a0, rfl, rfl, rfl, w0⟩ := open_int Try.underlying3 (hval 0 3 v0 rfl rfl) h0
  clear hA0 hval0
  refine (walkMillerPrimes a0 W w0).mono fun e W' ⟨he, bel⟩ => ?_
  subst he
  exact ⟨_, rfl, _, _, _, [], _, [], hW', trodAll_mk1 (shut_bool Try.underlying4 _), (trodAll_cons_mk (shut_int Try.underlying3 w0) trodAll_mk0), rfl, bel.frame _, fun h => by cases h⟩

theorem over : Rows.millerPrimesRow.holds Try.pinned (OpenSpec.ofChange Rows.millerPrimesSpec) :=
  OpenClaim.holds_of_wide 3 Try.f3 rfl rfl rfl rfl rfl rfl rfl ⟨rfl, rfl, rfl, rfl, rfl⟩ rfl rfl rfl rfl rfl (by kernel_rfl) Try.func3 (by kernel_rfl)
    (of_decide_eq_true (by kernel_rfl)) (by unfold Func.isWrapper; first | (rw [if_pos (by decide +kernel)]; kernel_rfl) | (rw [if_neg (by decide +kernel)]; exact ⟨rfl, rfl⟩))
    (fun os started H enc _ => lifted os started H enc)
end Go.Proofs.Ytgcbbadakfdcgaa.millerPrimes

namespace Go.Proofs.Ytgcbbadakfdcgaa
theorem MillerPrimes_holds : Rows.MillerPrimesSaid := millerPrimes.over
#print axioms MillerPrimes_holds
end Go.Proofs.Ytgcbbadakfdcgaa
