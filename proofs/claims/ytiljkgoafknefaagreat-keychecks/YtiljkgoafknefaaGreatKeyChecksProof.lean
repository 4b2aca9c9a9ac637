/- Which keys may be: for any key whose numbers have the lengths that the law asks the program answers what the plain side answers. -/
import Derived.Test.YtiljkgoafknefaaGreatRows
import Derived.Test.YtiljkgoafknefaaGreatPk1
import Derived.Test.YtiljkgoafknefaaGreatPk2
import Derived.Test.YtiljkgoafknefaaGreatPk3
import Derived.Test.YtiljkgoafknefaaGreatPk4
import Derived.Test.YtiljkgoafknefaaGreatPk5
import Derived.Test.YtiljkgoafknefaaGreatPk6
import Derived.Test.YtiljkgoafknefaaGreatPk7
import Derived.Test.YtiljkgoafknefaaGreatPk8
import Derived.Test.YtiljkgoafknefaaGreatPk9
import Derived.Test.YtiljkgoafknefaaGreatPk10
import Derived.Test.YtiljkgoafknefaaGreatPk11
import Derived.Test.YtiljkgoafknefaaGreatPk12
import Derived.Test.YtiljkgoafknefaaGreatPk13
import Derived.Test.YtiljkgoafknefaaGreatPk14
import Derived.Test.YtiljkgoafknefaaGreatPk15
import Derived.Test.YtiljkgoafknefaaGreatPk16
import Derived.Test.YtiljkgoafknefaaGreatPk17
import Derived.Test.YtiljkgoafknefaaGreatPk18
import Derived.Test.YtiljkgoafknefaaGreatPk19
import Derived.Test.YtiljkgoafknefaaGreatPk20
import Derived.Test.YtiljkgoafknefaaGreatPk21
import Derived.Test.YtiljkgoafknefaaGreatPk22
import Derived.Test.YtiljkgoafknefaaGreatPk23
import Derived.Test.YtiljkgoafknefaaGreatPk24
import Derived.Test.YtiljkgoafknefaaGreatPk25
import Derived.Test.YtiljkgoafknefaaGreatPk26
import Derived.Test.YtiljkgoafknefaaGreatPk27
import Derived.Test.YtiljkgoafknefaaGreatPk28
import Derived.Test.YtiljkgoafknefaaGreatPk29
import Derived.Test.YtiljkgoafknefaaGreatPk30
import Derived.Test.YtiljkgoafknefaaGreatPk31
import Derived.Test.YtiljkgoafknefaaGreatPk32
import Derived.Test.YtiljkgoafknefaaGreatPk33
import Derived.Test.YtiljkgoafknefaaGreatPk34
import Derived.Test.YtiljkgoafknefaaGreatPk35
import Derived.Test.YtiljkgoafknefaaGreatPk36
import Derived.Test.YtiljkgoafknefaaGreatPk37
import Derived.Test.YtiljkgoafknefaaGreatPk38
import Derived.Test.YtiljkgoafknefaaGreatPk39
import Derived.Test.YtiljkgoafknefaaGreatPk40
import Derived.Test.YtiljkgoafknefaaGreatPk41
import Derived.Test.YtiljkgoafknefaaGreatPk42
import Derived.WalkKit
import Derived.ProofKit
import Derived.OpenShut
import Derived.ShutString
import Derived.ChangeOld
import Derived.Below
namespace Go.Proofs.YtiljkgoafknefaaGreat.keyChecks
open Go.ChangeShapes Go.WideShapes Go.ChangeAt Go.RowKit
open Go.ChangeMaps (open_string shut_string)
set_option linter.unusedVariables false

theorem own : ownKnob Tryz.prog.godebug = none := by kernel_rfl

theorem laidOut : laidOutB Tryz.prog = true := by kernel_rfl

set_option maxRecDepth 100000 in
theorem lifted (os : Os) (started : os.Started) (H : Type) (enc : TypeId × Value → H) :
    ReturnsInHanded {} Tryz.checked os 5 .any (Rows.keyChecksSpec.pre6 enc Tryz.prog Tryz.f5 Rows.keyChecksRow.domain false) (Rows.keyChecksSpec.post enc Tryz.prog Tryz.f5 false true false false) := by
  refine returnsInHanded_of_change (C := Tryz.checked) own started (by kernel_rfl) Tryz.func5
    (ChangeSpec.witness6 (enc := enc) (C := Tryz.checked) false ⟨#[], #[.agg #[.slice none 0 0, .int .u64 0, .slice none 0 0, .slice none 0 0, .slice none 0 0, .slice none 0 0, .slice none 0 0, .slice none 0 0]], []⟩ 5 (by kernel_rfl) (by kernel_rfl) (by kernel_rfl) (by kernel_rfl)) ?_
  intro W base args ds gs before hval0 hW hcnd _
  have hval : ∀ (j : Nat) t v, Tryz.f5.params[j]? = some t → args[j]? = some v → Value.okWide Tryz.prog W .any base t v := hval0
  have hW' := hW
  obtain ⟨p, q, hA0, hV, rfl, hfz, hnd⟩ := hW
  have hA : DataW.TrodAll enc Tryz.prog W 0 (fun _ => true) true Tryz.f5.params.toList args.toList ds p := hA0
  rw [Tryz.params5] at hA hval
  obtain ⟨v0, vs0, d0, ds0, p0, q0, hargs, rfl, rfl, h0, r0⟩ := trodAll_cons hA
  obtain ⟨rfl, rfl, rfl⟩ := trodAll_nil r0
  obtain rfl : args = #[v0] := by cases args; simp_all
  obtain ⟨rfl, rfl⟩ := trodVars_none hV
  have k0 := h0
  have lt0 : ∀ x ∈ p0, x.block < W.heap.size := by obtain ⟨m, hm⟩ := k0; exact DataW.trod_lt m _ _ _ hm
  obtain ⟨t0, l0, rfl, ra0, da0, wk0⟩ : ∃ (t : KS) (l : KL), v0 = .agg t.v ∧ t.Rows W l ∧ l.Digs ∧ t.en < 18446744073709551616 := by
    obtain ⟨cs, rfl, _⟩ := okWide_struct Tryz.underlying32 (hval 0 32 v0 rfl rfl)
    obtain ⟨fuel, hf⟩ := h0
    obtain ⟨t, l, hc, f1, f2, f3⟩ := open_key hf
    obtain ⟨cs⟩ := cs
    simp [Value.cells] at hc
    exact ⟨t, l, by rw [hc], f1, f2, f3⟩
  clear hA0 hval0
  refine (walkKeyChecks t0 l0 W ra0 da0 wk0).mono fun e W' ⟨he, bel⟩ => ?_
  subst he
  exact ⟨_, rfl, _, _, _, [], _, [], hW', trodAll_mk1 (shut_bool Tryz.underlying4 _), (trodAll_cons_mk (Below.trod laidOut (by kernel_rfl) (of_decide_eq_true (by kernel_rfl)) k0 bel lt0) trodAll_mk0), rfl, bel.frame _, fun h => by cases h⟩

theorem over : Rows.keyChecksRow.holds Tryz.pinned (OpenSpec.ofChange Rows.keyChecksSpec) :=
  OpenClaim.holds_of_wide 5 Tryz.f5 rfl rfl rfl rfl rfl rfl rfl ⟨rfl, rfl, rfl, rfl, rfl⟩ rfl rfl rfl rfl rfl (by kernel_rfl) Tryz.func5 (by kernel_rfl)
    (of_decide_eq_true (by kernel_rfl)) (by unfold Func.isWrapper; first | (rw [if_pos (by decide +kernel)]; kernel_rfl) | (rw [if_neg (by decide +kernel)]; exact ⟨rfl, rfl⟩))
    (fun os started H enc _ => lifted os started H enc)
end Go.Proofs.YtiljkgoafknefaaGreat.keyChecks

namespace Go.Proofs.YtiljkgoafknefaaGreat
theorem KeyChecks_holds : Rows.KeyChecksSaid := keyChecks.over
#print axioms KeyChecks_holds
end Go.Proofs.YtiljkgoafknefaaGreat
