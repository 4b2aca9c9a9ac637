/- The rest of any short number by a word is the plain one, and refusals too: the law answers true. -/
import Derived.Test.YtcdeankllgpnfaaRows
import Derived.Test.YtcdeankllgpnfaaBase1
import Derived.Test.YtcdeankllgpnfaaOpenRow
import Derived.Test.YtcdeankllgpnfaaTra1
import Derived.Test.YtcdeankllgpnfaaWor1
import Derived.Test.YtcdeankllgpnfaaBase2
import Derived.Test.YtcdeankllgpnfaaLim1
import Derived.Test.YtcdeankllgpnfaaLimC
import Derived.Test.YtcdeankllgpnfaaLimD
import Derived.Test.YtcdeankllgpnfaaLimE
import Derived.Test.YtcdeankllgpnfaaLimF
import Derived.Test.YtcdeankllgpnfaaLimG
import Derived.Test.YtcdeankllgpnfaaPrA
import Derived.Test.YtcdeankllgpnfaaDigL
import Derived.Test.YtcdeankllgpnfaaPrB
import Derived.Test.YtcdeankllgpnfaaPrH
import Derived.Test.YtcdeankllgpnfaaBitA
import Derived.Test.YtcdeankllgpnfaaPrI
import Derived.Test.YtcdeankllgpnfaaAtt
import Derived.Test.YtcdeankllgpnfaaBox
import Derived.Test.YtcdeankllgpnfaaPrC
import Derived.Test.YtcdeankllgpnfaaPrD
import Derived.Test.YtcdeankllgpnfaaPrE
import Derived.Test.YtcdeankllgpnfaaPrJ
import Derived.Test.YtcdeankllgpnfaaBigDivMod
import Derived.Test.YtcdeankllgpnfaaRef5A
import Derived.Test.YtcdeankllgpnfaaPrK
import Derived.Test.YtcdeankllgpnfaaL5A
import Derived.Test.YtcdeankllgpnfaaBase3
import Derived.Test.YtcdeankllgpnfaaLimN
import Derived.Test.YtcdeankllgpnfaaL5B
import Derived.Test.YtcdeankllgpnfaaBase4
import Derived.Test.YtcdeankllgpnfaaDivA
import Derived.Test.YtcdeankllgpnfaaDvA
import Derived.Test.YtcdeankllgpnfaaDvB
import Derived.Test.YtcdeankllgpnfaaPrF
import Derived.Test.YtcdeankllgpnfaaPrG
import Derived.Test.YtcdeankllgpnfaaRef5C
import Derived.Test.YtcdeankllgpnfaaLProSmall
import Derived.WalkKit
import Derived.ProofKit
import Derived.OpenShut
import Derived.ShutString
import Derived.ChangeOld
import Derived.Below
namespace Go.Proofs.Ytcdeankllgpnfaa.productSmall
open Go.ChangeShapes Go.WideShapes Go.ChangeAt Go.RowKit
open Go.ChangeMaps (open_string shut_string)
set_option linter.unusedVariables false

theorem own : ownKnob Try.prog.godebug = none := by kernel_rfl

theorem laidOut : laidOutB Try.prog = true := by kernel_rfl

set_option maxRecDepth 100000 in
theorem lifted (os : Os) (started : os.Started) (H : Type) (enc : TypeId × Value → H) :
    ReturnsInHanded {} Try.checked os 5 .any (Rows.productSmallSpec.pre6 enc Try.prog Try.f5 Rows.productSmallRow.domain false) (Rows.productSmallSpec.post enc Try.prog Try.f5 false true false false) := by
  refine returnsInHanded_of_change (C := Try.checked) own started (by kernel_rfl) Try.func5
    (ChangeSpec.witness6 (enc := enc) (C := Try.checked) false ⟨#[], #[.slice none 0 0, .int .u64 0], []⟩ 5 (by kernel_rfl) (by kernel_rfl) (by kernel_rfl) (by kernel_rfl)) ?_
  intro W base args ds gs before hval0 hW hcnd _
  have hval : ∀ (j : Nat) t v, Try.f5.params[j]? = some t → args[j]? = some v → Value.okWide Try.prog W .any base t v := hval0
  have hW' := hW
  obtain ⟨p, q, hA0, hV, rfl, hfz, hnd⟩ := hW
  have hA : DataW.TrodAll enc Try.prog W 0 (fun _ => true) true Try.f5.params.toList args.toList ds p := hA0
  rw [Try.params5] at hA hval
  obtain ⟨v0, vs0, d0, ds0, p0, q0, hargs, rfl, rfl, h0, r0⟩ := trodAll_cons hA
  obtain ⟨v1, vs1, d1, ds1, p1, q1, rfl, rfl, rfl, h1, r1⟩ := trodAll_cons r0
  obtain ⟨rfl, rfl, rfl⟩ := trodAll_nil r1
  obtain rfl : args = #[v0, v1] := by cases args; simp_all
  obtain ⟨rfl, rfl⟩ := trodVars_none hV
  obtain ⟨a0, len0, cap0, rfl⟩ := okWide_slice Try.underlying23 (hval 0 23 v0 rfl rfl)
  have k0 := h0
  have lt0 : ∀ x ∈ p0, x.block < W.heap.size := by obtain ⟨m, hm⟩ := k0; exact DataW.trod_lt m _ _ _ hm
  obtain ⟨n0, row0, dg0⟩ : ∃ ns : List Nat, Row .u64 W (.slice a0 len0 cap0) ns ∧ Digs 18446744073709551616 ns := by
    obtain ⟨fuel, hf⟩ := h0
    rcases open_ints Try.underlying23 Try.underlying24 (by kernel_rfl) hf with ⟨hcs, _⟩ | ⟨x, l, c, zs, hcs, _, hl, hm, hz, _, hcell, hwz⟩
    · simp [Value.cells] at hcs
      obtain ⟨rfl, rfl, rfl⟩ := hcs
      exact row_of_ints wf_u64 (zs := []) (.inl ⟨rfl, rfl, rfl, rfl⟩)
    · simp [Value.cells] at hcs
      obtain ⟨rfl, rfl, rfl⟩ := hcs
      exact row_of_ints wf_u64 (.inr ⟨_, rfl, hl, hm, by simpa using hz, hcell, hwz⟩)
  obtain ⟨a1, rfl, rfl, rfl, w1⟩ := open_int Try.underlying24 (hval 1 24 v1 rfl rfl) h1
  clear hA0 hval0
  refine (walkProductSmall _ n0 a1 W row0 dg0 w1).mono fun e W' ⟨he, bel⟩ => ?_
  subst he
  exact ⟨_, rfl, _, _, _, [], _, [], hW', trodAll_mk1 (shut_bool Try.underlying4 _), (trodAll_cons_mk (Below.trod laidOut (by kernel_rfl) (of_decide_eq_true (by kernel_rfl)) k0 bel lt0) (trodAll_cons_mk (shut_int Try.underlying24 w1) trodAll_mk0)), rfl, bel.frame _, fun h => by cases h⟩

theorem over : Rows.productSmallRow.holds Try.pinned (OpenSpec.ofChange Rows.productSmallSpec) :=
  OpenClaim.holds_of_wide 5 Try.f5 rfl rfl rfl rfl rfl rfl rfl ⟨rfl, rfl, rfl, rfl, rfl⟩ rfl rfl rfl rfl rfl (by kernel_rfl) Try.func5 (by kernel_rfl)
    (of_decide_eq_true (by kernel_rfl)) (by unfold Func.isWrapper; first | (rw [if_pos (by decide +kernel)]; kernel_rfl) | (rw [if_neg (by decide +kernel)]; exact ⟨rfl, rfl⟩))
    (fun os started H enc _ => lifted os started H enc)
end Go.Proofs.Ytcdeankllgpnfaa.productSmall

namespace Go.Proofs.Ytcdeankllgpnfaa
theorem ProductSmall_holds : Rows.ProductSmallSaid := productSmall.over
#print axioms ProductSmall_holds
end Go.Proofs.Ytcdeankllgpnfaa
