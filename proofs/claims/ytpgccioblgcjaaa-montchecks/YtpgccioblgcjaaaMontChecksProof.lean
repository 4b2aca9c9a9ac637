/- Whatever the modulus, mont.Check says what the plain side says. -/
import Derived.Test.YtpgccioblgcjaaaRows
import Derived.Test.YtpgccioblgcjaaaBase1
import Derived.Test.YtpgccioblgcjaaaOpenRow
import Derived.Test.YtpgccioblgcjaaaOpenMod
import Derived.Test.YtpgccioblgcjaaaTra1
import Derived.Test.YtpgccioblgcjaaaWor1
import Derived.Test.YtpgccioblgcjaaaBase2
import Derived.Test.YtpgccioblgcjaaaLim1
import Derived.Test.YtpgccioblgcjaaaPro1
import Derived.Test.YtpgccioblgcjaaaPro2
import Derived.Test.YtpgccioblgcjaaaBase3
import Derived.Test.YtpgccioblgcjaaaBase4
import Derived.Test.YtpgccioblgcjaaaMonE
import Derived.Test.YtpgccioblgcjaaaMonA
import Derived.Test.YtpgccioblgcjaaaMonB
import Derived.Test.YtpgccioblgcjaaaLim2
import Derived.Test.YtpgccioblgcjaaaMonC
import Derived.Test.YtpgccioblgcjaaaMonD
import Derived.Test.YtpgccioblgcjaaaMonF
import Derived.Test.YtpgccioblgcjaaaBigDivMod
import Derived.Test.YtpgccioblgcjaaaBigM
import Derived.Test.YtpgccioblgcjaaaInv0
import Derived.Test.YtpgccioblgcjaaaRef6m
import Derived.Test.YtpgccioblgcjaaaMonG
import Derived.Test.YtpgccioblgcjaaaLim3
import Derived.Test.YtpgccioblgcjaaaMonH
import Derived.Test.YtpgccioblgcjaaaMonI
import Derived.Test.YtpgccioblgcjaaaMonJ
import Derived.Test.YtpgccioblgcjaaaWInv
import Derived.Test.YtpgccioblgcjaaaMonK
import Derived.Test.YtpgccioblgcjaaaMonL
import Derived.Test.YtpgccioblgcjaaaL5A
import Derived.Test.YtpgccioblgcjaaaL6A
import Derived.Test.YtpgccioblgcjaaaL6B
import Derived.Test.YtpgccioblgcjaaaLMonChecks
import Derived.WalkKit
import Derived.ProofKit
import Derived.OpenShut
import Derived.ShutString
import Derived.ChangeOld
import Derived.Below
namespace Go.Proofs.Ytpgccioblgcjaaa.montChecks
open Go.ChangeShapes Go.WideShapes Go.ChangeAt Go.RowKit
open Go.ChangeMaps (open_string shut_string)
set_option linter.unusedVariables false

theorem own : ownKnob Try.prog.godebug = none := by kernel_rfl

theorem laidOut : laidOutB Try.prog = true := by kernel_rfl

set_option maxRecDepth 100000 in
theorem lifted (os : Os) (started : os.Started) (H : Type) (enc : TypeId × Value → H) :
    ReturnsInHanded {} Try.checked os 4 .any (Rows.montChecksSpec.pre6 enc Try.prog Try.f4 Rows.montChecksRow.domain false) (Rows.montChecksSpec.post enc Try.prog Try.f4 false true false false) := by
  refine returnsInHanded_of_change (C := Try.checked) own started (by kernel_rfl) Try.func4
    (ChangeSpec.witness6 (enc := enc) (C := Try.checked) false ⟨#[], #[.agg #[.slice none 0 0, .int .u64 0, .slice none 0 0]], []⟩ 4 (by kernel_rfl) (by kernel_rfl) (by kernel_rfl) (by kernel_rfl)) ?_
  intro W base args ds gs before hval0 hW hcnd _
  have hval : ∀ (j : Nat) t v, Try.f4.params[j]? = some t → args[j]? = some v → Value.okWide Try.prog W .any base t v := hval0
  have hW' := hW
  obtain ⟨p, q, hA0, hV, rfl, hfz, hnd⟩ := hW
  have hA : DataW.TrodAll enc Try.prog W 0 (fun _ => true) true Try.f4.params.toList args.toList ds p := hA0
  rw [Try.params4] at hA hval
  obtain ⟨v0, vs0, d0, ds0, p0, q0, hargs, rfl, rfl, h0, r0⟩ := trodAll_cons hA
  obtain ⟨rfl, rfl, rfl⟩ := trodAll_nil r0
  obtain rfl : args = #[v0] := by cases args; simp_all
  obtain ⟨rfl, rfl⟩ := trodVars_none hV
  have k0 := h0
  have lt0 : ∀ x ∈ p0, x.block < W.heap.size := by obtain ⟨m, hm⟩ := k0; exact DataW.trod_lt m _ _ _ hm
  obtain ⟨u0, xs0, kk0, w0, zs0, rfl, ra0, da0, wk0, rb0, db0⟩ : ∃ (u : Value) (xs : List Nat) (k : Int) (v : Value) (zs : List Nat), v0 = .agg #[u, .int .u64 k, v] ∧ Row .u64 W u xs ∧ Digs 18446744073709551616 xs ∧ (Lit.int .u64 k).wf = true ∧ Row .u64 W v zs ∧ Digs 18446744073709551616 zs := by
    obtain ⟨cs, rfl, _⟩ := okWide_struct Try.underlying28 (hval 0 28 v0 rfl rfl)
    obtain ⟨fuel, hf⟩ := h0
    obtain ⟨u, xs, k, v, zs, hc, f1, f2, f3, f4, f5⟩ := open_mod hf
    obtain ⟨cs⟩ := cs
    simp [Value.cells] at hc
    exact ⟨u, xs, k, v, zs, by rw [hc], f1, f2, f3, f4, f5⟩
  clear hA0 hval0
  refine (walkMontChecks u0 xs0 kk0 w0 zs0 W ra0 rb0 da0 db0 wk0).mono fun e W' ⟨he, bel⟩ => ?_
  subst he
  exact ⟨_, rfl, _, _, _, [], _, [], hW', trodAll_mk1 (shut_bool Try.underlying4 _), (trodAll_cons_mk (Below.trod laidOut (by kernel_rfl) (of_decide_eq_true (by kernel_rfl)) k0 bel lt0) trodAll_mk0), rfl, bel.frame _, fun h => by cases h⟩

theorem over : Rows.montChecksRow.holds Try.pinned (OpenSpec.ofChange Rows.montChecksSpec) :=
  OpenClaim.holds_of_wide 4 Try.f4 rfl rfl rfl rfl rfl rfl rfl ⟨rfl, rfl, rfl, rfl, rfl⟩ rfl rfl rfl rfl rfl (by kernel_rfl) Try.func4 (by kernel_rfl)
    (of_decide_eq_true (by kernel_rfl)) (by unfold Func.isWrapper; first | (rw [if_pos (by decide +kernel)]; kernel_rfl) | (rw [if_neg (by decide +kernel)]; exact ⟨rfl, rfl⟩))
    (fun os started H enc _ => lifted os started H enc)
end Go.Proofs.Ytpgccioblgcjaaa.montChecks

namespace Go.Proofs.Ytpgccioblgcjaaa
theorem MontChecks_holds : Rows.MontChecksSaid := montChecks.over
#print axioms MontChecks_holds
end Go.Proofs.Ytpgccioblgcjaaa
