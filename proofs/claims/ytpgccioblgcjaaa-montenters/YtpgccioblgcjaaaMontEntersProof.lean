/- Whatever the modulus and the number, mont.Enter, mont.Leave and mont.One answer what the plain side answers. -/
import Derived.Test.YtpgccioblgcjaaaRows
import Derived.Test.YtpgccioblgcjaaaBase1
import Derived.Test.YtpgccioblgcjaaaOpenRow
import Derived.Test.YtpgccioblgcjaaaOpenMod
import Derived.Test.YtpgccioblgcjaaaTra1
import Derived.Test.YtpgccioblgcjaaaWor1
import Derived.Test.YtpgccioblgcjaaaBase2
import Derived.Test.YtpgccioblgcjaaaLim1
import Derived.Test.YtpgccioblgcjaaaPro1
import Derived.Test.YtpgccioblgcjaaaPro2
import Derived.Test.YtpgccioblgcjaaaBase3
import Derived.Test.YtpgccioblgcjaaaBase4
import Derived.Test.YtpgccioblgcjaaaMonE
import Derived.Test.YtpgccioblgcjaaaMonA
import Derived.Test.YtpgccioblgcjaaaMonB
import Derived.Test.YtpgccioblgcjaaaLim2
import Derived.Test.YtpgccioblgcjaaaMonC
import Derived.Test.YtpgccioblgcjaaaMonD
import Derived.Test.YtpgccioblgcjaaaMonF
import Derived.Test.YtpgccioblgcjaaaBigDivMod
import Derived.Test.YtpgccioblgcjaaaBigM
import Derived.Test.YtpgccioblgcjaaaInv0
import Derived.Test.YtpgccioblgcjaaaRef6m
import Derived.Test.YtpgccioblgcjaaaMonG
import Derived.Test.YtpgccioblgcjaaaLim3
import Derived.Test.YtpgccioblgcjaaaMonH
import Derived.Test.YtpgccioblgcjaaaMonM
import Derived.Test.YtpgccioblgcjaaaMonN
import Derived.Test.YtpgccioblgcjaaaMonO
import Derived.Test.YtpgccioblgcjaaaMonP
import Derived.Test.YtpgccioblgcjaaaMonQ
import Derived.Test.YtpgccioblgcjaaaMonR
import Derived.Test.YtpgccioblgcjaaaMonS
import Derived.Test.YtpgccioblgcjaaaRef6D
import Derived.Test.YtpgccioblgcjaaaRef6E
import Derived.Test.YtpgccioblgcjaaaRef6o
import Derived.Test.YtpgccioblgcjaaaMonI
import Derived.Test.YtpgccioblgcjaaaMonJ
import Derived.Test.YtpgccioblgcjaaaWInv
import Derived.Test.YtpgccioblgcjaaaMonK
import Derived.Test.YtpgccioblgcjaaaMonL
import Derived.Test.YtpgccioblgcjaaaL5A
import Derived.Test.YtpgccioblgcjaaaL6A
import Derived.Test.YtpgccioblgcjaaaL6B
import Derived.Test.YtpgccioblgcjaaaL6C
import Derived.Test.YtpgccioblgcjaaaLMonEnters
import Derived.WalkKit
import Derived.ProofKit
import Derived.OpenShut
import Derived.ShutString
import Derived.ChangeOld
import Derived.Below
namespace Go.Proofs.Ytpgccioblgcjaaa.montEnters
open Go.ChangeShapes Go.WideShapes Go.ChangeAt Go.RowKit
open Go.ChangeMaps (open_string shut_string)
set_option linter.unusedVariables false

theorem own : ownKnob Try.prog.godebug = none := by kernel_rfl

theorem laidOut : laidOutB Try.prog = true := by kernel_rfl

set_option maxRecDepth 100000 in
theorem lifted (os : Os) (started : os.Started) (H : Type) (enc : TypeId × Value → H) :
    ReturnsInHanded {} Try.checked os 6 .any (Rows.montEntersSpec.pre6 enc Try.prog Try.f6 Rows.montEntersRow.domain false) (Rows.montEntersSpec.post enc Try.prog Try.f6 false true false false) := by
  refine returnsInHanded_of_change (C := Try.checked) own started (by kernel_rfl) Try.func6
    (ChangeSpec.witness6 (enc := enc) (C := Try.checked) false ⟨#[], #[.agg #[.slice none 0 0, .int .u64 0, .slice none 0 0], .slice none 0 0], []⟩ 6 (by kernel_rfl) (by kernel_rfl) (by kernel_rfl) (by kernel_rfl)) ?_
  intro W base args ds gs before hval0 hW hcnd _
  have hval : ∀ (j : Nat) t v, Try.f6.params[j]? = some t → args[j]? = some v → Value.okWide Try.prog W .any base t v := hval0
  have hW' := hW
  obtain ⟨p, q, hA0, hV, rfl, hfz, hnd⟩ := hW
  have hA : DataW.TrodAll enc Try.prog W 0 (fun _ => true) true Try.f6.params.toList args.toList ds p := hA0
  rw [Try.params6] at hA hval
  obtain ⟨v0, vs0, d0, ds0, p0, q0, hargs, rfl, rfl, h0, r0⟩ := trodAll_cons hA
  obtain ⟨v1, vs1, d1, ds1, p1, q1, rfl, rfl, rfl, h1, r1⟩ := trodAll_cons r0
  obtain ⟨rfl, rfl, rfl⟩ := trodAll_nil r1
  obtain rfl : args = #[v0, v1] := by cases args; simp_all
  obtain ⟨rfl, rfl⟩ := trodVars_none hV
  have k0 := h0
  have lt0 : ∀ x ∈ p0, x.block < W.heap.size := by obtain ⟨m, hm⟩ := k0; exact DataW.trod_lt m _ _ _ hm
  obtain ⟨u0, xs0, kk0, w0, zs0, rfl, ra0, da0, wk0, rb0, db0⟩ : ∃ (u : Value) (xs : List Nat) (k : Int) (v : Value) (zs : List Nat), v0 = .agg #[u, .int .u64 k, v] ∧ Row .u64 W u xs ∧ Digs 18446744073709551616 xs ∧ (Lit.int .u64 k).wf = true ∧ Row .u64 W v zs ∧ Digs 18446744073709551616 zs := by
    obtain ⟨cs, rfl, _⟩ := okWide_struct Try.underlying28 (hval 0 28 v0 rfl rfl)
    obtain ⟨fuel, hf⟩ := h0
    obtain ⟨u, xs, k, v, zs, hc, f1, f2, f3, f4, f5⟩ := open_mod hf
    obtain ⟨cs⟩ := cs
    simp [Value.cells] at hc
    exact ⟨u, xs, k, v, zs, by rw [hc], f1, f2, f3, f4, f5⟩
  obtain ⟨a1, len1, cap1, rfl⟩ := okWide_slice Try.underlying23 (hval 1 23 v1 rfl rfl)
  have k1 := h1
  have lt1 : ∀ x ∈ p1, x.block < W.heap.size := by obtain ⟨m, hm⟩ := k1; exact DataW.trod_lt m _ _ _ hm
  obtain ⟨n1, row1, dg1⟩ : ∃ ns : List Nat, Row .u64 W (.slice a1 len1 cap1) ns ∧ Digs 18446744073709551616 ns := by
    obtain ⟨fuel, hf⟩ := h1
    rcases open_ints Try.underlying23 Try.underlying26 (by kernel_rfl) hf with ⟨hcs, _⟩ | ⟨x, l, c, zs, hcs, _, hl, hm, hz, _, hcell, hwz⟩
    · simp [Value.cells] at hcs
      obtain ⟨rfl, rfl, rfl⟩ := hcs
      exact row_of_ints wf_u64 (zs := []) (.inl ⟨rfl, rfl, rfl, rfl⟩)
    · simp [Value.cells] at hcs
      obtain ⟨rfl, rfl, rfl⟩ := hcs
      exact row_of_ints wf_u64 (.inr ⟨_, rfl, hl, hm, by simpa using hz, hcell, hwz⟩)
  clear hA0 hval0
  refine (walkMontEnters u0 xs0 kk0 w0 zs0 _ n1 W ra0 rb0 row1 da0 db0 dg1 wk0).mono fun e W' ⟨he, bel⟩ => ?_
  subst he
  exact ⟨_, rfl, _, _, _, [], _, [], hW', trodAll_mk1 (shut_bool Try.underlying4 _), (trodAll_cons_mk (Below.trod laidOut (by kernel_rfl) (of_decide_eq_true (by kernel_rfl)) k0 bel lt0) (trodAll_cons_mk (Below.trod laidOut (by kernel_rfl) (of_decide_eq_true (by kernel_rfl)) k1 bel lt1) trodAll_mk0)), rfl, bel.frame _, fun h => by cases h⟩

theorem over : Rows.montEntersRow.holds Try.pinned (OpenSpec.ofChange Rows.montEntersSpec) :=
  OpenClaim.holds_of_wide 6 Try.f6 rfl rfl rfl rfl rfl rfl rfl ⟨rfl, rfl, rfl, rfl, rfl⟩ rfl rfl rfl rfl rfl (by kernel_rfl) Try.func6 (by kernel_rfl)
    (of_decide_eq_true (by kernel_rfl)) (by unfold Func.isWrapper; first | (rw [if_pos (by decide +kernel)]; kernel_rfl) | (rw [if_neg (by decide +kernel)]; exact ⟨rfl, rfl⟩))
    (fun os started H enc _ => lifted os started H enc)
end Go.Proofs.Ytpgccioblgcjaaa.montEnters

namespace Go.Proofs.Ytpgccioblgcjaaa
theorem MontEnters_holds : Rows.MontEntersSaid := montEnters.over
#print axioms MontEnters_holds
end Go.Proofs.Ytpgccioblgcjaaa
