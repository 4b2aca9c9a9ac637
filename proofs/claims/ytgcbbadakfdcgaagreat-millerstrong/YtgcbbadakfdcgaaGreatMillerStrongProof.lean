/- The statement MillerStrong returns true for every number n and every base and never panics: the landed strong test answers as the plain one, with the same error; numbers of up to 6 words or of 131 are asked, no other condition. -/
import Derived.Test.YtgcbbadakfdcgaaGreatRows
import Derived.Test.YtgcbbadakfdcgaaGreatBase1
import Derived.Test.YtgcbbadakfdcgaaGreatOpenRow
import Derived.Test.YtgcbbadakfdcgaaGreatTra1
import Derived.Test.YtgcbbadakfdcgaaGreatWor1
import Derived.Test.YtgcbbadakfdcgaaGreatBase2
import Derived.Test.YtgcbbadakfdcgaaGreatLim1
import Derived.Test.YtgcbbadakfdcgaaGreatPro1
import Derived.Test.YtgcbbadakfdcgaaGreatPro0
import Derived.Test.YtgcbbadakfdcgaaGreatPro2
import Derived.Test.YtgcbbadakfdcgaaGreatBase3
import Derived.Test.YtgcbbadakfdcgaaGreatBase4
import Derived.Test.YtgcbbadakfdcgaaGreatMonA
import Derived.Test.YtgcbbadakfdcgaaGreatLim2
import Derived.Test.YtgcbbadakfdcgaaGreatMonB
import Derived.Test.YtgcbbadakfdcgaaGreatMon2
import Derived.Test.YtgcbbadakfdcgaaGreatBigDivMod
import Derived.Test.YtgcbbadakfdcgaaGreatBigM
import Derived.Test.YtgcbbadakfdcgaaGreatInv0
import Derived.Test.YtgcbbadakfdcgaaGreatRef6m
import Derived.Test.YtgcbbadakfdcgaaGreatMon3
import Derived.Test.YtgcbbadakfdcgaaGreatRef5C
import Derived.Test.YtgcbbadakfdcgaaGreatPrm1
import Derived.Test.YtgcbbadakfdcgaaGreatPrm2
import Derived.Test.YtgcbbadakfdcgaaGreatMir1
import Derived.Test.YtgcbbadakfdcgaaGreatPrm3
import Derived.Test.YtgcbbadakfdcgaaGreatStr1
import Derived.Test.YtgcbbadakfdcgaaGreatLim3
import Derived.Test.YtgcbbadakfdcgaaGreatWInv
import Derived.Test.YtgcbbadakfdcgaaGreatMon4
import Derived.Test.YtgcbbadakfdcgaaGreatMon5
import Derived.Test.YtgcbbadakfdcgaaGreatRnd1
import Derived.Test.YtgcbbadakfdcgaaGreatSeq0
import Derived.Test.YtgcbbadakfdcgaaGreatSeq1
import Derived.Test.YtgcbbadakfdcgaaGreatPow1
import Derived.Test.YtgcbbadakfdcgaaGreatMir2
import Derived.Test.YtgcbbadakfdcgaaGreatLimH
import Derived.Test.YtgcbbadakfdcgaaGreatLays
import Derived.Test.YtgcbbadakfdcgaaGreatNatB
import Derived.Test.YtgcbbadakfdcgaaGreatNatC
import Derived.Test.YtgcbbadakfdcgaaGreatNatD
import Derived.Test.YtgcbbadakfdcgaaGreatNatE
import Derived.Test.YtgcbbadakfdcgaaGreatMir3
import Derived.Test.YtgcbbadakfdcgaaGreatSho1
import Derived.Test.YtgcbbadakfdcgaaGreatSho2
import Derived.Test.YtgcbbadakfdcgaaGreatSho3
import Derived.Test.YtgcbbadakfdcgaaGreatMir4
import Derived.Test.YtgcbbadakfdcgaaGreatMir5
import Derived.Test.YtgcbbadakfdcgaaGreatLaw17
import Derived.Test.YtgcbbadakfdcgaaGreatLMilStrong
import Derived.WalkKit
import Derived.ProofKit
import Derived.OpenShut
import Derived.ShutString
import Derived.ChangeOld
import Derived.Below
namespace Go.Proofs.YtgcbbadakfdcgaaGreat.millerStrong
open Go.ChangeShapes Go.WideShapes Go.ChangeAt Go.RowKit
open Go.ChangeMaps (open_string shut_string)
set_option linter.unusedVariables false

theorem own : ownKnob Tryz.prog.godebug = none := by kernel_rfl

theorem laidOut : laidOutB Tryz.prog = true := by kernel_rfl

set_option maxRecDepth 100000 in
theorem lifted (os : Os) (started : os.Started) (H : Type) (enc : TypeId × Value → H) :
    ReturnsInHanded {} Tryz.checked os 3 .any (Rows.millerStrongSpec.pre6 enc Tryz.prog Tryz.f3 Rows.millerStrongRow.domain false) (Rows.millerStrongSpec.post enc Tryz.prog Tryz.f3 false true false false) := by
  refine returnsInHanded_of_change (C := Tryz.checked) own started (by kernel_rfl) Tryz.func3
    (ChangeSpec.witness6 (enc := enc) (C := Tryz.checked) false ⟨#[], #[.slice none 0 0, .slice none 0 0], []⟩ 3 (by kernel_rfl) (by kernel_rfl) (by kernel_rfl) (by kernel_rfl)) ?_
  intro W base args ds gs before hval0 hW hcnd _
  have hval : ∀ (j : Nat) t v, Tryz.f3.params[j]? = some t → args[j]? = some v → Value.okWide Tryz.prog W .any base t v := hval0
  have hW' := hW
  obtain ⟨p, q, hA0, hV, rfl, hfz, hnd⟩ := hW
  have hA : DataW.TrodAll enc Tryz.prog W 0 (fun _ => true) true Tryz.f3.params.toList args.toList ds p := hA0
  rw [Tryz.params3] at hA hval
  obtain ⟨v0, vs0, d0, ds0, p0, q0, hargs, rfl, rfl, h0, r0⟩ := trodAll_cons hA
  obtain ⟨v1, vs1, d1, ds1, p1, q1, rfl, rfl, rfl, h1, r1⟩ := trodAll_cons r0
  obtain ⟨rfl, rfl, rfl⟩ := trodAll_nil r1
  obtain rfl : args = #[v0, v1] := by cases args; simp_all
  obtain ⟨rfl, rfl⟩ := trodVars_none hV
  obtain ⟨a0, len0, cap0, rfl⟩ := okWide_slice Tryz.underlying23 (hval 0 23 v0 rfl rfl)
  have k0 := h0
  have lt0 : ∀ x ∈ p0, x.block < W.heap.size := by obtain ⟨m, hm⟩ := k0; exact DataW.trod_lt m _ _ _ hm
  obtain ⟨n0, row0, dg0⟩ : ∃ ns : List Nat, Row .u64 W (.slice a0 len0 cap0) ns ∧ Digs 18446744073709551616 ns := by
    obtain ⟨fuel, hf⟩ := h0
    rcases open_ints Tryz.underlying23 Tryz.underlying32 (by kernel_rfl) hf with ⟨hcs, _⟩ | ⟨x, l, c, zs, hcs, _, hl, hm, hz, _, hcell, hwz⟩
    · simp [Value.cells] at hcs
      obtain ⟨rfl, rfl, rfl⟩ := hcs
      exact row_of_ints wf_u64 (zs := []) (.inl ⟨rfl, rfl, rfl, rfl⟩)
    · simp [Value.cells] at hcs
      obtain ⟨rfl, rfl, rfl⟩ := hcs
      exact row_of_ints wf_u64 (.inr ⟨_, rfl, hl, hm, by simpa using hz, hcell, hwz⟩)
  obtain ⟨a1, len1, cap1, rfl⟩ := okWide_slice Tryz.underlying23 (hval 1 23 v1 rfl rfl)
  have k1 := h1
  have lt1 : ∀ x ∈ p1, x.block < W.heap.size := by obtain ⟨m, hm⟩ := k1; exact DataW.trod_lt m _ _ _ hm
  obtain ⟨n1, row1, dg1⟩ : ∃ ns : List Nat, Row .u64 W (.slice a1 len1 cap1) ns ∧ Digs 18446744073709551616 ns := by
    obtain ⟨fuel, hf⟩ := h1
    rcases open_ints Tryz.underlying23 Tryz.underlying32 (by kernel_rfl) hf with ⟨hcs, _⟩ | ⟨x, l, c, zs, hcs, _, hl, hm, hz, _, hcell, hwz⟩
    · simp [Value.cells] at hcs
      obtain ⟨rfl, rfl, rfl⟩ := hcs
      exact row_of_ints wf_u64 (zs := []) (.inl ⟨rfl, rfl, rfl, rfl⟩)
    · simp [Value.cells] at hcs
      obtain ⟨rfl, rfl, rfl⟩ := hcs
      exact row_of_ints wf_u64 (.inr ⟨_, rfl, hl, hm, by simpa using hz, hcell, hwz⟩)
  clear hA0 hval0
  refine (walkMillerStrong _ n0 _ n1 W row0 row1 dg0 dg1).mono fun e W' ⟨he, bel⟩ => ?_
  subst he
  exact ⟨_, rfl, _, _, _, [], _, [], hW', trodAll_mk1 (shut_bool Tryz.underlying4 _), (trodAll_cons_mk (Below.trod laidOut (by kernel_rfl) (of_decide_eq_true (by kernel_rfl)) k0 bel lt0) (trodAll_cons_mk (Below.trod laidOut (by kernel_rfl) (of_decide_eq_true (by kernel_rfl)) k1 bel lt1) trodAll_mk0)), rfl, bel.frame _, fun h => by cases h⟩

theorem over : Rows.millerStrongRow.holds Tryz.pinned (OpenSpec.ofChange Rows.millerStrongSpec) :=
  OpenClaim.holds_of_wide 3 Tryz.f3 rfl rfl rfl rfl rfl rfl rfl ⟨rfl, rfl, rfl, rfl, rfl⟩ rfl rfl rfl rfl rfl (by kernel_rfl) Tryz.func3 (by kernel_rfl)
    (of_decide_eq_true (by kernel_rfl)) (by unfold Func.isWrapper; first | (rw [if_pos (by decide +kernel)]; kernel_rfl) | (rw [if_neg (by decide +kernel)]; exact ⟨rfl, rfl⟩))
    (fun os started H enc _ => lifted os started H enc)
end Go.Proofs.YtgcbbadakfdcgaaGreat.millerStrong

namespace Go.Proofs.YtgcbbadakfdcgaaGreat
theorem MillerStrong_holds : Rows.MillerStrongSaid := millerStrong.over
#print axioms MillerStrong_holds
end Go.Proofs.YtgcbbadakfdcgaaGreat
