/- A key of the same two numbers the other way round has the same modulus and exponents, and the halves change places. -/
import Derived.Test.YtiljkgoafknefabGreatRows
import Derived.Test.YtiljkgoafknefabGreatBase1
import Derived.Test.YtiljkgoafknefabGreatOpenRow
import Derived.Test.YtiljkgoafknefabGreatBase2
import Derived.Test.YtiljkgoafknefabGreatBase3
import Derived.Test.YtiljkgoafknefabGreatBase4
import Derived.Test.YtiljkgoafknefabGreatDiv1
import Derived.Test.YtiljkgoafknefabGreatTra1
import Derived.Test.YtiljkgoafknefabGreatWor1
import Derived.Test.YtiljkgoafknefabGreatLim1
import Derived.Test.YtiljkgoafknefabGreatPro1
import Derived.Test.YtiljkgoafknefabGreatLim2
import Derived.Test.YtiljkgoafknefabGreatLim3
import Derived.Test.YtiljkgoafknefabGreatPro0
import Derived.Test.YtiljkgoafknefabGreatPro2
import Derived.Test.YtiljkgoafknefabGreatPro3
import Derived.Test.YtiljkgoafknefabGreatPrF
import Derived.Test.YtiljkgoafknefabGreatQuo1
import Derived.Test.YtiljkgoafknefabGreatQuG
import Derived.Test.YtiljkgoafknefabGreatBigDivMod
import Derived.Test.YtiljkgoafknefabGreatRef5A
import Derived.Test.YtiljkgoafknefabGreatPrK
import Derived.Test.YtiljkgoafknefabGreatQuH
import Derived.Test.YtiljkgoafknefabGreatL5A
import Derived.Test.YtiljkgoafknefabGreatLimN
import Derived.Test.YtiljkgoafknefabGreatL5B
import Derived.Test.YtiljkgoafknefabGreatLays
import Derived.Test.YtiljkgoafknefabGreatNatB
import Derived.Test.YtiljkgoafknefabGreatRnd1
import Derived.Test.YtiljkgoafknefabGreatSeq0
import Derived.Test.YtiljkgoafknefabGreatNatC
import Derived.Test.YtiljkgoafknefabGreatNatD
import Derived.Test.YtiljkgoafknefabGreatNatE
import Derived.Test.YtiljkgoafknefabGreatMonA
import Derived.Test.YtiljkgoafknefabGreatMonB
import Derived.Test.YtiljkgoafknefabGreatMon2
import Derived.Test.YtiljkgoafknefabGreatInv0
import Derived.Test.YtiljkgoafknefabGreatWInv
import Derived.Test.YtiljkgoafknefabGreatBigM
import Derived.Test.YtiljkgoafknefabGreatRef6m
import Derived.Test.YtiljkgoafknefabGreatMon3
import Derived.Test.YtiljkgoafknefabGreatMon4
import Derived.Test.YtiljkgoafknefabGreatRef10A
import Derived.Test.YtiljkgoafknefabGreatLimO
import Derived.Test.YtiljkgoafknefabGreatKex1
import Derived.Test.YtiljkgoafknefabGreatRef5C
import Derived.Test.YtiljkgoafknefabGreatPrm1
import Derived.Test.YtiljkgoafknefabGreatPrm2
import Derived.Test.YtiljkgoafknefabGreatKey1
import Derived.Test.YtiljkgoafknefabGreatKey2
import Derived.Test.YtiljkgoafknefabGreatBev1
import Derived.Test.YtiljkgoafknefabGreatKey3
import Derived.Test.YtiljkgoafknefabGreatKey4
import Derived.Test.YtiljkgoafknefabGreatKey5
import Derived.Test.YtiljkgoafknefabGreatHeld1
import Derived.Test.YtiljkgoafknefabGreatKex2
import Derived.Test.YtiljkgoafknefabGreatMon5
import Derived.Test.YtiljkgoafknefabGreatLimH
import Derived.Test.YtiljkgoafknefabGreatRef6D
import Derived.Test.YtiljkgoafknefabGreatRef6E
import Derived.Test.YtiljkgoafknefabGreatRef6o
import Derived.Test.YtiljkgoafknefabGreatRef7A
import Derived.Test.YtiljkgoafknefabGreatRef7B
import Derived.Test.YtiljkgoafknefabGreatRef7C
import Derived.Test.YtiljkgoafknefabGreatRinA
import Derived.Test.YtiljkgoafknefabGreatIva1
import Derived.Test.YtiljkgoafknefabGreatIva2
import Derived.Test.YtiljkgoafknefabGreatIva3
import Derived.Test.YtiljkgoafknefabGreatRinB
import Derived.Test.YtiljkgoafknefabGreatRinC
import Derived.Test.YtiljkgoafknefabGreatRinD
import Derived.Test.YtiljkgoafknefabGreatIva4
import Derived.Test.YtiljkgoafknefabGreatLaw6
import Derived.Test.YtiljkgoafknefabGreatLaw10
import Derived.Test.YtiljkgoafknefabGreatKex3
import Derived.Test.YtiljkgoafknefabGreatIvn9
import Derived.Test.YtiljkgoafknefabGreatNum1
import Derived.Test.YtiljkgoafknefabGreatKey6
import Derived.Test.YtiljkgoafknefabGreatKex4
import Derived.Test.YtiljkgoafknefabGreatKex5
import Derived.Test.YtiljkgoafknefabGreatKex6
import Derived.Test.YtiljkgoafknefabGreatKex7
import Derived.Test.YtiljkgoafknefabGreatLimQ
import Derived.Test.YtiljkgoafknefabGreatLaw19
import Derived.Test.YtiljkgoafknefabGreatLaw19b
import Derived.Test.YtiljkgoafknefabGreatKex8
import Derived.Test.YtiljkgoafknefabGreatKex9
import Derived.Test.YtiljkgoafknefabGreatWKeySwaps
import Derived.Test.YtiljkgoafknefabGreatLKeySwaps
import Derived.WalkKit
import Derived.ProofKit
import Derived.OpenShut
import Derived.ShutString
import Derived.ChangeOld
import Derived.Below
namespace Go.Proofs.YtiljkgoafknefabGreat.keySwaps
open Go.ChangeShapes Go.WideShapes Go.ChangeAt Go.RowKit
open Go.ChangeMaps (open_string shut_string)
set_option linter.unusedVariables false

theorem own : ownKnob Tryz.prog.godebug = none := by kernel_rfl

theorem laidOut : laidOutB Tryz.prog = true := by kernel_rfl

set_option maxRecDepth 100000 in
theorem lifted (os : Os) (started : os.Started) (H : Type) (enc : TypeId × Value → H) :
    ReturnsInHanded {} Tryz.checked os 3 .any (Rows.keySwapsSpec.pre6 enc Tryz.prog Tryz.f3 Rows.keySwapsRow.domain false) (Rows.keySwapsSpec.post enc Tryz.prog Tryz.f3 false true false false) := by
  refine returnsInHanded_of_change (C := Tryz.checked) own started (by kernel_rfl) Tryz.func3
    (ChangeSpec.witness6 (enc := enc) (C := Tryz.checked) false ⟨#[], #[.slice none 0 0, .slice none 0 0, .int .u64 0], []⟩ 3 (by kernel_rfl) (by kernel_rfl) (by kernel_rfl) (by kernel_rfl)) ?_
  intro W base args ds gs before hval0 hW hcnd _
  have hval : ∀ (j : Nat) t v, Tryz.f3.params[j]? = some t → args[j]? = some v → Value.okWide Tryz.prog W .any base t v := hval0
  have hW' := hW
  obtain ⟨p, q, hA0, hV, rfl, hfz, hnd⟩ := hW
  have hA : DataW.TrodAll enc Tryz.prog W 0 (fun _ => true) true Tryz.f3.params.toList args.toList ds p := hA0
  rw [Tryz.params3] at hA hval
  obtain ⟨v0, vs0, d0, ds0, p0, q0, hargs, rfl, rfl, h0, r0⟩ := trodAll_cons hA
  obtain ⟨v1, vs1, d1, ds1, p1, q1, rfl, rfl, rfl, h1, r1⟩ := trodAll_cons r0
  obtain ⟨v2, vs2, d2, ds2, p2, q2, rfl, rfl, rfl, h2, r2⟩ := trodAll_cons r1
  obtain ⟨rfl, rfl, rfl⟩ := trodAll_nil r2
  obtain rfl : args = #[v0, v1, v2] := by cases args; simp_all
  obtain ⟨rfl, rfl⟩ := trodVars_none hV
  obtain ⟨a0, len0, cap0, rfl⟩ := okWide_slice Tryz.underlying23 (hval 0 23 v0 rfl rfl)
  have k0 := h0
  have lt0 : ∀ x ∈ p0, x.block < W.heap.size := by obtain ⟨m, hm⟩ := k0; exact DataW.trod_lt m _ _ _ hm
  obtain ⟨n0, row0, dg0⟩ : ∃ ns : List Nat, Row .u64 W (.slice a0 len0 cap0) ns ∧ Digs 18446744073709551616 ns := by
    obtain ⟨fuel, hf⟩ := h0
    rcases open_ints Tryz.underlying23 Tryz.underlying24 (by kernel_rfl) hf with ⟨hcs, _⟩ | ⟨x, l, c, zs, hcs, _, hl, hm, hz, _, hcell, hwz⟩
    · simp [Value.cells] at hcs
      obtain ⟨rfl, rfl, rfl⟩ := hcs
      exact row_of_ints wf_u64 (zs := []) (.inl ⟨rfl, rfl, rfl, rfl⟩)
    · simp [Value.cells] at hcs
      obtain ⟨rfl, rfl, rfl⟩ := hcs
      exact row_of_ints wf_u64 (.inr ⟨_, rfl, hl, hm, by simpa using hz, hcell, hwz⟩)
  obtain ⟨a1, len1, cap1, rfl⟩ := okWide_slice Tryz.underlying23 (hval 1 23 v1 rfl rfl)
  have k1 := h1
  have lt1 : ∀ x ∈ p1, x.block < W.heap.size := by obtain ⟨m, hm⟩ := k1; exact DataW.trod_lt m _ _ _ hm
  obtain ⟨n1, row1, dg1⟩ : ∃ ns : List Nat, Row .u64 W (.slice a1 len1 cap1) ns ∧ Digs 18446744073709551616 ns := by
    obtain ⟨fuel, hf⟩ := h1
    rcases open_ints Tryz.underlying23 Tryz.underlying24 (by kernel_rfl) hf with ⟨hcs, _⟩ | ⟨x, l, c, zs, hcs, _, hl, hm, hz, _, hcell, hwz⟩
    · simp [Value.cells] at hcs
      obtain ⟨rfl, rfl, rfl⟩ := hcs
      exact row_of_ints wf_u64 (zs := []) (.inl ⟨rfl, rfl, rfl, rfl⟩)
    · simp [Value.cells] at hcs
      obtain ⟨rfl, rfl, rfl⟩ := hcs
      exact row_of_ints wf_u64 (.inr ⟨_, rfl, hl, hm, by simpa using hz, hcell, hwz⟩)
  obtain ⟨a2, rfl, rfl, rfl, w2⟩ := open_int Tryz.underlying24 (hval 2 24 v2 rfl rfl) h2
  clear hA0 hval0
  refine (walkKeySwaps _ n0 _ n1 a2 W row0 row1 dg0 dg1 w2).mono fun e W' ⟨he, bel⟩ => ?_
  subst he
  exact ⟨_, rfl, _, _, _, [], _, [], hW', trodAll_mk1 (shut_bool Tryz.underlying4 _), (trodAll_cons_mk (Below.trod laidOut (by kernel_rfl) (of_decide_eq_true (by kernel_rfl)) k0 bel lt0) (trodAll_cons_mk (Below.trod laidOut (by kernel_rfl) (of_decide_eq_true (by kernel_rfl)) k1 bel lt1) (trodAll_cons_mk (shut_int Tryz.underlying24 w2) trodAll_mk0))), rfl, bel.frame _, fun h => by cases h⟩

theorem over : Rows.keySwapsRow.holds Tryz.pinned (OpenSpec.ofChange Rows.keySwapsSpec) :=
  OpenClaim.holds_of_wide 3 Tryz.f3 rfl rfl rfl rfl rfl rfl rfl ⟨rfl, rfl, rfl, rfl, rfl⟩ rfl rfl rfl rfl rfl (by kernel_rfl) Tryz.func3 (by kernel_rfl)
    (of_decide_eq_true (by kernel_rfl)) (by unfold Func.isWrapper; first | (rw [if_pos (by decide +kernel)]; kernel_rfl) | (rw [if_neg (by decide +kernel)]; exact ⟨rfl, rfl⟩))
    (fun os started H enc _ => lifted os started H enc)
end Go.Proofs.YtiljkgoafknefabGreat.keySwaps

namespace Go.Proofs.YtiljkgoafknefabGreat
theorem KeySwaps_holds : Rows.KeySwapsSaid := keySwaps.over
#print axioms KeySwaps_holds
end Go.Proofs.YtiljkgoafknefabGreat
