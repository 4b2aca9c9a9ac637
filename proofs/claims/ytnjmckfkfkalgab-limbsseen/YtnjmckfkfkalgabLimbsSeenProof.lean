/- Each call of limbs writes down the one span that the document says (Pick one for each number), whatever the numbers hold; for any bit, numbers, list and place; no condition. -/
import Derived.Test.YtnjmckfkfkalgabRows
import Derived.Test.YtnjmckfkfkalgabKept
import Derived.Test.YtnjmckfkfkalgabNums
import Derived.Test.YtnjmckfkfkalgabNumRow
import Derived.Test.YtnjmckfkfkalgabOpenRow
import Derived.Test.YtnjmckfkfkalgabEvs
import Derived.Test.YtnjmckfkfkalgabTrs
import Derived.Test.YtnjmckfkfkalgabTWrite
import Derived.Test.YtnjmckfkfkalgabTRoom
import Derived.Test.YtnjmckfkfkalgabTCalls
import Derived.Test.YtnjmckfkfkalgabBigs
import Derived.Test.YtnjmckfkfkalgabBigNat
import Derived.Test.YtnjmckfkfkalgabCopies
import Derived.Test.YtnjmckfkfkalgabSteps
import Derived.Test.YtnjmckfkfkalgabExt
import Derived.Test.YtnjmckfkfkalgabWords
import Derived.Test.YtnjmckfkfkalgabLimA
import Derived.Test.YtnjmckfkfkalgabOpenNats
import Derived.Test.YtnjmckfkfkalgabBigBit
import Derived.Test.YtnjmckfkfkalgabLimN
import Derived.Test.YtnjmckfkfkalgabBigAdd
import Derived.Test.YtnjmckfkfkalgabBigSub
import Derived.Test.YtnjmckfkfkalgabBigShift
import Derived.Test.YtnjmckfkfkalgabRef4A
import Derived.Test.YtnjmckfkfkalgabRef4B
import Derived.Test.YtnjmckfkfkalgabBigShr
import Derived.Test.YtnjmckfkfkalgabRef4C
import Derived.Test.YtnjmckfkfkalgabLimB
import Derived.Test.YtnjmckfkfkalgabLimC
import Derived.Test.YtnjmckfkfkalgabLimD
import Derived.Test.YtnjmckfkfkalgabLimO
import Derived.Test.YtnjmckfkfkalgabLimE
import Derived.Test.YtnjmckfkfkalgabLimF
import Derived.Test.YtnjmckfkfkalgabLimG
import Derived.Test.YtnjmckfkfkalgabLimH
import Derived.Test.YtnjmckfkfkalgabLimP
import Derived.Test.YtnjmckfkfkalgabCopyWide
import Derived.Test.YtnjmckfkfkalgabTEvents
import Derived.Test.YtnjmckfkfkalgabLSame
import Derived.Test.YtnjmckfkfkalgabTSame
import Derived.Test.YtnjmckfkfkalgabLimV
import Derived.Test.YtnjmckfkfkalgabLLimSeen
import Derived.WalkKit
import Derived.ProofKit
import Derived.OpenShut
import Derived.ShutString
import Derived.ChangeOld
import Derived.Below
namespace Go.Proofs.Ytnjmckfkfkalgab.limbsSeen
open Go.ChangeShapes Go.WideShapes Go.ChangeAt Go.RowKit
open Go.ChangeMaps (open_string shut_string)
set_option linter.unusedVariables false

theorem own : ownKnob Try.prog.godebug = none := by kernel_rfl

theorem laidOut : laidOutB Try.prog = true := by kernel_rfl

set_option maxRecDepth 100000 in
theorem lifted (os : Os) (started : os.Started) (H : Type) (enc : TypeId × Value → H) :
    ReturnsInHanded {} Try.checked os 4 .any (Rows.limbsSeenSpec.pre6 enc Try.prog Try.f4 Rows.limbsSeenRow.domain false) (Rows.limbsSeenSpec.post enc Try.prog Try.f4 false true false false) := by
  refine returnsInHanded_of_change (C := Try.checked) own started (by kernel_rfl) Try.func4
    (ChangeSpec.witness6 (enc := enc) (C := Try.checked) false ⟨#[], #[.int .u64 0, .slice none 0 0, .slice none 0 0, .slice none 0 0, .int .u64 0], []⟩ 4 (by kernel_rfl) (by kernel_rfl) (by kernel_rfl) (by kernel_rfl)) ?_
  intro W base args ds gs before hval0 hW hcnd _
  have hval : ∀ (j : Nat) t v, Try.f4.params[j]? = some t → args[j]? = some v → Value.okWide Try.prog W .any base t v := hval0
  have hW' := hW
  obtain ⟨p, q, hA0, hV, rfl, hfz, hnd⟩ := hW
  have hA : DataW.TrodAll enc Try.prog W 0 (fun _ => true) true Try.f4.params.toList args.toList ds p := hA0
  rw [Try.params4] at hA hval
  obtain ⟨v0, vs0, d0, ds0, p0, q0, hargs, rfl, rfl, h0, r0⟩ := trodAll_cons hA
  obtain ⟨v1, vs1, d1, ds1, p1, q1, rfl, rfl, rfl, h1, r1⟩ := trodAll_cons r0
  obtain ⟨v2, vs2, d2, ds2, p2, q2, rfl, rfl, rfl, h2, r2⟩ := trodAll_cons r1
  obtain ⟨v3, vs3, d3, ds3, p3, q3, rfl, rfl, rfl, h3, r3⟩ := trodAll_cons r2
  obtain ⟨v4, vs4, d4, ds4, p4, q4, rfl, rfl, rfl, h4, r4⟩ := trodAll_cons r3
  obtain ⟨rfl, rfl, rfl⟩ := trodAll_nil r4
  obtain rfl : args = #[v0, v1, v2, v3, v4] := by cases args; simp_all
  obtain ⟨rfl, rfl⟩ := trodVars_none hV
  obtain ⟨a0, rfl, rfl, rfl, w0⟩ := open_int Try.underlying24 (hval 0 24 v0 rfl rfl) h0
  obtain ⟨a1, len1, cap1, rfl⟩ := okWide_slice Try.underlying23 (hval 1 23 v1 rfl rfl)
  have k1 := h1
  have lt1 : ∀ x ∈ p1, x.block < W.heap.size := by obtain ⟨m, hm⟩ := k1; exact DataW.trod_lt m _ _ _ hm
  obtain ⟨n1, row1, dg1⟩ : ∃ ns : List Nat, Row .u64 W (.slice a1 len1 cap1) ns ∧ Digs 18446744073709551616 ns := by
    obtain ⟨fuel, hf⟩ := h1
    rcases open_ints Try.underlying23 Try.underlying24 (by kernel_rfl) hf with ⟨hcs, _⟩ | ⟨x, l, c, zs, hcs, _, hl, hm, hz, _, hcell, hwz⟩
    · simp [Value.cells] at hcs
      obtain ⟨rfl, rfl, rfl⟩ := hcs
      exact row_of_ints wf_u64 (zs := []) (.inl ⟨rfl, rfl, rfl, rfl⟩)
    · simp [Value.cells] at hcs
      obtain ⟨rfl, rfl, rfl⟩ := hcs
      exact row_of_ints wf_u64 (.inr ⟨_, rfl, hl, hm, by simpa using hz, hcell, hwz⟩)
  obtain ⟨a2, len2, cap2, rfl⟩ := okWide_slice Try.underlying23 (hval 2 23 v2 rfl rfl)
  have k2 := h2
  have lt2 : ∀ x ∈ p2, x.block < W.heap.size := by obtain ⟨m, hm⟩ := k2; exact DataW.trod_lt m _ _ _ hm
  obtain ⟨n2, row2, dg2⟩ : ∃ ns : List Nat, Row .u64 W (.slice a2 len2 cap2) ns ∧ Digs 18446744073709551616 ns := by
    obtain ⟨fuel, hf⟩ := h2
    rcases open_ints Try.underlying23 Try.underlying24 (by kernel_rfl) hf with ⟨hcs, _⟩ | ⟨x, l, c, zs, hcs, _, hl, hm, hz, _, hcell, hwz⟩
    · simp [Value.cells] at hcs
      obtain ⟨rfl, rfl, rfl⟩ := hcs
      exact row_of_ints wf_u64 (zs := []) (.inl ⟨rfl, rfl, rfl, rfl⟩)
    · simp [Value.cells] at hcs
      obtain ⟨rfl, rfl, rfl⟩ := hcs
      exact row_of_ints wf_u64 (.inr ⟨_, rfl, hl, hm, by simpa using hz, hcell, hwz⟩)
  obtain ⟨a3, len3, cap3, rfl⟩ := okWide_slice Try.underlying34 (hval 3 34 v3 rfl rfl)
  have k3 := h3
  have lt3 : ∀ x ∈ p3, x.block < W.heap.size := by obtain ⟨m, hm⟩ := k3; exact DataW.trod_lt m _ _ _ hm
  obtain ⟨m3, A3, L3, C3, x3, ns3⟩ : ∃ n A L C xss, NatsIn W (.slice a3 len3 cap3) n A L C xss := by
    obtain ⟨fuel, hf⟩ := h3
    exact open_nats (by simpa [Value.cells] using hf)
  obtain ⟨a4, rfl, rfl, rfl, w4⟩ := open_int Try.underlying24 (hval 4 24 v4 rfl rfl) h4
  clear hA0 hval0
  refine (walkLimbsSeen a0 _ n1 _ n2 _ m3 A3 L3 C3 x3 a4 W row1 row2 dg1 dg2 w0 ns3 w4).mono fun e W' ⟨he, bel⟩ => ?_
  subst he
  exact ⟨_, rfl, _, _, _, [], _, [], hW', trodAll_mk1 (shut_bool Try.underlying4 _), (trodAll_cons_mk (shut_int Try.underlying24 w0) (trodAll_cons_mk (Below.trod laidOut (by kernel_rfl) (of_decide_eq_true (by kernel_rfl)) k1 bel lt1) (trodAll_cons_mk (Below.trod laidOut (by kernel_rfl) (of_decide_eq_true (by kernel_rfl)) k2 bel lt2) (trodAll_cons_mk (Below.trod laidOut (by kernel_rfl) (of_decide_eq_true (by kernel_rfl)) k3 bel lt3) (trodAll_cons_mk (shut_int Try.underlying24 w4) trodAll_mk0))))), rfl, bel.frame _, fun h => by cases h⟩

theorem over : Rows.limbsSeenRow.holds Try.pinned (OpenSpec.ofChange Rows.limbsSeenSpec) :=
  OpenClaim.holds_of_wide 4 Try.f4 rfl rfl rfl rfl rfl rfl rfl ⟨rfl, rfl, rfl, rfl, rfl⟩ rfl rfl rfl rfl rfl (by kernel_rfl) Try.func4 (by kernel_rfl)
    (of_decide_eq_true (by kernel_rfl)) (by unfold Func.isWrapper; first | (rw [if_pos (by decide +kernel)]; kernel_rfl) | (rw [if_neg (by decide +kernel)]; exact ⟨rfl, rfl⟩))
    (fun os started H enc _ => lifted os started H enc)
end Go.Proofs.Ytnjmckfkfkalgab.limbsSeen

namespace Go.Proofs.Ytnjmckfkfkalgab
theorem LimbsSeen_holds : Rows.LimbsSeenSaid := limbsSeen.over
#print axioms LimbsSeen_holds
end Go.Proofs.Ytnjmckfkfkalgab
