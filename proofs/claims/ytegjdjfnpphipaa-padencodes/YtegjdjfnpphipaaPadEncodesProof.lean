/- For every message, every k and every bytes of a script (nil too) the law of layer 23 on what is padded (Encode beside the plain Pad, what is left of the script with it) returns true, panics nowhere, and leaves its arguments as they were; no condition but that the arguments are two lists of bytes and an int. -/
import Derived.Test.YtegjdjfnpphipaaRows
import Derived.Test.YtegjdjfnpphipaaBase1
import Derived.Test.YtegjdjfnpphipaaOpenRow
import Derived.Test.YtegjdjfnpphipaaByt1
import Derived.Test.YtegjdjfnpphipaaSrc1
import Derived.Test.YtegjdjfnpphipaaPad0
import Derived.Test.YtegjdjfnpphipaaCat1
import Derived.Test.YtegjdjfnpphipaaCut0
import Derived.Test.YtegjdjfnpphipaaCat2
import Derived.Test.YtegjdjfnpphipaaScr1
import Derived.Test.YtegjdjfnpphipaaRnd1
import Derived.Test.YtegjdjfnpphipaaSeq2
import Derived.Test.YtegjdjfnpphipaaLsc1
import Derived.Test.YtegjdjfnpphipaaLsc2
import Derived.Test.YtegjdjfnpphipaaLsc3
import Derived.Test.YtegjdjfnpphipaaScr2
import Derived.Test.YtegjdjfnpphipaaPad1
import Derived.Test.YtegjdjfnpphipaaBase2
import Derived.Test.YtegjdjfnpphipaaBigDivMod
import Derived.Test.YtegjdjfnpphipaaBase3
import Derived.Test.YtegjdjfnpphipaaBigM
import Derived.Test.YtegjdjfnpphipaaBev1
import Derived.Test.YtegjdjfnpphipaaScr3
import Derived.Test.YtegjdjfnpphipaaSeq3
import Derived.Test.YtegjdjfnpphipaaBase4
import Derived.Test.YtegjdjfnpphipaaLays
import Derived.Test.YtegjdjfnpphipaaNatB
import Derived.Test.YtegjdjfnpphipaaSeq0
import Derived.Test.YtegjdjfnpphipaaNatC
import Derived.Test.YtegjdjfnpphipaaNatD
import Derived.Test.YtegjdjfnpphipaaNatE
import Derived.Test.YtegjdjfnpphipaaNatF
import Derived.Test.YtegjdjfnpphipaaNatG
import Derived.Test.YtegjdjfnpphipaaNatH
import Derived.Test.YtegjdjfnpphipaaNatI
import Derived.Test.YtegjdjfnpphipaaLsc4
import Derived.Test.YtegjdjfnpphipaaScr4
import Derived.Test.YtegjdjfnpphipaaLsc5
import Derived.Test.YtegjdjfnpphipaaNob1
import Derived.Test.YtegjdjfnpphipaaLsc6
import Derived.Test.YtegjdjfnpphipaaLaw23
import Derived.Test.YtegjdjfnpphipaaPad2
import Derived.Test.YtegjdjfnpphipaaFnd0
import Derived.Test.YtegjdjfnpphipaaWor1
import Derived.Test.YtegjdjfnpphipaaTra1
import Derived.Test.YtegjdjfnpphipaaTra2
import Derived.Test.YtegjdjfnpphipaaPad3
import Derived.Test.YtegjdjfnpphipaaPad4
import Derived.Test.YtegjdjfnpphipaaPad5
import Derived.Test.YtegjdjfnpphipaaWPadEncodes
import Derived.Test.YtegjdjfnpphipaaLPadEncodes
import Derived.WalkKit
import Derived.ProofKit
import Derived.OpenShut
import Derived.ShutString
import Derived.ChangeOld
import Derived.Below
namespace Go.Proofs.Ytegjdjfnpphipaa.padEncodes
open Go.ChangeShapes Go.WideShapes Go.ChangeAt Go.RowKit
open Go.ChangeMaps (open_string shut_string)
set_option linter.unusedVariables false

theorem own : ownKnob Try.prog.godebug = none := by kernel_rfl

theorem laidOut : laidOutB Try.prog = true := by kernel_rfl

set_option maxRecDepth 100000 in
theorem lifted (os : Os) (started : os.Started) (H : Type) (enc : TypeId × Value → H) :
    ReturnsInHanded {} Try.checked os 3 .any (Rows.padEncodesSpec.pre6 enc Try.prog Try.f3 Rows.padEncodesRow.domain false) (Rows.padEncodesSpec.post enc Try.prog Try.f3 false true false false) := by
  refine returnsInHanded_of_change (C := Try.checked) own started (by kernel_rfl) Try.func3
    (ChangeSpec.witness6 (enc := enc) (C := Try.checked) false ⟨#[], #[.slice none 0 0, .int .i64 0, .slice none 0 0], []⟩ 3 (by kernel_rfl) (by kernel_rfl) (by kernel_rfl) (by kernel_rfl)) ?_
  intro W base args ds gs before hval0 hW hcnd _
  have hval : ∀ (j : Nat) t v, Try.f3.params[j]? = some t → args[j]? = some v → Value.okWide Try.prog W .any base t v := hval0
  have hW' := hW
  obtain ⟨p, q, hA0, hV, rfl, hfz, hnd⟩ := hW
  have hA : DataW.TrodAll enc Try.prog W 0 (fun _ => true) true Try.f3.params.toList args.toList ds p := hA0
  rw [Try.params3] at hA hval
  obtain ⟨v0, vs0, d0, ds0, p0, q0, hargs, rfl, rfl, h0, r0⟩ := trodAll_cons hA
  obtain ⟨v1, vs1, d1, ds1, p1, q1, rfl, rfl, rfl, h1, r1⟩ := trodAll_cons r0
  obtain ⟨v2, vs2, d2, ds2, p2, q2, rfl, rfl, rfl, h2, r2⟩ := trodAll_cons r1
  obtain ⟨rfl, rfl, rfl⟩ := trodAll_nil r2
  obtain rfl : args = #[v0, v1, v2] := by cases args; simp_all
  obtain ⟨rfl, rfl⟩ := trodVars_none hV
  obtain ⟨a0, len0, cap0, rfl⟩ := okWide_slice Try.underlying22 (hval 0 22 v0 rfl rfl)
  have k0 := h0
  have lt0 : ∀ x ∈ p0, x.block < W.heap.size := by obtain ⟨m, hm⟩ := k0; exact DataW.trod_lt m _ _ _ hm
  obtain ⟨n0, row0, dg0⟩ : ∃ ns : List Nat, Row .u8 W (.slice a0 len0 cap0) ns ∧ Digs 256 ns := by
    obtain ⟨fuel, hf⟩ := h0
    rcases open_ints Try.underlying22 Try.underlying5 (by kernel_rfl) hf with ⟨hcs, _⟩ | ⟨x, l, c, zs, hcs, _, hl, hm, hz, _, hcell, hwz⟩
    · simp [Value.cells] at hcs
      obtain ⟨rfl, rfl, rfl⟩ := hcs
      exact row_of_ints wf_u8 (zs := []) (.inl ⟨rfl, rfl, rfl, rfl⟩)
    · simp [Value.cells] at hcs
      obtain ⟨rfl, rfl, rfl⟩ := hcs
      exact row_of_ints wf_u8 (.inr ⟨_, rfl, hl, hm, by simpa using hz, hcell, hwz⟩)
  obtain ⟨a1, rfl, rfl, rfl, w1⟩ := open_int Try.underlying3 (hval 1 3 v1 rfl rfl) h1
  obtain ⟨a2, len2, cap2, rfl⟩ := okWide_slice Try.underlying22 (hval 2 22 v2 rfl rfl)
  have k2 := h2
  have lt2 : ∀ x ∈ p2, x.block < W.heap.size := by obtain ⟨m, hm⟩ := k2; exact DataW.trod_lt m _ _ _ hm
  obtain ⟨n2, row2, dg2⟩ : ∃ ns : List Nat, Row .u8 W (.slice a2 len2 cap2) ns ∧ Digs 256 ns := by
    obtain ⟨fuel, hf⟩ := h2
    rcases open_ints Try.underlying22 Try.underlying5 (by kernel_rfl) hf with ⟨hcs, _⟩ | ⟨x, l, c, zs, hcs, _, hl, hm, hz, _, hcell, hwz⟩
    · simp [Value.cells] at hcs
      obtain ⟨rfl, rfl, rfl⟩ := hcs
      exact row_of_ints wf_u8 (zs := []) (.inl ⟨rfl, rfl, rfl, rfl⟩)
    · simp [Value.cells] at hcs
      obtain ⟨rfl, rfl, rfl⟩ := hcs
      exact row_of_ints wf_u8 (.inr ⟨_, rfl, hl, hm, by simpa using hz, hcell, hwz⟩)
  clear hA0 hval0
  refine (walkPadEncodes _ n0 a1 _ n2 W row0 row2 dg0 dg2 w1).mono fun e W' ⟨he, bel⟩ => ?_
  subst he
  exact ⟨_, rfl, _, _, _, [], _, [], hW', trodAll_mk1 (shut_bool Try.underlying4 _), (trodAll_cons_mk (Below.trod laidOut (by kernel_rfl) (of_decide_eq_true (by kernel_rfl)) k0 bel lt0) (trodAll_cons_mk (shut_int Try.underlying3 w1) (trodAll_cons_mk (Below.trod laidOut (by kernel_rfl) (of_decide_eq_true (by kernel_rfl)) k2 bel lt2) trodAll_mk0))), rfl, bel.frame _, fun h => by cases h⟩

theorem over : Rows.padEncodesRow.holds Try.pinned (OpenSpec.ofChange Rows.padEncodesSpec) :=
  OpenClaim.holds_of_wide 3 Try.f3 rfl rfl rfl rfl rfl rfl rfl ⟨rfl, rfl, rfl, rfl, rfl⟩ rfl rfl rfl rfl rfl (by kernel_rfl) Try.func3 (by kernel_rfl)
    (of_decide_eq_true (by kernel_rfl)) (by unfold Func.isWrapper; first | (rw [if_pos (by decide +kernel)]; kernel_rfl) | (rw [if_neg (by decide +kernel)]; exact ⟨rfl, rfl⟩))
    (fun os started H enc _ => lifted os started H enc)
end Go.Proofs.Ytegjdjfnpphipaa.padEncodes

namespace Go.Proofs.Ytegjdjfnpphipaa
theorem PadEncodes_holds : Rows.PadEncodesSaid := padEncodes.over
#print axioms PadEncodes_holds
end Go.Proofs.Ytegjdjfnpphipaa
