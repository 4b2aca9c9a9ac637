/- Of answers what the plain inverse answers, number, whether there is one, and error, for every modulus and number within the statement's cap, and the example of chapter 10 holds. -/
import Derived.Test.YtamkkmifbajdfaaRows
import Derived.Test.YtamkkmifbajdfaaBase1
import Derived.Test.YtamkkmifbajdfaaOpenRow
import Derived.Test.YtamkkmifbajdfaaOpenMod
import Derived.Test.YtamkkmifbajdfaaTra1
import Derived.Test.YtamkkmifbajdfaaWor1
import Derived.Test.YtamkkmifbajdfaaBase2
import Derived.Test.YtamkkmifbajdfaaLim1
import Derived.Test.YtamkkmifbajdfaaPro1
import Derived.Test.YtamkkmifbajdfaaPro2
import Derived.Test.YtamkkmifbajdfaaBase3
import Derived.Test.YtamkkmifbajdfaaBase4
import Derived.Test.YtamkkmifbajdfaaMonA
import Derived.Test.YtamkkmifbajdfaaLim2
import Derived.Test.YtamkkmifbajdfaaMonB
import Derived.Test.YtamkkmifbajdfaaMon2
import Derived.Test.YtamkkmifbajdfaaBigDivMod
import Derived.Test.YtamkkmifbajdfaaBigM
import Derived.Test.YtamkkmifbajdfaaInv0
import Derived.Test.YtamkkmifbajdfaaRef6m
import Derived.Test.YtamkkmifbajdfaaMon3
import Derived.Test.YtamkkmifbajdfaaLim3
import Derived.Test.YtamkkmifbajdfaaWInv
import Derived.Test.YtamkkmifbajdfaaMon4
import Derived.Test.YtamkkmifbajdfaaMon5
import Derived.Test.YtamkkmifbajdfaaLimH
import Derived.Test.YtamkkmifbajdfaaRef6D
import Derived.Test.YtamkkmifbajdfaaRef6E
import Derived.Test.YtamkkmifbajdfaaRef6o
import Derived.Test.YtamkkmifbajdfaaRef7A
import Derived.Test.YtamkkmifbajdfaaRef7B
import Derived.Test.YtamkkmifbajdfaaRef7C
import Derived.Test.YtamkkmifbajdfaaRinA
import Derived.Test.YtamkkmifbajdfaaDst1
import Derived.Test.YtamkkmifbajdfaaDst2
import Derived.Test.YtamkkmifbajdfaaIvn1
import Derived.Test.YtamkkmifbajdfaaIvn2
import Derived.Test.YtamkkmifbajdfaaIvn3
import Derived.Test.YtamkkmifbajdfaaIvn4
import Derived.Test.YtamkkmifbajdfaaIvn5
import Derived.Test.YtamkkmifbajdfaaNatB
import Derived.Test.YtamkkmifbajdfaaRef5A
import Derived.Test.YtamkkmifbajdfaaRef10A
import Derived.Test.YtamkkmifbajdfaaIvn6
import Derived.Test.YtamkkmifbajdfaaRinB
import Derived.Test.YtamkkmifbajdfaaRinC
import Derived.Test.YtamkkmifbajdfaaRinD
import Derived.Test.YtamkkmifbajdfaaIvn7
import Derived.Test.YtamkkmifbajdfaaIvn8
import Derived.Test.YtamkkmifbajdfaaL5A
import Derived.Test.YtamkkmifbajdfaaLaw6
import Derived.Test.YtamkkmifbajdfaaLaw10
import Derived.Test.YtamkkmifbajdfaaRef10B
import Derived.Test.YtamkkmifbajdfaaLInvOf
import Derived.WalkKit
import Derived.ProofKit
import Derived.OpenShut
import Derived.ShutString
import Derived.ChangeOld
import Derived.Below
namespace Go.Proofs.Ytamkkmifbajdfaa.inverseOf
open Go.ChangeShapes Go.WideShapes Go.ChangeAt Go.RowKit
open Go.ChangeMaps (open_string shut_string)
set_option linter.unusedVariables false

theorem own : ownKnob Try.prog.godebug = none := by kernel_rfl

theorem laidOut : laidOutB Try.prog = true := by kernel_rfl

set_option maxRecDepth 100000 in
theorem lifted (os : Os) (started : os.Started) (H : Type) (enc : TypeId × Value → H) :
    ReturnsInHanded {} Try.checked os 4 .any (Rows.inverseOfSpec.pre6 enc Try.prog Try.f4 Rows.inverseOfRow.domain false) (Rows.inverseOfSpec.post enc Try.prog Try.f4 false true false false) := by
  refine returnsInHanded_of_change (C := Try.checked) own started (by kernel_rfl) Try.func4
    (ChangeSpec.witness6 (enc := enc) (C := Try.checked) false ⟨#[], #[.agg #[.slice none 0 0, .int .u64 0, .slice none 0 0], .slice none 0 0], []⟩ 4 (by kernel_rfl) (by kernel_rfl) (by kernel_rfl) (by kernel_rfl)) ?_
  intro W base args ds gs before hval0 hW hcnd _
  have hval : ∀ (j : Nat) t v, Try.f4.params[j]? = some t → args[j]? = some v → Value.okWide Try.prog W .any base t v := hval0
  have hW' := hW
  obtain ⟨p, q, hA0, hV, rfl, hfz, hnd⟩ := hW
  have hA : DataW.TrodAll enc Try.prog W 0 (fun _ => true) true Try.f4.params.toList args.toList ds p := hA0
  rw [Try.params4] at hA hval
  obtain ⟨v0, vs0, d0, ds0, p0, q0, hargs, rfl, rfl, h0, r0⟩ := trodAll_cons hA
  obtain ⟨v1, vs1, d1, ds1, p1, q1, rfl, rfl, rfl, h1, r1⟩ := trodAll_cons r0
  obtain ⟨rfl, rfl, rfl⟩ := trodAll_nil r1
  obtain rfl : args = #[v0, v1] := by cases args; simp_all
  obtain ⟨rfl, rfl⟩ := trodVars_none hV
  have k0 := h0
  have lt0 : ∀ x ∈ p0, x.block < W.heap.size := by obtain ⟨m, hm⟩ := k0; exact DataW.trod_lt m _ _ _ hm
  obtain ⟨u0, xs0, kk0, w0, zs0, rfl, ra0, da0, wk0, rb0, db0⟩ : ∃ (u : Value) (xs : List Nat) (k : Int) (v : Value) (zs : List Nat), v0 = .agg #[u, .int .u64 k, v] ∧ Row .u64 W u xs ∧ Digs 18446744073709551616 xs ∧ (Lit.int .u64 k).wf = true ∧ Row .u64 W v zs ∧ Digs 18446744073709551616 zs := by
    obtain ⟨cs, rfl, _⟩ := okWide_struct Try.underlying29 (hval 0 29 v0 rfl rfl)
    obtain ⟨fuel, hf⟩ := h0
    obtain ⟨u, xs, k, v, zs, hc, f1, f2, f3, f4, f5⟩ := open_mod hf
    obtain ⟨cs⟩ := cs
    simp [Value.cells] at hc
    exact ⟨u, xs, k, v, zs, by rw [hc], f1, f2, f3, f4, f5⟩
  obtain ⟨a1, len1, cap1, rfl⟩ := okWide_slice Try.underlying26 (hval 1 26 v1 rfl rfl)
  have k1 := h1
  have lt1 : ∀ x ∈ p1, x.block < W.heap.size := by obtain ⟨m, hm⟩ := k1; exact DataW.trod_lt m _ _ _ hm
  obtain ⟨n1, row1, dg1⟩ : ∃ ns : List Nat, Row .u64 W (.slice a1 len1 cap1) ns ∧ Digs 18446744073709551616 ns := by
    obtain ⟨fuel, hf⟩ := h1
    rcases open_ints Try.underlying26 Try.underlying27 (by kernel_rfl) hf with ⟨hcs, _⟩ | ⟨x, l, c, zs, hcs, _, hl, hm, hz, _, hcell, hwz⟩
    · simp [Value.cells] at hcs
      obtain ⟨rfl, rfl, rfl⟩ := hcs
      exact row_of_ints wf_u64 (zs := []) (.inl ⟨rfl, rfl, rfl, rfl⟩)
    · simp [Value.cells] at hcs
      obtain ⟨rfl, rfl, rfl⟩ := hcs
      exact row_of_ints wf_u64 (.inr ⟨_, rfl, hl, hm, by simpa using hz, hcell, hwz⟩)
  clear hA0 hval0
  refine (walkInverseOf u0 xs0 kk0 w0 zs0 _ n1 W ra0 rb0 row1 da0 db0 dg1 wk0).mono fun e W' ⟨he, bel⟩ => ?_
  subst he
  exact ⟨_, rfl, _, _, _, [], _, [], hW', trodAll_mk1 (shut_bool Try.underlying4 _), (trodAll_cons_mk (Below.trod laidOut (by kernel_rfl) (of_decide_eq_true (by kernel_rfl)) k0 bel lt0) (trodAll_cons_mk (Below.trod laidOut (by kernel_rfl) (of_decide_eq_true (by kernel_rfl)) k1 bel lt1) trodAll_mk0)), rfl, bel.frame _, fun h => by cases h⟩

theorem over : Rows.inverseOfRow.holds Try.pinned (OpenSpec.ofChange Rows.inverseOfSpec) :=
  OpenClaim.holds_of_wide 4 Try.f4 rfl rfl rfl rfl rfl rfl rfl ⟨rfl, rfl, rfl, rfl, rfl⟩ rfl rfl rfl rfl rfl (by kernel_rfl) Try.func4 (by kernel_rfl)
    (of_decide_eq_true (by kernel_rfl)) (by unfold Func.isWrapper; first | (rw [if_pos (by decide +kernel)]; kernel_rfl) | (rw [if_neg (by decide +kernel)]; exact ⟨rfl, rfl⟩))
    (fun os started H enc _ => lifted os started H enc)
end Go.Proofs.Ytamkkmifbajdfaa.inverseOf

namespace Go.Proofs.Ytamkkmifbajdfaa
theorem InverseOf_holds : Rows.InverseOfSaid := inverseOf.over
#print axioms InverseOf_holds
end Go.Proofs.Ytamkkmifbajdfaa
