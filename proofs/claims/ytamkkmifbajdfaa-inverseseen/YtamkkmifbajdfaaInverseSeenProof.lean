/- What Of writes down on a trace hangs on the length of the modulus alone, for any two moduli of one length and members of them within the statement's cap, it writes down something, and the example of chapter 10 holds. -/
import Derived.Test.YtamkkmifbajdfaaRows
import Derived.Test.YtamkkmifbajdfaaBase1
import Derived.Test.YtamkkmifbajdfaaOpenRow
import Derived.Test.YtamkkmifbajdfaaOpenMod
import Derived.Test.YtamkkmifbajdfaaTra1
import Derived.Test.YtamkkmifbajdfaaWor1
import Derived.Test.YtamkkmifbajdfaaBase2
import Derived.Test.YtamkkmifbajdfaaLim1
import Derived.Test.YtamkkmifbajdfaaPro1
import Derived.Test.YtamkkmifbajdfaaPro2
import Derived.Test.YtamkkmifbajdfaaBase3
import Derived.Test.YtamkkmifbajdfaaBase4
import Derived.Test.YtamkkmifbajdfaaMonA
import Derived.Test.YtamkkmifbajdfaaLim2
import Derived.Test.YtamkkmifbajdfaaMonB
import Derived.Test.YtamkkmifbajdfaaMon2
import Derived.Test.YtamkkmifbajdfaaBigDivMod
import Derived.Test.YtamkkmifbajdfaaBigM
import Derived.Test.YtamkkmifbajdfaaInv0
import Derived.Test.YtamkkmifbajdfaaRef6m
import Derived.Test.YtamkkmifbajdfaaMon3
import Derived.Test.YtamkkmifbajdfaaLim3
import Derived.Test.YtamkkmifbajdfaaWInv
import Derived.Test.YtamkkmifbajdfaaMon4
import Derived.Test.YtamkkmifbajdfaaMon5
import Derived.Test.YtamkkmifbajdfaaLimH
import Derived.Test.YtamkkmifbajdfaaRef6D
import Derived.Test.YtamkkmifbajdfaaRef6E
import Derived.Test.YtamkkmifbajdfaaRef6o
import Derived.Test.YtamkkmifbajdfaaRef7A
import Derived.Test.YtamkkmifbajdfaaRef7B
import Derived.Test.YtamkkmifbajdfaaRef7C
import Derived.Test.YtamkkmifbajdfaaRinA
import Derived.Test.YtamkkmifbajdfaaIva1
import Derived.Test.YtamkkmifbajdfaaIva2
import Derived.Test.YtamkkmifbajdfaaNatB
import Derived.Test.YtamkkmifbajdfaaRef5A
import Derived.Test.YtamkkmifbajdfaaRef10A
import Derived.Test.YtamkkmifbajdfaaIva3
import Derived.Test.YtamkkmifbajdfaaRinB
import Derived.Test.YtamkkmifbajdfaaRinC
import Derived.Test.YtamkkmifbajdfaaRinD
import Derived.Test.YtamkkmifbajdfaaIva4
import Derived.Test.YtamkkmifbajdfaaL5A
import Derived.Test.YtamkkmifbajdfaaLaw6
import Derived.Test.YtamkkmifbajdfaaLaw10
import Derived.Test.YtamkkmifbajdfaaTra2
import Derived.Test.YtamkkmifbajdfaaL6D
import Derived.Test.YtamkkmifbajdfaaDuo2
import Derived.Test.YtamkkmifbajdfaaLInvSeen
import Derived.WalkKit
import Derived.ProofKit
import Derived.OpenShut
import Derived.ShutString
import Derived.ChangeOld
import Derived.Below
namespace Go.Proofs.Ytamkkmifbajdfaa.inverseSeen
open Go.ChangeShapes Go.WideShapes Go.ChangeAt Go.RowKit
open Go.ChangeMaps (open_string shut_string)
set_option linter.unusedVariables false

theorem own : ownKnob Try.prog.godebug = none := by kernel_rfl

theorem laidOut : laidOutB Try.prog = true := by kernel_rfl

set_option maxRecDepth 100000 in
theorem lifted (os : Os) (started : os.Started) (H : Type) (enc : TypeId × Value → H) :
    ReturnsInHanded {} Try.checked os 5 .any (Rows.inverseSeenSpec.pre6 enc Try.prog Try.f5 Rows.inverseSeenRow.domain false) (Rows.inverseSeenSpec.post enc Try.prog Try.f5 false true false false) := by
  refine returnsInHanded_of_change (C := Try.checked) own started (by kernel_rfl) Try.func5
    (ChangeSpec.witness6 (enc := enc) (C := Try.checked) false ⟨#[], #[.agg #[.slice none 0 0, .int .u64 0, .slice none 0 0], .agg #[.slice none 0 0, .int .u64 0, .slice none 0 0], .slice none 0 0, .slice none 0 0], []⟩ 5 (by kernel_rfl) (by kernel_rfl) (by kernel_rfl) (by kernel_rfl)) ?_
  intro W base args ds gs before hval0 hW hcnd _
  have hval : ∀ (j : Nat) t v, Try.f5.params[j]? = some t → args[j]? = some v → Value.okWide Try.prog W .any base t v := hval0
  have hW' := hW
  obtain ⟨p, q, hA0, hV, rfl, hfz, hnd⟩ := hW
  have hA : DataW.TrodAll enc Try.prog W 0 (fun _ => true) true Try.f5.params.toList args.toList ds p := hA0
  rw [Try.params5] at hA hval
  obtain ⟨v0, vs0, d0, ds0, p0, q0, hargs, rfl, rfl, h0, r0⟩ := trodAll_cons hA
  obtain ⟨v1, vs1, d1, ds1, p1, q1, rfl, rfl, rfl, h1, r1⟩ := trodAll_cons r0
  obtain ⟨v2, vs2, d2, ds2, p2, q2, rfl, rfl, rfl, h2, r2⟩ := trodAll_cons r1
  obtain ⟨v3, vs3, d3, ds3, p3, q3, rfl, rfl, rfl, h3, r3⟩ := trodAll_cons r2
  obtain ⟨rfl, rfl, rfl⟩ := trodAll_nil r3
  obtain rfl : args = #[v0, v1, v2, v3] := by cases args; simp_all
  obtain ⟨rfl, rfl⟩ := trodVars_none hV
  have k0 := h0
  have lt0 : ∀ x ∈ p0, x.block < W.heap.size := by obtain ⟨m, hm⟩ := k0; exact DataW.trod_lt m _ _ _ hm
  obtain ⟨u0, xs0, kk0, w0, zs0, rfl, ra0, da0, wk0, rb0, db0⟩ : ∃ (u : Value) (xs : List Nat) (k : Int) (v : Value) (zs : List Nat), v0 = .agg #[u, .int .u64 k, v] ∧ Row .u64 W u xs ∧ Digs 18446744073709551616 xs ∧ (Lit.int .u64 k).wf = true ∧ Row .u64 W v zs ∧ Digs 18446744073709551616 zs := by
    obtain ⟨cs, rfl, _⟩ := okWide_struct Try.underlying29 (hval 0 29 v0 rfl rfl)
    obtain ⟨fuel, hf⟩ := h0
    obtain ⟨u, xs, k, v, zs, hc, f1, f2, f3, f4, f5⟩ := open_mod hf
    obtain ⟨cs⟩ := cs
    simp [Value.cells] at hc
    exact ⟨u, xs, k, v, zs, by rw [hc], f1, f2, f3, f4, f5⟩
  have k1 := h1
  have lt1 : ∀ x ∈ p1, x.block < W.heap.size := by obtain ⟨m, hm⟩ := k1; exact DataW.trod_lt m _ _ _ hm
  obtain ⟨u1, xs1, kk1, w1, zs1, rfl, ra1, da1, wk1, rb1, db1⟩ : ∃ (u : Value) (xs : List Nat) (k : Int) (v : Value) (zs : List Nat), v1 = .agg #[u, .int .u64 k, v] ∧ Row .u64 W u xs ∧ Digs 18446744073709551616 xs ∧ (Lit.int .u64 k).wf = true ∧ Row .u64 W v zs ∧ Digs 18446744073709551616 zs := by
    obtain ⟨cs, rfl, _⟩ := okWide_struct Try.underlying29 (hval 1 29 v1 rfl rfl)
    obtain ⟨fuel, hf⟩ := h1
    obtain ⟨u, xs, k, v, zs, hc, f1, f2, f3, f4, f5⟩ := open_mod hf
    obtain ⟨cs⟩ := cs
    simp [Value.cells] at hc
    exact ⟨u, xs, k, v, zs, by rw [hc], f1, f2, f3, f4, f5⟩
  obtain ⟨a2, len2, cap2, rfl⟩ := okWide_slice Try.underlying26 (hval 2 26 v2 rfl rfl)
  have k2 := h2
  have lt2 : ∀ x ∈ p2, x.block < W.heap.size := by obtain ⟨m, hm⟩ := k2; exact DataW.trod_lt m _ _ _ hm
  obtain ⟨n2, row2, dg2⟩ : ∃ ns : List Nat, Row .u64 W (.slice a2 len2 cap2) ns ∧ Digs 18446744073709551616 ns := by
    obtain ⟨fuel, hf⟩ := h2
    rcases open_ints Try.underlying26 Try.underlying27 (by kernel_rfl) hf with ⟨hcs, _⟩ | ⟨x, l, c, zs, hcs, _, hl, hm, hz, _, hcell, hwz⟩
    · simp [Value.cells] at hcs
      obtain ⟨rfl, rfl, rfl⟩ := hcs
      exact row_of_ints wf_u64 (zs := []) (.inl ⟨rfl, rfl, rfl, rfl⟩)
    · simp [Value.cells] at hcs
      obtain ⟨rfl, rfl, rfl⟩ := hcs
      exact row_of_ints wf_u64 (.inr ⟨_, rfl, hl, hm, by simpa using hz, hcell, hwz⟩)
  obtain ⟨a3, len3, cap3, rfl⟩ := okWide_slice Try.underlying26 (hval 3 26 v3 rfl rfl)
  have k3 := h3
  have lt3 : ∀ x ∈ p3, x.block < W.heap.size := by obtain ⟨m, hm⟩ := k3; exact DataW.trod_lt m _ _ _ hm
  obtain ⟨n3, row3, dg3⟩ : ∃ ns : List Nat, Row .u64 W (.slice a3 len3 cap3) ns ∧ Digs 18446744073709551616 ns := by
    obtain ⟨fuel, hf⟩ := h3
    rcases open_ints Try.underlying26 Try.underlying27 (by kernel_rfl) hf with ⟨hcs, _⟩ | ⟨x, l, c, zs, hcs, _, hl, hm, hz, _, hcell, hwz⟩
    · simp [Value.cells] at hcs
      obtain ⟨rfl, rfl, rfl⟩ := hcs
      exact row_of_ints wf_u64 (zs := []) (.inl ⟨rfl, rfl, rfl, rfl⟩)
    · simp [Value.cells] at hcs
      obtain ⟨rfl, rfl, rfl⟩ := hcs
      exact row_of_ints wf_u64 (.inr ⟨_, rfl, hl, hm, by simpa using hz, hcell, hwz⟩)
  clear hA0 hval0
  refine (walkInverseSeen u0 xs0 kk0 w0 zs0 u1 xs1 kk1 w1 zs1 _ n2 _ n3 W ra0 rb0 ra1 rb1 row2 row3 da0 db0 da1 db1 dg2 dg3 wk0 wk1).mono fun e W' ⟨he, bel⟩ => ?_
  subst he
  exact ⟨_, rfl, _, _, _, [], _, [], hW', trodAll_mk1 (shut_bool Try.underlying4 _), (trodAll_cons_mk (Below.trod laidOut (by kernel_rfl) (of_decide_eq_true (by kernel_rfl)) k0 bel lt0) (trodAll_cons_mk (Below.trod laidOut (by kernel_rfl) (of_decide_eq_true (by kernel_rfl)) k1 bel lt1) (trodAll_cons_mk (Below.trod laidOut (by kernel_rfl) (of_decide_eq_true (by kernel_rfl)) k2 bel lt2) (trodAll_cons_mk (Below.trod laidOut (by kernel_rfl) (of_decide_eq_true (by kernel_rfl)) k3 bel lt3) trodAll_mk0)))), rfl, bel.frame _, fun h => by cases h⟩

theorem over : Rows.inverseSeenRow.holds Try.pinned (OpenSpec.ofChange Rows.inverseSeenSpec) :=
  OpenClaim.holds_of_wide 5 Try.f5 rfl rfl rfl rfl rfl rfl rfl ⟨rfl, rfl, rfl, rfl, rfl⟩ rfl rfl rfl rfl rfl (by kernel_rfl) Try.func5 (by kernel_rfl)
    (of_decide_eq_true (by kernel_rfl)) (by unfold Func.isWrapper; first | (rw [if_pos (by decide +kernel)]; kernel_rfl) | (rw [if_neg (by decide +kernel)]; exact ⟨rfl, rfl⟩))
    (fun os started H enc _ => lifted os started H enc)
end Go.Proofs.Ytamkkmifbajdfaa.inverseSeen

namespace Go.Proofs.Ytamkkmifbajdfaa
theorem InverseSeen_holds : Rows.InverseSeenSaid := inverseSeen.over
#print axioms InverseSeen_holds
end Go.Proofs.Ytamkkmifbajdfaa
