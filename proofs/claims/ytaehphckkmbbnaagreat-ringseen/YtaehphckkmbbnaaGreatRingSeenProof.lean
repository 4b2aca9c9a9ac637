/- For any two moduli and any four numbers the law RingSeen returns true and leaves its arguments as they were: what ring writes down of members hangs on lengths alone; there are no conditions. -/
import Derived.Test.YtaehphckkmbbnaaGreatRows
import Derived.Test.YtaehphckkmbbnaaGreatBase1
import Derived.Test.YtaehphckkmbbnaaGreatOpenRow
import Derived.Test.YtaehphckkmbbnaaGreatOpenMod
import Derived.Test.YtaehphckkmbbnaaGreatTra1
import Derived.Test.YtaehphckkmbbnaaGreatWor1
import Derived.Test.YtaehphckkmbbnaaGreatBase2
import Derived.Test.YtaehphckkmbbnaaGreatLim1
import Derived.Test.YtaehphckkmbbnaaGreatPro1
import Derived.Test.YtaehphckkmbbnaaGreatPro2
import Derived.Test.YtaehphckkmbbnaaGreatBase3
import Derived.Test.YtaehphckkmbbnaaGreatBase4
import Derived.Test.YtaehphckkmbbnaaGreatMonA
import Derived.Test.YtaehphckkmbbnaaGreatLim2
import Derived.Test.YtaehphckkmbbnaaGreatMonB
import Derived.Test.YtaehphckkmbbnaaGreatMon2
import Derived.Test.YtaehphckkmbbnaaGreatBigDivMod
import Derived.Test.YtaehphckkmbbnaaGreatBigM
import Derived.Test.YtaehphckkmbbnaaGreatInv0
import Derived.Test.YtaehphckkmbbnaaGreatRef6m
import Derived.Test.YtaehphckkmbbnaaGreatMon3
import Derived.Test.YtaehphckkmbbnaaGreatLim3
import Derived.Test.YtaehphckkmbbnaaGreatWInv
import Derived.Test.YtaehphckkmbbnaaGreatMon4
import Derived.Test.YtaehphckkmbbnaaGreatMon5
import Derived.Test.YtaehphckkmbbnaaGreatLimH
import Derived.Test.YtaehphckkmbbnaaGreatRef6D
import Derived.Test.YtaehphckkmbbnaaGreatRef6E
import Derived.Test.YtaehphckkmbbnaaGreatRef6o
import Derived.Test.YtaehphckkmbbnaaGreatRef7A
import Derived.Test.YtaehphckkmbbnaaGreatRef7B
import Derived.Test.YtaehphckkmbbnaaGreatRef7C
import Derived.Test.YtaehphckkmbbnaaGreatRinA
import Derived.Test.YtaehphckkmbbnaaGreatRinB
import Derived.Test.YtaehphckkmbbnaaGreatRinC
import Derived.Test.YtaehphckkmbbnaaGreatRinD
import Derived.Test.YtaehphckkmbbnaaGreatPro3
import Derived.Test.YtaehphckkmbbnaaGreatRef5A
import Derived.Test.YtaehphckkmbbnaaGreatPrK
import Derived.Test.YtaehphckkmbbnaaGreatRinE
import Derived.Test.YtaehphckkmbbnaaGreatL5A
import Derived.Test.YtaehphckkmbbnaaGreatLaw6
import Derived.Test.YtaehphckkmbbnaaGreatRef7D
import Derived.Test.YtaehphckkmbbnaaGreatLaw7
import Derived.Test.YtaehphckkmbbnaaGreatTra2
import Derived.Test.YtaehphckkmbbnaaGreatL6D
import Derived.Test.YtaehphckkmbbnaaGreatL7D
import Derived.Test.YtaehphckkmbbnaaGreatLRinSeen
import Derived.WalkKit
import Derived.ProofKit
import Derived.OpenShut
import Derived.ShutString
import Derived.ChangeOld
import Derived.Below
namespace Go.Proofs.YtaehphckkmbbnaaGreat.ringSeen
open Go.ChangeShapes Go.WideShapes Go.ChangeAt Go.RowKit
open Go.ChangeMaps (open_string shut_string)
set_option linter.unusedVariables false

theorem own : ownKnob Tryz.prog.godebug = none := by kernel_rfl

theorem laidOut : laidOutB Tryz.prog = true := by kernel_rfl

set_option maxRecDepth 100000 in
theorem lifted (os : Os) (started : os.Started) (H : Type) (enc : TypeId × Value → H) :
    ReturnsInHanded {} Tryz.checked os 3 .any (Rows.ringSeenSpec.pre6 enc Tryz.prog Tryz.f3 Rows.ringSeenRow.domain false) (Rows.ringSeenSpec.post enc Tryz.prog Tryz.f3 false true false false) := by
  refine returnsInHanded_of_change (C := Tryz.checked) own started (by kernel_rfl) Tryz.func3
    (ChangeSpec.witness6 (enc := enc) (C := Tryz.checked) false ⟨#[], #[.agg #[.slice none 0 0, .int .u64 0, .slice none 0 0], .agg #[.slice none 0 0, .int .u64 0, .slice none 0 0], .slice none 0 0, .slice none 0 0, .slice none 0 0, .slice none 0 0], []⟩ 3 (by kernel_rfl) (by kernel_rfl) (by kernel_rfl) (by kernel_rfl)) ?_
  intro W base args ds gs before hval0 hW hcnd _
  have hval : ∀ (j : Nat) t v, Tryz.f3.params[j]? = some t → args[j]? = some v → Value.okWide Tryz.prog W .any base t v := hval0
  have hW' := hW
  obtain ⟨p, q, hA0, hV, rfl, hfz, hnd⟩ := hW
  have hA : DataW.TrodAll enc Tryz.prog W 0 (fun _ => true) true Tryz.f3.params.toList args.toList ds p := hA0
  rw [Tryz.params3] at hA hval
  obtain ⟨v0, vs0, d0, ds0, p0, q0, hargs, rfl, rfl, h0, r0⟩ := trodAll_cons hA
  obtain ⟨v1, vs1, d1, ds1, p1, q1, rfl, rfl, rfl, h1, r1⟩ := trodAll_cons r0
  obtain ⟨v2, vs2, d2, ds2, p2, q2, rfl, rfl, rfl, h2, r2⟩ := trodAll_cons r1
  obtain ⟨v3, vs3, d3, ds3, p3, q3, rfl, rfl, rfl, h3, r3⟩ := trodAll_cons r2
  obtain ⟨v4, vs4, d4, ds4, p4, q4, rfl, rfl, rfl, h4, r4⟩ := trodAll_cons r3
  obtain ⟨v5, vs5, d5, ds5, p5, q5, rfl, rfl, rfl, h5, r5⟩ := trodAll_cons r4
  obtain ⟨rfl, rfl, rfl⟩ := trodAll_nil r5
  obtain rfl : args = #[v0, v1, v2, v3, v4, v5] := by cases args; simp_all
  obtain ⟨rfl, rfl⟩ := trodVars_none hV
  have k0 := h0
  have lt0 : ∀ x ∈ p0, x.block < W.heap.size := by obtain ⟨m, hm⟩ := k0; exact DataW.trod_lt m _ _ _ hm
  obtain ⟨u0, xs0, kk0, w0, zs0, rfl, ra0, da0, wk0, rb0, db0⟩ : ∃ (u : Value) (xs : List Nat) (k : Int) (v : Value) (zs : List Nat), v0 = .agg #[u, .int .u64 k, v] ∧ Row .u64 W u xs ∧ Digs 18446744073709551616 xs ∧ (Lit.int .u64 k).wf = true ∧ Row .u64 W v zs ∧ Digs 18446744073709551616 zs := by
    obtain ⟨cs, rfl, _⟩ := okWide_struct Tryz.underlying26 (hval 0 26 v0 rfl rfl)
    obtain ⟨fuel, hf⟩ := h0
    obtain ⟨u, xs, k, v, zs, hc, f1, f2, f3, f4, f5⟩ := open_mod hf
    obtain ⟨cs⟩ := cs
    simp [Value.cells] at hc
    exact ⟨u, xs, k, v, zs, by rw [hc], f1, f2, f3, f4, f5⟩
  have k1 := h1
  have lt1 : ∀ x ∈ p1, x.block < W.heap.size := by obtain ⟨m, hm⟩ := k1; exact DataW.trod_lt m _ _ _ hm
  obtain ⟨u1, xs1, kk1, w1, zs1, rfl, ra1, da1, wk1, rb1, db1⟩ : ∃ (u : Value) (xs : List Nat) (k : Int) (v : Value) (zs : List Nat), v1 = .agg #[u, .int .u64 k, v] ∧ Row .u64 W u xs ∧ Digs 18446744073709551616 xs ∧ (Lit.int .u64 k).wf = true ∧ Row .u64 W v zs ∧ Digs 18446744073709551616 zs := by
    obtain ⟨cs, rfl, _⟩ := okWide_struct Tryz.underlying26 (hval 1 26 v1 rfl rfl)
    obtain ⟨fuel, hf⟩ := h1
    obtain ⟨u, xs, k, v, zs, hc, f1, f2, f3, f4, f5⟩ := open_mod hf
    obtain ⟨cs⟩ := cs
    simp [Value.cells] at hc
    exact ⟨u, xs, k, v, zs, by rw [hc], f1, f2, f3, f4, f5⟩
  obtain ⟨a2, len2, cap2, rfl⟩ := okWide_slice Tryz.underlying23 (hval 2 23 v2 rfl rfl)
  have k2 := h2
  have lt2 : ∀ x ∈ p2, x.block < W.heap.size := by obtain ⟨m, hm⟩ := k2; exact DataW.trod_lt m _ _ _ hm
  obtain ⟨n2, row2, dg2⟩ : ∃ ns : List Nat, Row .u64 W (.slice a2 len2 cap2) ns ∧ Digs 18446744073709551616 ns := by
    obtain ⟨fuel, hf⟩ := h2
    rcases open_ints Tryz.underlying23 Tryz.underlying24 (by kernel_rfl) hf with ⟨hcs, _⟩ | ⟨x, l, c, zs, hcs, _, hl, hm, hz, _, hcell, hwz⟩
    · simp [Value.cells] at hcs
      obtain ⟨rfl, rfl, rfl⟩ := hcs
      exact row_of_ints wf_u64 (zs := []) (.inl ⟨rfl, rfl, rfl, rfl⟩)
    · simp [Value.cells] at hcs
      obtain ⟨rfl, rfl, rfl⟩ := hcs
      exact row_of_ints wf_u64 (.inr ⟨_, rfl, hl, hm, by simpa using hz, hcell, hwz⟩)
  obtain ⟨a3, len3, cap3, rfl⟩ := okWide_slice Tryz.underlying23 (hval 3 23 v3 rfl rfl)
  have k3 := h3
  have lt3 : ∀ x ∈ p3, x.block < W.heap.size := by obtain ⟨m, hm⟩ := k3; exact DataW.trod_lt m _ _ _ hm
  obtain ⟨n3, row3, dg3⟩ : ∃ ns : List Nat, Row .u64 W (.slice a3 len3 cap3) ns ∧ Digs 18446744073709551616 ns := by
    obtain ⟨fuel, hf⟩ := h3
    rcases open_ints Tryz.underlying23 Tryz.underlying24 (by kernel_rfl) hf with ⟨hcs, _⟩ | ⟨x, l, c, zs, hcs, _, hl, hm, hz, _, hcell, hwz⟩
    · simp [Value.cells] at hcs
      obtain ⟨rfl, rfl, rfl⟩ := hcs
      exact row_of_ints wf_u64 (zs := []) (.inl ⟨rfl, rfl, rfl, rfl⟩)
    · simp [Value.cells] at hcs
      obtain ⟨rfl, rfl, rfl⟩ := hcs
      exact row_of_ints wf_u64 (.inr ⟨_, rfl, hl, hm, by simpa using hz, hcell, hwz⟩)
  obtain ⟨a4, len4, cap4, rfl⟩ := okWide_slice Tryz.underlying23 (hval 4 23 v4 rfl rfl)
  have k4 := h4
  have lt4 : ∀ x ∈ p4, x.block < W.heap.size := by obtain ⟨m, hm⟩ := k4; exact DataW.trod_lt m _ _ _ hm
  obtain ⟨n4, row4, dg4⟩ : ∃ ns : List Nat, Row .u64 W (.slice a4 len4 cap4) ns ∧ Digs 18446744073709551616 ns := by
    obtain ⟨fuel, hf⟩ := h4
    rcases open_ints Tryz.underlying23 Tryz.underlying24 (by kernel_rfl) hf with ⟨hcs, _⟩ | ⟨x, l, c, zs, hcs, _, hl, hm, hz, _, hcell, hwz⟩
    · simp [Value.cells] at hcs
      obtain ⟨rfl, rfl, rfl⟩ := hcs
      exact row_of_ints wf_u64 (zs := []) (.inl ⟨rfl, rfl, rfl, rfl⟩)
    · simp [Value.cells] at hcs
      obtain ⟨rfl, rfl, rfl⟩ := hcs
      exact row_of_ints wf_u64 (.inr ⟨_, rfl, hl, hm, by simpa using hz, hcell, hwz⟩)
  obtain ⟨a5, len5, cap5, rfl⟩ := okWide_slice Tryz.underlying23 (hval 5 23 v5 rfl rfl)
  have k5 := h5
  have lt5 : ∀ x ∈ p5, x.block < W.heap.size := by obtain ⟨m, hm⟩ := k5; exact DataW.trod_lt m _ _ _ hm
  obtain ⟨n5, row5, dg5⟩ : ∃ ns : List Nat, Row .u64 W (.slice a5 len5 cap5) ns ∧ Digs 18446744073709551616 ns := by
    obtain ⟨fuel, hf⟩ := h5
    rcases open_ints Tryz.underlying23 Tryz.underlying24 (by kernel_rfl) hf with ⟨hcs, _⟩ | ⟨x, l, c, zs, hcs, _, hl, hm, hz, _, hcell, hwz⟩
    · simp [Value.cells] at hcs
      obtain ⟨rfl, rfl, rfl⟩ := hcs
      exact row_of_ints wf_u64 (zs := []) (.inl ⟨rfl, rfl, rfl, rfl⟩)
    · simp [Value.cells] at hcs
      obtain ⟨rfl, rfl, rfl⟩ := hcs
      exact row_of_ints wf_u64 (.inr ⟨_, rfl, hl, hm, by simpa using hz, hcell, hwz⟩)
  clear hA0 hval0
  refine (walkRingSeen u0 xs0 kk0 w0 zs0 u1 xs1 kk1 w1 zs1 _ n2 _ n3 _ n4 _ n5 W ra0 rb0 ra1 rb1 row2 row3 row4 row5 da0 db0 da1 db1 dg2 dg3 dg4 dg5 wk0 wk1).mono fun e W' ⟨he, bel⟩ => ?_
  subst he
  exact ⟨_, rfl, _, _, _, [], _, [], hW', trodAll_mk1 (shut_bool Tryz.underlying4 _), (trodAll_cons_mk (Below.trod laidOut (by kernel_rfl) (of_decide_eq_true (by kernel_rfl)) k0 bel lt0) (trodAll_cons_mk (Below.trod laidOut (by kernel_rfl) (of_decide_eq_true (by kernel_rfl)) k1 bel lt1) (trodAll_cons_mk (Below.trod laidOut (by kernel_rfl) (of_decide_eq_true (by kernel_rfl)) k2 bel lt2) (trodAll_cons_mk (Below.trod laidOut (by kernel_rfl) (of_decide_eq_true (by kernel_rfl)) k3 bel lt3) (trodAll_cons_mk (Below.trod laidOut (by kernel_rfl) (of_decide_eq_true (by kernel_rfl)) k4 bel lt4) (trodAll_cons_mk (Below.trod laidOut (by kernel_rfl) (of_decide_eq_true (by kernel_rfl)) k5 bel lt5) trodAll_mk0)))))), rfl, bel.frame _, fun h => by cases h⟩

theorem over : Rows.ringSeenRow.holds Tryz.pinned (OpenSpec.ofChange Rows.ringSeenSpec) :=
  OpenClaim.holds_of_wide 3 Tryz.f3 rfl rfl rfl rfl rfl rfl rfl ⟨rfl, rfl, rfl, rfl, rfl⟩ rfl rfl rfl rfl rfl (by kernel_rfl) Tryz.func3 (by kernel_rfl)
    (of_decide_eq_true (by kernel_rfl)) (by unfold Func.isWrapper; first | (rw [if_pos (by decide +kernel)]; kernel_rfl) | (rw [if_neg (by decide +kernel)]; exact ⟨rfl, rfl⟩))
    (fun os started H enc _ => lifted os started H enc)
end Go.Proofs.YtaehphckkmbbnaaGreat.ringSeen

namespace Go.Proofs.YtaehphckkmbbnaaGreat
theorem RingSeen_holds : Rows.RingSeenSaid := ringSeen.over
#print axioms RingSeen_holds
end Go.Proofs.YtaehphckkmbbnaaGreat
