/- Whatever the two moduli, numbers and exponents of like lengths: the law PowerSeen answers true (what a power and a table write down hangs on the lengths of modulus and exponent alone), and its arguments read as they did. -/
import Derived.Test.YtoieghgaahfciaaGreatRows
import Derived.Test.YtoieghgaahfciaaGreatBase1
import Derived.Test.YtoieghgaahfciaaGreatOpenRow
import Derived.Test.YtoieghgaahfciaaGreatOpenMod
import Derived.Test.YtoieghgaahfciaaGreatTra1
import Derived.Test.YtoieghgaahfciaaGreatWor1
import Derived.Test.YtoieghgaahfciaaGreatBase2
import Derived.Test.YtoieghgaahfciaaGreatLim1
import Derived.Test.YtoieghgaahfciaaGreatPro1
import Derived.Test.YtoieghgaahfciaaGreatMonA
import Derived.Test.YtoieghgaahfciaaGreatPowN
import Derived.Test.YtoieghgaahfciaaGreatPro2
import Derived.Test.YtoieghgaahfciaaGreatBase3
import Derived.Test.YtoieghgaahfciaaGreatBase4
import Derived.Test.YtoieghgaahfciaaGreatLim2
import Derived.Test.YtoieghgaahfciaaGreatMonB
import Derived.Test.YtoieghgaahfciaaGreatMon2
import Derived.Test.YtoieghgaahfciaaGreatBigDivMod
import Derived.Test.YtoieghgaahfciaaGreatBigM
import Derived.Test.YtoieghgaahfciaaGreatInv0
import Derived.Test.YtoieghgaahfciaaGreatRef6m
import Derived.Test.YtoieghgaahfciaaGreatMon3
import Derived.Test.YtoieghgaahfciaaGreatLim3
import Derived.Test.YtoieghgaahfciaaGreatWInv
import Derived.Test.YtoieghgaahfciaaGreatMon4
import Derived.Test.YtoieghgaahfciaaGreatMon5
import Derived.Test.YtoieghgaahfciaaGreatPowA
import Derived.Test.YtoieghgaahfciaaGreatPowE
import Derived.Test.YtoieghgaahfciaaGreatL5A
import Derived.Test.YtoieghgaahfciaaGreatRef6D
import Derived.Test.YtoieghgaahfciaaGreatRef6E
import Derived.Test.YtoieghgaahfciaaGreatRef6o
import Derived.Test.YtoieghgaahfciaaGreatLaw6
import Derived.Test.YtoieghgaahfciaaGreatPowF
import Derived.Test.YtoieghgaahfciaaGreatPowG
import Derived.Test.YtoieghgaahfciaaGreatPowH
import Derived.Test.YtoieghgaahfciaaGreatPowI
import Derived.Test.YtoieghgaahfciaaGreatSeq1
import Derived.Test.YtoieghgaahfciaaGreatPowR
import Derived.Test.YtoieghgaahfciaaGreatPowB
import Derived.Test.YtoieghgaahfciaaGreatWin1
import Derived.Test.YtoieghgaahfciaaGreatLimP
import Derived.Test.YtoieghgaahfciaaGreatPowC
import Derived.Test.YtoieghgaahfciaaGreatPowD
import Derived.Test.YtoieghgaahfciaaGreatPowJ
import Derived.Test.YtoieghgaahfciaaGreatPowK
import Derived.Test.YtoieghgaahfciaaGreatRef7A
import Derived.Test.YtoieghgaahfciaaGreatRef7B
import Derived.Test.YtoieghgaahfciaaGreatRef8A
import Derived.Test.YtoieghgaahfciaaGreatGro1
import Derived.Test.YtoieghgaahfciaaGreatRef8B
import Derived.Test.YtoieghgaahfciaaGreatLaw8
import Derived.Test.YtoieghgaahfciaaGreatTra2
import Derived.Test.YtoieghgaahfciaaGreatL6D
import Derived.Test.YtoieghgaahfciaaGreatLPowSeen
import Derived.WalkKit
import Derived.ProofKit
import Derived.OpenShut
import Derived.ShutString
import Derived.ChangeOld
import Derived.Below
namespace Go.Proofs.YtoieghgaahfciaaGreat.powerSeen
open Go.ChangeShapes Go.WideShapes Go.ChangeAt Go.RowKit
open Go.ChangeMaps (open_string shut_string)
set_option linter.unusedVariables false

theorem own : ownKnob Tryz.prog.godebug = none := by kernel_rfl

theorem laidOut : laidOutB Tryz.prog = true := by kernel_rfl

set_option maxRecDepth 100000 in
theorem lifted (os : Os) (started : os.Started) (H : Type) (enc : TypeId × Value → H) :
    ReturnsInHanded {} Tryz.checked os 6 .any (Rows.powerSeenSpec.pre6 enc Tryz.prog Tryz.f6 Rows.powerSeenRow.domain false) (Rows.powerSeenSpec.post enc Tryz.prog Tryz.f6 false true false false) := by
  refine returnsInHanded_of_change (C := Tryz.checked) own started (by kernel_rfl) Tryz.func6
    (ChangeSpec.witness6 (enc := enc) (C := Tryz.checked) false ⟨#[], #[.agg #[.slice none 0 0, .int .u64 0, .slice none 0 0], .agg #[.slice none 0 0, .int .u64 0, .slice none 0 0], .slice none 0 0, .slice none 0 0, .slice none 0 0, .slice none 0 0], []⟩ 6 (by kernel_rfl) (by kernel_rfl) (by kernel_rfl) (by kernel_rfl)) ?_
  intro W base args ds gs before hval0 hW hcnd _
  have hval : ∀ (j : Nat) t v, Tryz.f6.params[j]? = some t → args[j]? = some v → Value.okWide Tryz.prog W .any base t v := hval0
  have hW' := hW
  obtain ⟨p, q, hA0, hV, rfl, hfz, hnd⟩ := hW
  have hA : DataW.TrodAll enc Tryz.prog W 0 (fun _ => true) true Tryz.f6.params.toList args.toList ds p := hA0
  rw [Tryz.params6] at hA hval
  obtain ⟨v0, vs0, d0, ds0, p0, q0, hargs, rfl, rfl, h0, r0⟩ := trodAll_cons hA
  obtain ⟨v1, vs1, d1, ds1, p1, q1, rfl, rfl, rfl, h1, r1⟩ := trodAll_cons r0
  obtain ⟨v2, vs2, d2, ds2, p2, q2, rfl, rfl, rfl, h2, r2⟩ := trodAll_cons r1
  obtain ⟨v3, vs3, d3, ds3, p3, q3, rfl, rfl, rfl, h3, r3⟩ := trodAll_cons r2
  obtain ⟨v4, vs4, d4, ds4, p4, q4, rfl, rfl, rfl, h4, r4⟩ := trodAll_cons r3
  obtain ⟨v5, vs5, d5, ds5, p5, q5, rfl, rfl, rfl, h5, r5⟩ := trodAll_cons r4
  obtain ⟨rfl, rfl, rfl⟩ := trodAll_nil r5
  obtain rfl : args = #[v0, v1, v2, v3, v4, v5] := by cases args; simp_all
  obtain ⟨rfl, rfl⟩ := trodVars_none hV
  have k0 := h0
  have lt0 : ∀ x ∈ p0, x.block < W.heap.size := by obtain ⟨m, hm⟩ := k0; exact DataW.trod_lt m _ _ _ hm
  obtain ⟨u0, xs0, kk0, w0, zs0, rfl, ra0, da0, wk0, rb0, db0⟩ : ∃ (u : Value) (xs : List Nat) (k : Int) (v : Value) (zs : List Nat), v0 = .agg #[u, .int .u64 k, v] ∧ Row .u64 W u xs ∧ Digs 18446744073709551616 xs ∧ (Lit.int .u64 k).wf = true ∧ Row .u64 W v zs ∧ Digs 18446744073709551616 zs := by
    obtain ⟨cs, rfl, _⟩ := okWide_struct Tryz.underlying26 (hval 0 26 v0 rfl rfl)
    obtain ⟨fuel, hf⟩ := h0
    obtain ⟨u, xs, k, v, zs, hc, f1, f2, f3, f4, f5⟩ := open_mod hf
    obtain ⟨cs⟩ := cs
    simp [Value.cells] at hc
    exact ⟨u, xs, k, v, zs, by rw [hc], f1, f2, f3, f4, f5⟩
  have k1 := h1
  have lt1 : ∀ x ∈ p1, x.block < W.heap.size := by obtain ⟨m, hm⟩ := k1; exact DataW.trod_lt m _ _ _ hm
  obtain ⟨u1, xs1, kk1, w1, zs1, rfl, ra1, da1, wk1, rb1, db1⟩ : ∃ (u : Value) (xs : List Nat) (k : Int) (v : Value) (zs : List Nat), v1 = .agg #[u, .int .u64 k, v] ∧ Row .u64 W u xs ∧ Digs 18446744073709551616 xs ∧ (Lit.int .u64 k).wf = true ∧ Row .u64 W v zs ∧ Digs 18446744073709551616 zs := by
    obtain ⟨cs, rfl, _⟩ := okWide_struct Tryz.underlying26 (hval 1 26 v1 rfl rfl)
    obtain ⟨fuel, hf⟩ := h1
    obtain ⟨u, xs, k, v, zs, hc, f1, f2, f3, f4, f5⟩ := open_mod hf
    obtain ⟨cs⟩ := cs
    simp [Value.cells] at hc
    exact ⟨u, xs, k, v, zs, by rw [hc], f1, f2, f3, f4, f5⟩
  obtain ⟨a2, len2, cap2, rfl⟩ := okWide_slice Tryz.underlying23 (hval 2 23 v2 rfl rfl)
  have k2 := h2
  have lt2 : ∀ x ∈ p2, x.block < W.heap.size := by obtain ⟨m, hm⟩ := k2; exact DataW.trod_lt m _ _ _ hm
  obtain ⟨n2, row2, dg2⟩ : ∃ ns : List Nat, Row .u64 W (.slice a2 len2 cap2) ns ∧ Digs 18446744073709551616 ns := by
    obtain ⟨fuel, hf⟩ := h2
    rcases open_ints Tryz.underlying23 Tryz.underlying24 (by kernel_rfl) hf with ⟨hcs, _⟩ | ⟨x, l, c, zs, hcs, _, hl, hm, hz, _, hcell, hwz⟩
    · simp [Value.cells] at hcs
      obtain ⟨rfl, rfl, rfl⟩ := hcs
      exact row_of_ints wf_u64 (zs := []) (.inl ⟨rfl, rfl, rfl, rfl⟩)
    · simp [Value.cells] at hcs
      obtain ⟨rfl, rfl, rfl⟩ := hcs
      exact row_of_ints wf_u64 (.inr ⟨_, rfl, hl, hm, by simpa using hz, hcell, hwz⟩)
  obtain ⟨a3, len3, cap3, rfl⟩ := okWide_slice Tryz.underlying23 (hval 3 23 v3 rfl rfl)
  have k3 := h3
  have lt3 : ∀ x ∈ p3, x.block < W.heap.size := by obtain ⟨m, hm⟩ := k3; exact DataW.trod_lt m _ _ _ hm
  obtain ⟨n3, row3, dg3⟩ : ∃ ns : List Nat, Row .u64 W (.slice a3 len3 cap3) ns ∧ Digs 18446744073709551616 ns := by
    obtain ⟨fuel, hf⟩ := h3
    rcases open_ints Tryz.underlying23 Tryz.underlying24 (by kernel_rfl) hf with ⟨hcs, _⟩ | ⟨x, l, c, zs, hcs, _, hl, hm, hz, _, hcell, hwz⟩
    · simp [Value.cells] at hcs
      obtain ⟨rfl, rfl, rfl⟩ := hcs
      exact row_of_ints wf_u64 (zs := []) (.inl ⟨rfl, rfl, rfl, rfl⟩)
    · simp [Value.cells] at hcs
      obtain ⟨rfl, rfl, rfl⟩ := hcs
      exact row_of_ints wf_u64 (.inr ⟨_, rfl, hl, hm, by simpa using hz, hcell, hwz⟩)
  obtain ⟨a4, len4, cap4, rfl⟩ := okWide_slice Tryz.underlying23 (hval 4 23 v4 rfl rfl)
  have k4 := h4
  have lt4 : ∀ x ∈ p4, x.block < W.heap.size := by obtain ⟨m, hm⟩ := k4; exact DataW.trod_lt m _ _ _ hm
  obtain ⟨n4, row4, dg4⟩ : ∃ ns : List Nat, Row .u64 W (.slice a4 len4 cap4) ns ∧ Digs 18446744073709551616 ns := by
    obtain ⟨fuel, hf⟩ := h4
    rcases open_ints Tryz.underlying23 Tryz.underlying24 (by kernel_rfl) hf with ⟨hcs, _⟩ | ⟨x, l, c, zs, hcs, _, hl, hm, hz, _, hcell, hwz⟩
    · simp [Value.cells] at hcs
      obtain ⟨rfl, rfl, rfl⟩ := hcs
      exact row_of_ints wf_u64 (zs := []) (.inl ⟨rfl, rfl, rfl, rfl⟩)
    · simp [Value.cells] at hcs
      obtain ⟨rfl, rfl, rfl⟩ := hcs
      exact row_of_ints wf_u64 (.inr ⟨_, rfl, hl, hm, by simpa using hz, hcell, hwz⟩)
  obtain ⟨a5, len5, cap5, rfl⟩ := okWide_slice Tryz.underlying23 (hval 5 23 v5 rfl rfl)
  have k5 := h5
  have lt5 : ∀ x ∈ p5, x.block < W.heap.size := by obtain ⟨m, hm⟩ := k5; exact DataW.trod_lt m _ _ _ hm
  obtain ⟨n5, row5, dg5⟩ : ∃ ns : List Nat, Row .u64 W (.slice a5 len5 cap5) ns ∧ Digs 18446744073709551616 ns := by
    obtain ⟨fuel, hf⟩ := h5
    rcases open_ints Tryz.underlying23 Tryz.underlying24 (by kernel_rfl) hf with ⟨hcs, _⟩ | ⟨x, l, c, zs, hcs, _, hl, hm, hz, _, hcell, hwz⟩
    · simp [Value.cells] at hcs
      obtain ⟨rfl, rfl, rfl⟩ := hcs
      exact row_of_ints wf_u64 (zs := []) (.inl ⟨rfl, rfl, rfl, rfl⟩)
    · simp [Value.cells] at hcs
      obtain ⟨rfl, rfl, rfl⟩ := hcs
      exact row_of_ints wf_u64 (.inr ⟨_, rfl, hl, hm, by simpa using hz, hcell, hwz⟩)
  clear hA0 hval0
  refine (walkPowerSeen u0 xs0 kk0 w0 zs0 u1 xs1 kk1 w1 zs1 _ n2 _ n3 _ n4 _ n5 W ra0 rb0 ra1 rb1 row2 row3 row4 row5 da0 db0 da1 db1 dg2 dg3 dg4 dg5 wk0 wk1).mono fun e W' ⟨he, bel⟩ => ?_
  subst he
  exact ⟨_, rfl, _, _, _, [], _, [], hW', trodAll_mk1 (shut_bool Tryz.underlying4 _), (trodAll_cons_mk (Below.trod laidOut (by kernel_rfl) (of_decide_eq_true (by kernel_rfl)) k0 bel lt0) (trodAll_cons_mk (Below.trod laidOut (by kernel_rfl) (of_decide_eq_true (by kernel_rfl)) k1 bel lt1) (trodAll_cons_mk (Below.trod laidOut (by kernel_rfl) (of_decide_eq_true (by kernel_rfl)) k2 bel lt2) (trodAll_cons_mk (Below.trod laidOut (by kernel_rfl) (of_decide_eq_true (by kernel_rfl)) k3 bel lt3) (trodAll_cons_mk (Below.trod laidOut (by kernel_rfl) (of_decide_eq_true (by kernel_rfl)) k4 bel lt4) (trodAll_cons_mk (Below.trod laidOut (by kernel_rfl) (of_decide_eq_true (by kernel_rfl)) k5 bel lt5) trodAll_mk0)))))), rfl, bel.frame _, fun h => by cases h⟩

theorem over : Rows.powerSeenRow.holds Tryz.pinned (OpenSpec.ofChange Rows.powerSeenSpec) :=
  OpenClaim.holds_of_wide 6 Tryz.f6 rfl rfl rfl rfl rfl rfl rfl ⟨rfl, rfl, rfl, rfl, rfl⟩ rfl rfl rfl rfl rfl (by kernel_rfl) Tryz.func6 (by kernel_rfl)
    (of_decide_eq_true (by kernel_rfl)) (by unfold Func.isWrapper; first | (rw [if_pos (by decide +kernel)]; kernel_rfl) | (rw [if_neg (by decide +kernel)]; exact ⟨rfl, rfl⟩))
    (fun os started H enc _ => lifted os started H enc)
end Go.Proofs.YtoieghgaahfciaaGreat.powerSeen

namespace Go.Proofs.YtoieghgaahfciaaGreat
theorem PowerSeen_holds : Rows.PowerSeenSaid := powerSeen.over
#print axioms PowerSeen_holds
end Go.Proofs.YtoieghgaahfciaaGreat
