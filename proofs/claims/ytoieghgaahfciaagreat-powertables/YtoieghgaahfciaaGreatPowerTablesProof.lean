/- Whatever the modulus and the number: the law PowerTables answers true (the sixteen powers that stand ready are those that the document says, or refused as it says), and its arguments read as they did. -/
import Derived.Test.YtoieghgaahfciaaGreatRows
import Derived.Test.YtoieghgaahfciaaGreatBase1
import Derived.Test.YtoieghgaahfciaaGreatOpenRow
import Derived.Test.YtoieghgaahfciaaGreatOpenMod
import Derived.Test.YtoieghgaahfciaaGreatTra1
import Derived.Test.YtoieghgaahfciaaGreatWor1
import Derived.Test.YtoieghgaahfciaaGreatBase2
import Derived.Test.YtoieghgaahfciaaGreatLim1
import Derived.Test.YtoieghgaahfciaaGreatPro1
import Derived.Test.YtoieghgaahfciaaGreatMonA
import Derived.Test.YtoieghgaahfciaaGreatPowN
import Derived.Test.YtoieghgaahfciaaGreatPro2
import Derived.Test.YtoieghgaahfciaaGreatBase3
import Derived.Test.YtoieghgaahfciaaGreatBase4
import Derived.Test.YtoieghgaahfciaaGreatLim2
import Derived.Test.YtoieghgaahfciaaGreatMonB
import Derived.Test.YtoieghgaahfciaaGreatMon2
import Derived.Test.YtoieghgaahfciaaGreatBigDivMod
import Derived.Test.YtoieghgaahfciaaGreatBigM
import Derived.Test.YtoieghgaahfciaaGreatInv0
import Derived.Test.YtoieghgaahfciaaGreatRef6m
import Derived.Test.YtoieghgaahfciaaGreatMon3
import Derived.Test.YtoieghgaahfciaaGreatLim3
import Derived.Test.YtoieghgaahfciaaGreatWInv
import Derived.Test.YtoieghgaahfciaaGreatMon4
import Derived.Test.YtoieghgaahfciaaGreatMon5
import Derived.Test.YtoieghgaahfciaaGreatPowA
import Derived.Test.YtoieghgaahfciaaGreatPowE
import Derived.Test.YtoieghgaahfciaaGreatL5A
import Derived.Test.YtoieghgaahfciaaGreatRef6D
import Derived.Test.YtoieghgaahfciaaGreatRef6E
import Derived.Test.YtoieghgaahfciaaGreatRef6o
import Derived.Test.YtoieghgaahfciaaGreatLaw6
import Derived.Test.YtoieghgaahfciaaGreatPowF
import Derived.Test.YtoieghgaahfciaaGreatPowG
import Derived.Test.YtoieghgaahfciaaGreatPowH
import Derived.Test.YtoieghgaahfciaaGreatPowI
import Derived.Test.YtoieghgaahfciaaGreatSeq1
import Derived.Test.YtoieghgaahfciaaGreatPowR
import Derived.Test.YtoieghgaahfciaaGreatPowB
import Derived.Test.YtoieghgaahfciaaGreatWin1
import Derived.Test.YtoieghgaahfciaaGreatLimP
import Derived.Test.YtoieghgaahfciaaGreatPowC
import Derived.Test.YtoieghgaahfciaaGreatPowD
import Derived.Test.YtoieghgaahfciaaGreatPowJ
import Derived.Test.YtoieghgaahfciaaGreatPowK
import Derived.Test.YtoieghgaahfciaaGreatRef7A
import Derived.Test.YtoieghgaahfciaaGreatRef7B
import Derived.Test.YtoieghgaahfciaaGreatRef8A
import Derived.Test.YtoieghgaahfciaaGreatGro1
import Derived.Test.YtoieghgaahfciaaGreatRef8B
import Derived.Test.YtoieghgaahfciaaGreatLaw8
import Derived.Test.YtoieghgaahfciaaGreatLPowTables
import Derived.WalkKit
import Derived.ProofKit
import Derived.OpenShut
import Derived.ShutString
import Derived.ChangeOld
import Derived.Below
namespace Go.Proofs.YtoieghgaahfciaaGreat.powerTables
open Go.ChangeShapes Go.WideShapes Go.ChangeAt Go.RowKit
open Go.ChangeMaps (open_string shut_string)
set_option linter.unusedVariables false

theorem own : ownKnob Tryz.prog.godebug = none := by kernel_rfl

theorem laidOut : laidOutB Tryz.prog = true := by kernel_rfl

set_option maxRecDepth 100000 in
theorem lifted (os : Os) (started : os.Started) (H : Type) (enc : TypeId × Value → H) :
    ReturnsInHanded {} Tryz.checked os 4 .any (Rows.powerTablesSpec.pre6 enc Tryz.prog Tryz.f4 Rows.powerTablesRow.domain false) (Rows.powerTablesSpec.post enc Tryz.prog Tryz.f4 false true false false) := by
  refine returnsInHanded_of_change (C := Tryz.checked) own started (by kernel_rfl) Tryz.func4
    (ChangeSpec.witness6 (enc := enc) (C := Tryz.checked) false ⟨#[], #[.agg #[.slice none 0 0, .int .u64 0, .slice none 0 0], .slice none 0 0], []⟩ 4 (by kernel_rfl) (by kernel_rfl) (by kernel_rfl) (by kernel_rfl)) ?_
  intro W base args ds gs before hval0 hW hcnd _
  have hval : ∀ (j : Nat) t v, Tryz.f4.params[j]? = some t → args[j]? = some v → Value.okWide Tryz.prog W .any base t v := hval0
  have hW' := hW
  obtain ⟨p, q, hA0, hV, rfl, hfz, hnd⟩ := hW
  have hA : DataW.TrodAll enc Tryz.prog W 0 (fun _ => true) true Tryz.f4.params.toList args.toList ds p := hA0
  rw [Tryz.params4] at hA hval
  obtain ⟨v0, vs0, d0, ds0, p0, q0, hargs, rfl, rfl, h0, r0⟩ := trodAll_cons hA
  obtain ⟨v1, vs1, d1, ds1, p1, q1, rfl, rfl, rfl, h1, r1⟩ := trodAll_cons r0
  obtain ⟨rfl, rfl, rfl⟩ := trodAll_nil r1
  obtain rfl : args = #[v0, v1] := by cases args; simp_all
  obtain ⟨rfl, rfl⟩ := trodVars_none hV
  have k0 := h0
  have lt0 : ∀ x ∈ p0, x.block < W.heap.size := by obtain ⟨m, hm⟩ := k0; exact DataW.trod_lt m _ _ _ hm
  obtain ⟨u0, xs0, kk0, w0, zs0, rfl, ra0, da0, wk0, rb0, db0⟩ : ∃ (u : Value) (xs : List Nat) (k : Int) (v : Value) (zs : List Nat), v0 = .agg #[u, .int .u64 k, v] ∧ Row .u64 W u xs ∧ Digs 18446744073709551616 xs ∧ (Lit.int .u64 k).wf = true ∧ Row .u64 W v zs ∧ Digs 18446744073709551616 zs := by
    obtain ⟨cs, rfl, _⟩ := okWide_struct Tryz.underlying26 (hval 0 26 v0 rfl rfl)
    obtain ⟨fuel, hf⟩ := h0
    obtain ⟨u, xs, k, v, zs, hc, f1, f2, f3, f4, f5⟩ := open_mod hf
    obtain ⟨cs⟩ := cs
    simp [Value.cells] at hc
    exact ⟨u, xs, k, v, zs, by rw [hc], f1, f2, f3, f4, f5⟩
  obtain ⟨a1, len1, cap1, rfl⟩ := okWide_slice Tryz.underlying23 (hval 1 23 v1 rfl rfl)
  have k1 := h1
  have lt1 : ∀ x ∈ p1, x.block < W.heap.size := by obtain ⟨m, hm⟩ := k1; exact DataW.trod_lt m _ _ _ hm
  obtain ⟨n1, row1, dg1⟩ : ∃ ns : List Nat, Row .u64 W (.slice a1 len1 cap1) ns ∧ Digs 18446744073709551616 ns := by
    obtain ⟨fuel, hf⟩ := h1
    rcases open_ints Tryz.underlying23 Tryz.underlying24 (by kernel_rfl) hf with ⟨hcs, _⟩ | ⟨x, l, c, zs, hcs, _, hl, hm, hz, _, hcell, hwz⟩
    · simp [Value.cells] at hcs
      obtain ⟨rfl, rfl, rfl⟩ := hcs
      exact row_of_ints wf_u64 (zs := []) (.inl ⟨rfl, rfl, rfl, rfl⟩)
    · simp [Value.cells] at hcs
      obtain ⟨rfl, rfl, rfl⟩ := hcs
      exact row_of_ints wf_u64 (.inr ⟨_, rfl, hl, hm, by simpa using hz, hcell, hwz⟩)
  clear hA0 hval0
  refine (walkPowerTables u0 xs0 kk0 w0 zs0 _ n1 W ra0 rb0 row1 da0 db0 dg1 wk0).mono fun e W' ⟨he, bel⟩ => ?_
  subst he
  exact ⟨_, rfl, _, _, _, [], _, [], hW', trodAll_mk1 (shut_bool Tryz.underlying4 _), (trodAll_cons_mk (Below.trod laidOut (by kernel_rfl) (of_decide_eq_true (by kernel_rfl)) k0 bel lt0) (trodAll_cons_mk (Below.trod laidOut (by kernel_rfl) (of_decide_eq_true (by kernel_rfl)) k1 bel lt1) trodAll_mk0)), rfl, bel.frame _, fun h => by cases h⟩

theorem over : Rows.powerTablesRow.holds Tryz.pinned (OpenSpec.ofChange Rows.powerTablesSpec) :=
  OpenClaim.holds_of_wide 4 Tryz.f4 rfl rfl rfl rfl rfl rfl rfl ⟨rfl, rfl, rfl, rfl, rfl⟩ rfl rfl rfl rfl rfl (by kernel_rfl) Tryz.func4 (by kernel_rfl)
    (of_decide_eq_true (by kernel_rfl)) (by unfold Func.isWrapper; first | (rw [if_pos (by decide +kernel)]; kernel_rfl) | (rw [if_neg (by decide +kernel)]; exact ⟨rfl, rfl⟩))
    (fun os started H enc _ => lifted os started H enc)
end Go.Proofs.YtoieghgaahfciaaGreat.powerTables

namespace Go.Proofs.YtoieghgaahfciaaGreat
theorem PowerTables_holds : Rows.PowerTablesSaid := powerTables.over
#print axioms PowerTables_holds
end Go.Proofs.YtoieghgaahfciaaGreat
