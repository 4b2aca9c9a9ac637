/- The statement MillerRounds returns true for any bytes, any number n and any count k and never panics: the landed test with bases of a script answers as the plain one, with the same bases, the same error and as many bytes left; at most 500 bytes, numbers of up to 6 words or of 131 are asked, counts from 9 to 100 are not; no other condition. -/
import Derived.Test.YtgcbbadakfdcgaaGreatDoorRows
import Derived.Test.YtgcbbadakfdcgaaGreatDoorTie
import Derived.Test.YtgcbbadakfdcgaaGreatDoorCards
import Derived.Test.YtgcbbadakfdcgaaGreatDoorPk1
import Derived.Test.YtgcbbadakfdcgaaGreatDoorPk2
import Derived.Test.YtgcbbadakfdcgaaGreatDoorPk3
import Derived.Test.YtgcbbadakfdcgaaGreatDoorPk4
import Derived.Test.YtgcbbadakfdcgaaGreatDoorPk5
import Derived.Test.YtgcbbadakfdcgaaGreatDoorPk6
import Derived.Test.YtgcbbadakfdcgaaGreatDoorPk7
import Derived.Test.YtgcbbadakfdcgaaGreatDoorPk8
import Derived.Test.YtgcbbadakfdcgaaGreatDoorPk9
import Derived.Test.YtgcbbadakfdcgaaGreatDoorPk10
import Derived.Test.YtgcbbadakfdcgaaGreatDoorPk11
import Derived.Test.YtgcbbadakfdcgaaGreatDoorPk12
import Derived.Test.YtgcbbadakfdcgaaGreatDoorPk13
import Derived.Test.YtgcbbadakfdcgaaGreatDoorPk14
import Derived.Test.YtgcbbadakfdcgaaGreatDoorPk15
import Derived.Test.YtgcbbadakfdcgaaGreatDoorPk16
import Derived.Test.YtgcbbadakfdcgaaGreatDoorPk17
import Derived.Test.YtgcbbadakfdcgaaGreatDoorPk18
import Derived.Test.YtgcbbadakfdcgaaGreatDoorPk19
import Derived.Test.YtgcbbadakfdcgaaGreatDoorPk20
import Derived.Test.YtgcbbadakfdcgaaGreatDoorPk21
import Derived.Test.YtgcbbadakfdcgaaGreatDoorPk22
import Derived.Test.YtgcbbadakfdcgaaGreatDoorPk23
import Derived.Test.YtgcbbadakfdcgaaGreatDoorPk24
import Derived.Test.YtgcbbadakfdcgaaGreatDoorPk25
import Derived.Test.YtgcbbadakfdcgaaGreatDoorPk26
import Derived.Test.YtgcbbadakfdcgaaGreatDoorPk27
import Derived.Test.YtgcbbadakfdcgaaGreatDoorPk28
import Derived.Test.YtgcbbadakfdcgaaGreatDoorPk29
import Derived.Test.YtgcbbadakfdcgaaGreatDoorPk30
import Derived.Test.YtgcbbadakfdcgaaGreatDoorPk31
import Derived.Test.YtgcbbadakfdcgaaGreatDoorPk32
import Derived.Test.YtgcbbadakfdcgaaGreatDoorPk33
import Derived.Test.YtgcbbadakfdcgaaGreatDoorPk34
import Derived.Test.YtgcbbadakfdcgaaGreatDoorPk35
import Derived.Test.YtgcbbadakfdcgaaGreatDoorPk36
import Derived.Test.YtgcbbadakfdcgaaGreatDoorPk37
import Derived.WalkKit
import Derived.ProofKit
import Derived.OpenShut
import Derived.ShutString
import Derived.ChangeOld
import Derived.Below
import Derived.Lay
import Derived.Lib.LaidU8
import Derived.SevenTiedAt
import Derived.Stop.Joined
namespace Go.Proofs.YtgcbbadakfdcgaaGreatDoor.millerRounds
open Go.ChangeShapes Go.WideShapes Go.ChangeAt Go.RowKit
open Go.ChangeMaps (open_string shut_string)
set_option linter.unusedVariables false

theorem own : ownKnob Tryz.prog.godebug = none := by kernel_rfl

theorem laidOut : laidOutB Tryz.prog = true := by kernel_rfl

set_option maxRecDepth 100000 in
/-- What the listed tables give the walk. -/
theorem tab_of {W : World} (h : laidMet Tryz.prog Rows.millerRoundsRow.laid W) : NoTab W := trivial

set_option maxRecDepth 100000 in
theorem lifted (os : Os) (started : os.Started) (H : Type) (enc : TypeId × Value → H) :
    ReturnsInHanded {} Tryz.checked os 3 .any (fun w args => (Rows.millerRoundsSpec.pre enc Tryz.prog Tryz.f3 [] false w args ∧ laidMetH Tryz.prog Rows.millerRoundsRow.laid w) ∧ sizedMet enc Tryz.prog Tryz.f3 (OpenSpec.ofChange Rows.millerRoundsSpec) false w args)
      (Rows.millerRoundsSpec.post enc Tryz.prog Tryz.f3 false true false false) := by
  refine returnsInHanded_of_change_and (C := Tryz.checked) (X := fun w _ => laidMetH Tryz.prog Rows.millerRoundsRow.laid w) (fun _ _ _ hh h => h.of_heap hh) own started (by kernel_rfl) Tryz.func3
    (ChangeSpec.witness_shaped (enc := enc) (C := Tryz.checked) (os := os) (X := fun w _ => laidMetH Tryz.prog Rows.millerRoundsRow.laid w) false (World.laidAll Tryz.prog os Rows.millerRoundsRow.laid) #[.slice none 0 0, .slice none 0 0, .int .i64 0] 8 (World.laidAll_os _ _ _)
      (World.shaped_of_ZipB (by kernel_rfl) (by kernel_rfl)) (by kernel_rfl) (by kernel_rfl) (by kernel_rfl)
      (by rw [MakeChecks.laidMetH_plain _ _ _ (by kernel_rfl)]; exact laidMet_laidAll _ (by kernel_rfl) (by kernel_rfl))) ?_
  intro W base args ds gs before hval0 hW _ _ hL _
  rw [MakeChecks.laidMetH_plain _ _ _ (by kernel_rfl)] at hL
  have hTab := tab_of hL
  have hval : ∀ (j : Nat) t v, Tryz.f3.params[j]? = some t → args[j]? = some v → Value.okWide Tryz.prog W .any base t v := hval0
  have hW' := hW
  obtain ⟨p, q, hA0, hV, rfl, hfz, hnd⟩ := hW
  have hA : DataW.TrodAll enc Tryz.prog W 0 (fun _ => true) true Tryz.f3.params.toList args.toList ds p := hA0
  rw [Tryz.params3] at hA hval
  obtain ⟨v0, vs0, d0, ds0, p0, q0, hargs, rfl, rfl, h0, r0⟩ := trodAll_cons hA
  obtain ⟨v1, vs1, d1, ds1, p1, q1, rfl, rfl, rfl, h1, r1⟩ := trodAll_cons r0
  obtain ⟨v2, vs2, d2, ds2, p2, q2, rfl, rfl, rfl, h2, r2⟩ := trodAll_cons r1
  obtain ⟨rfl, rfl, rfl⟩ := trodAll_nil r2
  obtain rfl : args = #[v0, v1, v2] := by cases args; simp_all
  obtain ⟨rfl, rfl⟩ := trodVars_none hV
  obtain ⟨a0, len0, cap0, rfl⟩ := okWide_slice Tryz.underlying22 (hval 0 22 v0 rfl rfl)
  have k0 := h0
  have lt0 : ∀ x ∈ p0, x.block < W.heap.size := by obtain ⟨m, hm⟩ := k0; exact DataW.trod_lt m _ _ _ hm
  obtain ⟨n0, row0, dg0⟩ : ∃ ns : List Nat, Row .u8 W (.slice a0 len0 cap0) ns ∧ Digs 256 ns := by
    obtain ⟨fuel, hf⟩ := h0
    rcases open_ints Tryz.underlying22 Tryz.underlying5 (by kernel_rfl) hf with ⟨hcs, _⟩ | ⟨x, l, c, zs, hcs, _, hl, hm, hz, _, hcell, hwz⟩
    · simp [Value.cells] at hcs
      obtain ⟨rfl, rfl, rfl⟩ := hcs
      exact row_of_ints wf_u8 (zs := []) (.inl ⟨rfl, rfl, rfl, rfl⟩)
    · simp [Value.cells] at hcs
      obtain ⟨rfl, rfl, rfl⟩ := hcs
      exact row_of_ints wf_u8 (.inr ⟨_, rfl, hl, hm, by simpa using hz, hcell, hwz⟩)
  obtain ⟨a1, len1, cap1, rfl⟩ := okWide_slice Tryz.underlying24 (hval 1 24 v1 rfl rfl)
  have k1 := h1
  have lt1 : ∀ x ∈ p1, x.block < W.heap.size := by obtain ⟨m, hm⟩ := k1; exact DataW.trod_lt m _ _ _ hm
  obtain ⟨n1, row1, dg1⟩ : ∃ ns : List Nat, Row .u64 W (.slice a1 len1 cap1) ns ∧ Digs 18446744073709551616 ns := by
    obtain ⟨fuel, hf⟩ := h1
    rcases open_ints Tryz.underlying24 Tryz.underlying43 (by kernel_rfl) hf with ⟨hcs, _⟩ | ⟨x, l, c, zs, hcs, _, hl, hm, hz, _, hcell, hwz⟩
    · simp [Value.cells] at hcs
      obtain ⟨rfl, rfl, rfl⟩ := hcs
      exact row_of_ints wf_u64 (zs := []) (.inl ⟨rfl, rfl, rfl, rfl⟩)
    · simp [Value.cells] at hcs
      obtain ⟨rfl, rfl, rfl⟩ := hcs
      exact row_of_ints wf_u64 (.inr ⟨_, rfl, hl, hm, by simpa using hz, hcell, hwz⟩)
  obtain ⟨a2, rfl, rfl, rfl, w2⟩ := open_int Tryz.underlying3 (hval 2 3 v2 rfl rfl) h2
  clear hA0 hval0
  refine (walkMillerRounds _ n0 _ n1 a2 W row0 row1 dg0 dg1 w2 hTab).mono fun e W' ⟨he, bel⟩ => ?_
  subst he
  exact ⟨_, rfl, _, _, _, [], _, [], hW', trodAll_mk1 (shut_bool Tryz.underlying4 _), (trodAll_cons_mk (Below.trod laidOut (by kernel_rfl) (of_decide_eq_true (by kernel_rfl)) k0 bel lt0) (trodAll_cons_mk (Below.trod laidOut (by kernel_rfl) (of_decide_eq_true (by kernel_rfl)) k1 bel lt1) (trodAll_cons_mk (shut_int Tryz.underlying3 w2) trodAll_mk0))), rfl, bel.frame _, fun h => by cases h⟩

theorem over : Rows.millerRoundsRow.holds Tryz.pinned (OpenSpec.ofChange Rows.millerRoundsSpec) :=
  OpenClaim.holds_of_wide 3 Tryz.f3 rfl rfl rfl rfl rfl rfl rfl ⟨rfl, rfl, rfl, rfl, rfl⟩ rfl rfl rfl rfl rfl (by kernel_rfl) Tryz.func3 (by kernel_rfl)
    (of_decide_eq_true (by kernel_rfl)) (by unfold Func.isWrapper; first | (rw [if_pos (by decide +kernel)]; kernel_rfl) | (rw [if_neg (by decide +kernel)]; exact ⟨rfl, rfl⟩))
    (fun os started H enc _ => lifted os started H enc)
end Go.Proofs.YtgcbbadakfdcgaaGreatDoor.millerRounds

namespace Go.Proofs.YtgcbbadakfdcgaaGreatDoor
theorem MillerRounds_holds : Rows.MillerRoundsCardSaid :=
  Claim7.holds_tied_plain_at .later [] Rows.millerRoundsCard.laidKinds true Rows.millerRoundsCard.stood.harness true millerRounds.over (fun _ h => by cases h) (by kernel_rfl) (fun _ h => by cases h) millerRounds_row_tie rfl ⟨rfl, rfl⟩ (by kernel_rfl) rfl
    (fun f fn hf hfn => by
      obtain rfl : f = 3 := Option.some.inj (hf.symm.trans (by kernel_rfl))
      obtain rfl : fn = Tryz.f3 := (Option.some.inj (Tryz.func3.symm.trans hfn)).symm
      exact ⟨by kernel_rfl, fun j t ht => by
        rw [Tryz.params3] at ht
        have hm : t ∈ [22, 24, 3] := by simpa using Array.mem_of_getElem? ht
        have hall : ([22, 24, 3].all fun u => !Tryz.prog.wantsStandIn u) = true := by kernel_rfl
        exact (show Tryz.prog.wantsStandIn t = false by simpa using List.all_eq_true.1 hall t hm)⟩)
    (by kernel_rfl)
#print axioms MillerRounds_holds
end Go.Proofs.YtgcbbadakfdcgaaGreatDoor
