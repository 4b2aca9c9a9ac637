/- What blinds, and how many draws it takes, is what the plain side says, with a tied card of the listed tables. -/
import Derived.Test.YtkaojflnghfmcaaGreatDoorRows
import Derived.Test.YtkaojflnghfmcaaGreatDoorTie
import Derived.Test.YtkaojflnghfmcaaGreatDoorCards
import Derived.Test.YtkaojflnghfmcaaGreatDoorQA1
import Derived.Test.YtkaojflnghfmcaaGreatDoorQA2
import Derived.Test.YtkaojflnghfmcaaGreatDoorQA3
import Derived.Test.YtkaojflnghfmcaaGreatDoorQA4
import Derived.Test.YtkaojflnghfmcaaGreatDoorQA5
import Derived.Test.YtkaojflnghfmcaaGreatDoorQA6
import Derived.Test.YtkaojflnghfmcaaGreatDoorQA7
import Derived.Test.YtkaojflnghfmcaaGreatDoorQA8
import Derived.Test.YtkaojflnghfmcaaGreatDoorQA9
import Derived.Test.YtkaojflnghfmcaaGreatDoorQA10
import Derived.Test.YtkaojflnghfmcaaGreatDoorQA11
import Derived.Test.YtkaojflnghfmcaaGreatDoorQA12
import Derived.Test.YtkaojflnghfmcaaGreatDoorQA13
import Derived.Test.YtkaojflnghfmcaaGreatDoorQA14
import Derived.Test.YtkaojflnghfmcaaGreatDoorQA15
import Derived.Test.YtkaojflnghfmcaaGreatDoorQA16
import Derived.Test.YtkaojflnghfmcaaGreatDoorQA17
import Derived.Test.YtkaojflnghfmcaaGreatDoorQA18
import Derived.Test.YtkaojflnghfmcaaGreatDoorQA19
import Derived.Test.YtkaojflnghfmcaaGreatDoorQA20
import Derived.Test.YtkaojflnghfmcaaGreatDoorQA21
import Derived.Test.YtkaojflnghfmcaaGreatDoorQA22
import Derived.Test.YtkaojflnghfmcaaGreatDoorQA23
import Derived.Test.YtkaojflnghfmcaaGreatDoorQA24
import Derived.Test.YtkaojflnghfmcaaGreatDoorQA25
import Derived.Test.YtkaojflnghfmcaaGreatDoorQA26
import Derived.Test.YtkaojflnghfmcaaGreatDoorQA27
import Derived.Test.YtkaojflnghfmcaaGreatDoorQA28
import Derived.Test.YtkaojflnghfmcaaGreatDoorQA29
import Derived.Test.YtkaojflnghfmcaaGreatDoorQA30
import Derived.Test.YtkaojflnghfmcaaGreatDoorQA31
import Derived.Test.YtkaojflnghfmcaaGreatDoorQA32
import Derived.Test.YtkaojflnghfmcaaGreatDoorQA33
import Derived.WalkKit
import Derived.ProofKit
import Derived.OpenShut
import Derived.ShutString
import Derived.ChangeOld
import Derived.Below
import Derived.Lay
import Derived.Lib.LaidU8
import Derived.SevenTiedAt
import Derived.Stop.Joined
namespace Go.Proofs.YtkaojflnghfmcaaGreatDoor.privateBlinds
open Go.ChangeShapes Go.WideShapes Go.ChangeAt Go.RowKit
open Go.ChangeMaps (open_string shut_string)
set_option linter.unusedVariables false

theorem own : ownKnob Tryz.prog.godebug = none := by kernel_rfl

theorem laidOut : laidOutB Tryz.prog = true := by kernel_rfl

set_option maxRecDepth 100000 in
/-- What the listed tables give the walk. -/
theorem tab_of {W : World} (h : laidMet Tryz.prog Rows.privateBlindsRow.laid W) : NoTab W := trivial

set_option maxRecDepth 100000 in
theorem lifted (os : Os) (started : os.Started) (H : Type) (enc : TypeId × Value → H) :
    ReturnsInHanded {} Tryz.checked os 4 .any (fun w args => (Rows.privateBlindsSpec.pre enc Tryz.prog Tryz.f4 [] false w args ∧ laidMetH Tryz.prog Rows.privateBlindsRow.laid w) ∧ sizedMet enc Tryz.prog Tryz.f4 (OpenSpec.ofChange Rows.privateBlindsSpec) false w args)
      (Rows.privateBlindsSpec.post enc Tryz.prog Tryz.f4 false true false false) := by
  refine returnsInHanded_of_change_and (C := Tryz.checked) (X := fun w _ => laidMetH Tryz.prog Rows.privateBlindsRow.laid w) (fun _ _ _ hh h => h.of_heap hh) own started (by kernel_rfl) Tryz.func4
    (ChangeSpec.witness_shaped (enc := enc) (C := Tryz.checked) (os := os) (X := fun w _ => laidMetH Tryz.prog Rows.privateBlindsRow.laid w) false (World.laidAll Tryz.prog os Rows.privateBlindsRow.laid) #[.slice none 0 0, .slice none 0 0] 8 (World.laidAll_os _ _ _)
      (World.shaped_of_ZipB (by kernel_rfl) (by kernel_rfl)) (by kernel_rfl) (by kernel_rfl) (by kernel_rfl)
      (by rw [MakeChecks.laidMetH_plain _ _ _ (by kernel_rfl)]; exact laidMet_laidAll _ (by kernel_rfl) (by kernel_rfl))) ?_
  intro W base args ds gs before hval0 hW _ _ hL _
  rw [MakeChecks.laidMetH_plain _ _ _ (by kernel_rfl)] at hL
  have hTab := tab_of hL
  have hval : ∀ (j : Nat) t v, Tryz.f4.params[j]? = some t → args[j]? = some v → Value.okWide Tryz.prog W .any base t v := hval0
  have hW' := hW
  obtain ⟨p, q, hA0, hV, rfl, hfz, hnd⟩ := hW
  have hA : DataW.TrodAll enc Tryz.prog W 0 (fun _ => true) true Tryz.f4.params.toList args.toList ds p := hA0
  rw [Tryz.params4] at hA hval
  obtain ⟨v0, vs0, d0, ds0, p0, q0, hargs, rfl, rfl, h0, r0⟩ := trodAll_cons hA
  obtain ⟨v1, vs1, d1, ds1, p1, q1, rfl, rfl, rfl, h1, r1⟩ := trodAll_cons r0
  obtain ⟨rfl, rfl, rfl⟩ := trodAll_nil r1
  obtain rfl : args = #[v0, v1] := by cases args; simp_all
  obtain ⟨rfl, rfl⟩ := trodVars_none hV
  obtain ⟨a0, len0, cap0, rfl⟩ := okWide_slice Tryz.underlying27 (hval 0 27 v0 rfl rfl)
  have k0 := h0
  have lt0 : ∀ x ∈ p0, x.block < W.heap.size := by obtain ⟨m, hm⟩ := k0; exact DataW.trod_lt m _ _ _ hm
  obtain ⟨n0, row0, dg0⟩ : ∃ ns : List Nat, Row .u8 W (.slice a0 len0 cap0) ns ∧ Digs ns 256 := by
    obtain ⟨fuel, hf⟩ := h0
    rcases open_ints Tryz.underlying27 Tryz.underlying5 (by kernel_rfl) hf with ⟨hcs, _⟩ | ⟨x, l, c, zs, hcs, _, hl, hm, hz, _, hcell, hwz⟩
    · simp [Value.cells] at hcs
      obtain ⟨rfl, rfl, rfl⟩ := hcs
      exact row_of_ints wf_u8 (zs := []) (.inl ⟨rfl, rfl, rfl, rfl⟩)
    · simp [Value.cells] at hcs
      obtain ⟨rfl, rfl, rfl⟩ := hcs
      exact row_of_ints wf_u8 (.inr ⟨_, rfl, hl, hm, by simpa using hz, hcell, hwz⟩)
  obtain ⟨a1, len1, cap1, rfl⟩ := okWide_slice Tryz.underlying23 (hval 1 23 v1 rfl rfl)
  have k1 := h1
  have lt1 : ∀ x ∈ p1, x.block < W.heap.size := by obtain ⟨m, hm⟩ := k1; exact DataW.trod_lt m _ _ _ hm
  obtain ⟨n1, row1, dg1⟩ : ∃ ns : List Nat, Row .u64 W (.slice a1 len1 cap1) ns ∧ Digs ns := by
    obtain ⟨fuel, hf⟩ := h1
    rcases open_ints Tryz.underlying23 Tryz.underlying24 (by kernel_rfl) hf with ⟨hcs, _⟩ | ⟨x, l, c, zs, hcs, _, hl, hm, hz, _, hcell, hwz⟩
    · simp [Value.cells] at hcs
      obtain ⟨rfl, rfl, rfl⟩ := hcs
      exact row_of_ints wf_u64 (zs := []) (.inl ⟨rfl, rfl, rfl, rfl⟩)
    · simp [Value.cells] at hcs
      obtain ⟨rfl, rfl, rfl⟩ := hcs
      exact row_of_ints wf_u64 (.inr ⟨_, rfl, hl, hm, by simpa using hz, hcell, hwz⟩)
  clear hA0 hval0
  refine (walkPrivateBlinds _ n0 _ n1 W row0 row1 dg0 dg1 hTab).mono fun e W' ⟨he, bel⟩ => ?_
  subst he
  exact ⟨_, rfl, _, _, _, [], _, [], hW', trodAll_mk1 (shut_bool Tryz.underlying4 _), (trodAll_cons_mk (Below.trod laidOut (by kernel_rfl) (of_decide_eq_true (by kernel_rfl)) k0 bel lt0) (trodAll_cons_mk (Below.trod laidOut (by kernel_rfl) (of_decide_eq_true (by kernel_rfl)) k1 bel lt1) trodAll_mk0)), rfl, bel.frame _, fun h => by cases h⟩

theorem over : Rows.privateBlindsRow.holds Tryz.pinned (OpenSpec.ofChange Rows.privateBlindsSpec) :=
  OpenClaim.holds_of_wide 4 Tryz.f4 rfl rfl rfl rfl rfl rfl rfl ⟨rfl, rfl, rfl, rfl, rfl⟩ rfl rfl rfl rfl rfl (by kernel_rfl) Tryz.func4 (by kernel_rfl)
    (of_decide_eq_true (by kernel_rfl)) (by unfold Func.isWrapper; first | (rw [if_pos (by decide +kernel)]; kernel_rfl) | (rw [if_neg (by decide +kernel)]; exact ⟨rfl, rfl⟩))
    (fun os started H enc _ => lifted os started H enc)
end Go.Proofs.YtkaojflnghfmcaaGreatDoor.privateBlinds

namespace Go.Proofs.YtkaojflnghfmcaaGreatDoor
theorem PrivateBlinds_holds : Rows.PrivateBlindsCardSaid :=
  Claim7.holds_tied_plain_at .later [] Rows.privateBlindsCard.laidKinds true Rows.privateBlindsCard.stood.harness true privateBlinds.over (fun _ h => by cases h) (by kernel_rfl) (fun _ h => by cases h) privateBlinds_row_tie rfl ⟨rfl, rfl⟩ (by kernel_rfl) rfl
    (fun f fn hf hfn => by
      obtain rfl : f = 4 := Option.some.inj (hf.symm.trans (by kernel_rfl))
      obtain rfl : fn = Tryz.f4 := (Option.some.inj (Tryz.func4.symm.trans hfn)).symm
      exact ⟨by kernel_rfl, fun j t ht => by
        rw [Tryz.params4] at ht
        have hm : t ∈ [27, 23] := by simpa using Array.mem_of_getElem? ht
        have hall : ([27, 23].all fun u => !Tryz.prog.wantsStandIn u) = true := by kernel_rfl
        exact (show Tryz.prog.wantsStandIn t = false by simpa using List.all_eq_true.1 hall t hm)⟩)
    (by kernel_rfl)
#print axioms PrivateBlinds_holds
end Go.Proofs.YtkaojflnghfmcaaGreatDoor
