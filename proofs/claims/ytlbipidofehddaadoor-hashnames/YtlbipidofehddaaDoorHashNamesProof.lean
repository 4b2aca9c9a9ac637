/- For every number h and every text: hash.Name answers the name that the plain definition of the document answers, and hash.Of answers the number from 1 to 3 whose plain name the text is, else 0 (texts of more than 100 bytes pass unasked); the names table is laid as the project text lays it. -/
import Derived.Test.YtlbipidofehddaaDoorRows
import Derived.Test.YtlbipidofehddaaDoorTie
import Derived.Test.YtlbipidofehddaaDoorCards
import Derived.Test.YtlbipidofehddaaDoorBase1
import Derived.Test.YtlbipidofehddaaDoorOpenRow
import Derived.Test.YtlbipidofehddaaDoorSha1
import Derived.Test.YtlbipidofehddaaDoorSha2
import Derived.Test.YtlbipidofehddaaDoorSha3
import Derived.Test.YtlbipidofehddaaDoorByt1
import Derived.Test.YtlbipidofehddaaDoorSha4
import Derived.Test.YtlbipidofehddaaDoorSha5
import Derived.Test.YtlbipidofehddaaDoorSha6
import Derived.Test.YtlbipidofehddaaDoorSha7
import Derived.Test.YtlbipidofehddaaDoorShb1
import Derived.Test.YtlbipidofehddaaDoorShb2
import Derived.Test.YtlbipidofehddaaDoorShb3
import Derived.Test.YtlbipidofehddaaDoorShb4
import Derived.Test.YtlbipidofehddaaDoorShb5
import Derived.Test.YtlbipidofehddaaDoorShb6
import Derived.Test.YtlbipidofehddaaDoorShb7
import Derived.Test.YtlbipidofehddaaDoorHsh1
import Derived.Test.YtlbipidofehddaaDoorHsh2
import Derived.Test.YtlbipidofehddaaDoorHsh3
import Derived.Test.YtlbipidofehddaaDoorHas1
import Derived.Test.YtlbipidofehddaaDoorLHasNames
import Derived.WalkKit
import Derived.ProofKit
import Derived.OpenShut
import Derived.ShutString
import Derived.ChangeOld
import Derived.Below
import Derived.Lay
import Derived.Lib.LaidU8
import Derived.SevenTiedAt
import Derived.Stop.Joined
namespace Go.Proofs.YtlbipidofehddaaDoor.hashNames
open Go.ChangeShapes Go.WideShapes Go.ChangeAt Go.RowKit
open Go.ChangeMaps (open_string shut_string)
set_option linter.unusedVariables false

theorem own : ownKnob Tryd.prog.godebug = none := by kernel_rfl

theorem laidOut : laidOutB Tryd.prog = true := by kernel_rfl

set_option maxRecDepth 100000 in
/-- What the listed tables give the walk. -/
theorem tab_of {W : World} (h : laidMet Tryd.prog Rows.hashNamesRow.laid W) : Tab13 W := tab13_of (Lib.laidMet.reads h (.head _))

set_option maxRecDepth 100000 in
theorem lifted (os : Os) (started : os.Started) (H : Type) (enc : TypeId × Value → H) :
    ReturnsInHanded {} Tryd.checked os 4 .any (fun w args => (Rows.hashNamesSpec.pre enc Tryd.prog Tryd.f4 [] false w args ∧ laidMetH Tryd.prog Rows.hashNamesRow.laid w) ∧ sizedMet enc Tryd.prog Tryd.f4 (OpenSpec.ofChange Rows.hashNamesSpec) false w args)
      (Rows.hashNamesSpec.post enc Tryd.prog Tryd.f4 false true false false) := by
  refine returnsInHanded_of_change_and (C := Tryd.checked) (X := fun w _ => laidMetH Tryd.prog Rows.hashNamesRow.laid w) (fun _ _ _ hh h => h.of_heap hh) own started (by kernel_rfl) Tryd.func4
    (ChangeSpec.witness_shaped (enc := enc) (C := Tryd.checked) (os := os) (X := fun w _ => laidMetH Tryd.prog Rows.hashNamesRow.laid w) false (World.laidAll Tryd.prog os Rows.hashNamesRow.laid) #[.int .i64 0, .string ByteArray.empty] 8 (World.laidAll_os _ _ _)
      (World.shaped_of_ZipB (by kernel_rfl) (by kernel_rfl)) (by kernel_rfl) (by kernel_rfl) (by kernel_rfl)
      (by rw [MakeChecks.laidMetH_plain _ _ _ (by kernel_rfl)]; exact laidMet_laidAll _ (by kernel_rfl) (by kernel_rfl))) ?_
  intro W base args ds gs before hval0 hW _ _ hL _
  rw [MakeChecks.laidMetH_plain _ _ _ (by kernel_rfl)] at hL
  have hTab := tab_of hL
  have hval : ∀ (j : Nat) t v, Tryd.f4.params[j]? = some t → args[j]? = some v → Value.okWide Tryd.prog W .any base t v := hval0
  have hW' := hW
  obtain ⟨p, q, hA0, hV, rfl, hfz, hnd⟩ := hW
  have hA : DataW.TrodAll enc Tryd.prog W 0 (fun _ => true) true Tryd.f4.params.toList args.toList ds p := hA0
  rw [Tryd.params4] at hA hval
  obtain ⟨v0, vs0, d0, ds0, p0, q0, hargs, rfl, rfl, h0, r0⟩ := trodAll_cons hA
  obtain ⟨v1, vs1, d1, ds1, p1, q1, rfl, rfl, rfl, h1, r1⟩ := trodAll_cons r0
  obtain ⟨rfl, rfl, rfl⟩ := trodAll_nil r1
  obtain rfl : args = #[v0, v1] := by cases args; simp_all
  obtain ⟨rfl, rfl⟩ := trodVars_none hV
  obtain ⟨a0, rfl, rfl, rfl, w0⟩ := open_int Tryd.underlying3 (hval 0 3 v0 rfl rfl) h0
  obtain ⟨s1, rfl, rfl, rfl, z1⟩ := open_string Tryd.underlying9 (hval 1 9 v1 rfl rfl) h1
  clear hA0 hval0
  refine (walkHashNames a0 s1 W z1 hTab).mono fun e W' ⟨he, bel⟩ => ?_
  subst he
  exact ⟨_, rfl, _, _, _, [], _, [], hW', trodAll_mk1 (shut_bool Tryd.underlying4 _), (trodAll_cons_mk (shut_int Tryd.underlying3 w0) (trodAll_cons_mk (shut_string Tryd.underlying9 z1) trodAll_mk0)), rfl, bel.frame _, fun h => by cases h⟩

theorem over : Rows.hashNamesRow.holds Tryd.pinned (OpenSpec.ofChange Rows.hashNamesSpec) :=
  OpenClaim.holds_of_wide 4 Tryd.f4 rfl rfl rfl rfl rfl rfl rfl ⟨rfl, rfl, rfl, rfl, rfl⟩ rfl rfl rfl rfl rfl (by kernel_rfl) Tryd.func4 (by kernel_rfl)
    (of_decide_eq_true (by kernel_rfl)) (by unfold Func.isWrapper; first | (rw [if_pos (by decide +kernel)]; kernel_rfl) | (rw [if_neg (by decide +kernel)]; exact ⟨rfl, rfl⟩))
    (fun os started H enc _ => lifted os started H enc)
end Go.Proofs.YtlbipidofehddaaDoor.hashNames

namespace Go.Proofs.YtlbipidofehddaaDoor
theorem HashNames_holds : Rows.HashNamesCardSaid :=
  Claim7.holds_tied_plain_at .later [] Rows.hashNamesCard.laidKinds true Rows.hashNamesCard.stood.harness false hashNames.over (fun _ h => by cases h) (by kernel_rfl) (fun _ h => by cases h) hashNames_row_tie rfl ⟨rfl, rfl⟩ (by kernel_rfl) rfl
    (fun f fn hf hfn => by
      obtain rfl : f = 4 := Option.some.inj (hf.symm.trans (by kernel_rfl))
      obtain rfl : fn = Tryd.f4 := (Option.some.inj (Tryd.func4.symm.trans hfn)).symm
      exact ⟨by kernel_rfl, fun j t ht => by
        rw [Tryd.params4] at ht
        have hm : t ∈ [3, 9] := by simpa using Array.mem_of_getElem? ht
        have hall : ([3, 9].all fun u => !Tryd.prog.wantsStandIn u) = true := by kernel_rfl
        exact (show Tryd.prog.wantsStandIn t = false by simpa using List.all_eq_true.1 hall t hm)⟩)
    (by kernel_rfl)
#print axioms HashNames_holds
end Go.Proofs.YtlbipidofehddaaDoor
