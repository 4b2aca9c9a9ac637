/- Sha512Pads: for every length n and either start the law returns true: the landed Pad and Start are the plain ones; its argument reads as before. Condition: the tables that the row lists lie as the card ties them. -/
import Derived.Test.YtjnmnkoajcibhaaDoorRows
import Derived.Test.YtjnmnkoajcibhaaDoorTie
import Derived.Test.YtjnmnkoajcibhaaDoorCards
import Derived.Test.YtjnmnkoajcibhaaDoorBase1
import Derived.Test.YtjnmnkoajcibhaaDoorOpenRow
import Derived.Test.YtjnmnkoajcibhaaDoorOpenArr
import Derived.Test.YtjnmnkoajcibhaaDoorSha1
import Derived.Test.YtjnmnkoajcibhaaDoorSha2
import Derived.Test.YtjnmnkoajcibhaaDoorShb1
import Derived.Test.YtjnmnkoajcibhaaDoorShb2
import Derived.Test.YtjnmnkoajcibhaaDoorShb3
import Derived.Test.YtjnmnkoajcibhaaDoorByt1
import Derived.Test.YtjnmnkoajcibhaaDoorSha4
import Derived.Test.YtjnmnkoajcibhaaDoorShb4
import Derived.Test.YtjnmnkoajcibhaaDoorShb5
import Derived.Test.YtjnmnkoajcibhaaDoorArr1
import Derived.Test.YtjnmnkoajcibhaaDoorShc1
import Derived.Test.YtjnmnkoajcibhaaDoorShc3
import Derived.Test.YtjnmnkoajcibhaaDoorShc4
import Derived.Test.YtjnmnkoajcibhaaDoorShc5
import Derived.Test.YtjnmnkoajcibhaaDoorShc6
import Derived.Test.YtjnmnkoajcibhaaDoorShc7
import Derived.Test.YtjnmnkoajcibhaaDoorCat1
import Derived.Test.YtjnmnkoajcibhaaDoorShc8
import Derived.Test.YtjnmnkoajcibhaaDoorSha3
import Derived.Test.YtjnmnkoajcibhaaDoorSha5
import Derived.Test.YtjnmnkoajcibhaaDoorSha6
import Derived.Test.YtjnmnkoajcibhaaDoorShb6
import Derived.Test.YtjnmnkoajcibhaaDoorShb7
import Derived.Test.YtjnmnkoajcibhaaDoorShc9
import Derived.Test.YtjnmnkoajcibhaaDoorLShcPads
import Derived.WalkKit
import Derived.ProofKit
import Derived.OpenShut
import Derived.ShutString
import Derived.ChangeOld
import Derived.Below
import Derived.Lay
import Derived.Lib.LaidU8
import Derived.SevenTiedAt
import Derived.Stop.Joined
namespace Go.Proofs.YtjnmnkoajcibhaaDoor.sha512Pads
open Go.ChangeShapes Go.WideShapes Go.ChangeAt Go.RowKit
open Go.ChangeMaps (open_string shut_string)
set_option linter.unusedVariables false

theorem own : ownKnob Tryd.prog.godebug = none := by kernel_rfl

theorem laidOut : laidOutB Tryd.prog = true := by kernel_rfl

set_option maxRecDepth 100000 in
/-- What the listed tables give the walk. -/
theorem tab_of {W : World} (h : laidMet Tryd.prog Rows.sha512PadsRow.laid W) : Tab12 W := tab12_of (Lib.laidMet.reads h (.head _)) (Lib.laidMet.reads h (.tail _ (.head _))) (Lib.laidMet.reads h (.tail _ (.tail _ (.head _))))

set_option maxRecDepth 100000 in
theorem lifted (os : Os) (started : os.Started) (H : Type) (enc : TypeId × Value → H) :
    ReturnsInHanded {} Tryd.checked os 5 .any (fun w args => (Rows.sha512PadsSpec.pre enc Tryd.prog Tryd.f5 [] false w args ∧ laidMetH Tryd.prog Rows.sha512PadsRow.laid w) ∧ sizedMet enc Tryd.prog Tryd.f5 (OpenSpec.ofChange Rows.sha512PadsSpec) false w args)
      (Rows.sha512PadsSpec.post enc Tryd.prog Tryd.f5 false true false false) := by
  refine returnsInHanded_of_change_and (C := Tryd.checked) (X := fun w _ => laidMetH Tryd.prog Rows.sha512PadsRow.laid w) (fun _ _ _ hh h => h.of_heap hh) own started (by kernel_rfl) Tryd.func5
    (ChangeSpec.witness_shaped (enc := enc) (C := Tryd.checked) (os := os) (X := fun w _ => laidMetH Tryd.prog Rows.sha512PadsRow.laid w) false (World.laidAll Tryd.prog os Rows.sha512PadsRow.laid) #[.int .i64 0, .bool false] 8 (World.laidAll_os _ _ _)
      (World.shaped_of_ZipB (by kernel_rfl) (by kernel_rfl)) (by kernel_rfl) (by kernel_rfl) (by kernel_rfl)
      (by rw [MakeChecks.laidMetH_plain _ _ _ (by kernel_rfl)]; exact laidMet_laidAll _ (by kernel_rfl) (by kernel_rfl))) ?_
  intro W base args ds gs before hval0 hW _ _ hL _
  rw [MakeChecks.laidMetH_plain _ _ _ (by kernel_rfl)] at hL
  have hTab := tab_of hL
  have hval : ∀ (j : Nat) t v, Tryd.f5.params[j]? = some t → args[j]? = some v → Value.okWide Tryd.prog W .any base t v := hval0
  have hW' := hW
  obtain ⟨p, q, hA0, hV, rfl, hfz, hnd⟩ := hW
  have hA : DataW.TrodAll enc Tryd.prog W 0 (fun _ => true) true Tryd.f5.params.toList args.toList ds p := hA0
  rw [Tryd.params5] at hA hval
  obtain ⟨v0, vs0, d0, ds0, p0, q0, hargs, rfl, rfl, h0, r0⟩ := trodAll_cons hA
  obtain ⟨v1, vs1, d1, ds1, p1, q1, rfl, rfl, rfl, h1, r1⟩ := trodAll_cons r0
  obtain ⟨rfl, rfl, rfl⟩ := trodAll_nil r1
  obtain rfl : args = #[v0, v1] := by cases args; simp_all
  obtain ⟨rfl, rfl⟩ := trodVars_none hV
  obtain ⟨a0, rfl, rfl, rfl, w0⟩ := open_int Tryd.underlying3 (hval 0 3 v0 rfl rfl) h0
  obtain ⟨b1, rfl, rfl, rfl⟩ := open_bool Tryd.underlying4 (hval 1 4 v1 rfl rfl) h1
  clear hA0 hval0
  refine (walkSha512Pads a0 b1 W w0 hTab).mono fun e W' ⟨he, bel⟩ => ?_
  subst he
  exact ⟨_, rfl, _, _, _, [], _, [], hW', trodAll_mk1 (shut_bool Tryd.underlying4 _), (trodAll_cons_mk (shut_int Tryd.underlying3 w0) (trodAll_cons_mk (shut_bool Tryd.underlying4 b1) trodAll_mk0)), rfl, bel.frame _, fun h => by cases h⟩

theorem over : Rows.sha512PadsRow.holds Tryd.pinned (OpenSpec.ofChange Rows.sha512PadsSpec) :=
  OpenClaim.holds_of_wide 5 Tryd.f5 rfl rfl rfl rfl rfl rfl rfl ⟨rfl, rfl, rfl, rfl, rfl⟩ rfl rfl rfl rfl rfl (by kernel_rfl) Tryd.func5 (by kernel_rfl)
    (of_decide_eq_true (by kernel_rfl)) (by unfold Func.isWrapper; first | (rw [if_pos (by decide +kernel)]; kernel_rfl) | (rw [if_neg (by decide +kernel)]; exact ⟨rfl, rfl⟩))
    (fun os started H enc _ => lifted os started H enc)
end Go.Proofs.YtjnmnkoajcibhaaDoor.sha512Pads

namespace Go.Proofs.YtjnmnkoajcibhaaDoor
theorem Sha512Pads_holds : Rows.Sha512PadsCardSaid :=
  Claim7.holds_tied_plain_at .later [] Rows.sha512PadsCard.laidKinds true Rows.sha512PadsCard.stood.harness false sha512Pads.over (fun _ h => by cases h) (by kernel_rfl) (fun _ h => by cases h) sha512Pads_row_tie rfl ⟨rfl, rfl⟩ (by kernel_rfl) rfl
    (fun f fn hf hfn => by
      obtain rfl : f = 5 := Option.some.inj (hf.symm.trans (by kernel_rfl))
      obtain rfl : fn = Tryd.f5 := (Option.some.inj (Tryd.func5.symm.trans hfn)).symm
      exact ⟨by kernel_rfl, fun j t ht => by
        rw [Tryd.params5] at ht
        have hm : t ∈ [3, 4] := by simpa using Array.mem_of_getElem? ht
        have hall : ([3, 4].all fun u => !Tryd.prog.wantsStandIn u) = true := by kernel_rfl
        exact (show Tryd.prog.wantsStandIn t = false by simpa using List.all_eq_true.1 hall t hm)⟩)
    (by kernel_rfl)
#print axioms Sha512Pads_holds
end Go.Proofs.YtjnmnkoajcibhaaDoor
