/- For every number of a hash and every k the law of layer 24 on a block's room (Room beside the plain Room, behind the chapter's example) returns true, panics nowhere, and leaves its arguments as they were; no condition but that the arguments are two ints (what the five listed tables of the hashes read as when the call begins is tied to the program itself by the card). -/
import Derived.Test.YtnhkfdbeacmepaaDoorRows
import Derived.Test.YtnhkfdbeacmepaaDoorTie
import Derived.Test.YtnhkfdbeacmepaaDoorCards
import Derived.Test.YtnhkfdbeacmepaaDoorPk1
import Derived.Test.YtnhkfdbeacmepaaDoorPk2
import Derived.Test.YtnhkfdbeacmepaaDoorPk3
import Derived.Test.YtnhkfdbeacmepaaDoorPk4
import Derived.Test.YtnhkfdbeacmepaaDoorPk5
import Derived.Test.YtnhkfdbeacmepaaDoorPk6
import Derived.Test.YtnhkfdbeacmepaaDoorPk7
import Derived.Test.YtnhkfdbeacmepaaDoorPk8
import Derived.Test.YtnhkfdbeacmepaaDoorPk9
import Derived.Test.YtnhkfdbeacmepaaDoorPk10
import Derived.Test.YtnhkfdbeacmepaaDoorPk11
import Derived.Test.YtnhkfdbeacmepaaDoorPk12
import Derived.Test.YtnhkfdbeacmepaaDoorPk13
import Derived.Test.YtnhkfdbeacmepaaDoorPk14
import Derived.Test.YtnhkfdbeacmepaaDoorPk15
import Derived.Test.YtnhkfdbeacmepaaDoorPk16
import Derived.Test.YtnhkfdbeacmepaaDoorPk17
import Derived.Test.YtnhkfdbeacmepaaDoorPk18
import Derived.Test.YtnhkfdbeacmepaaDoorPk19
import Derived.Test.YtnhkfdbeacmepaaDoorPk20
import Derived.Test.YtnhkfdbeacmepaaDoorPk21
import Derived.Test.YtnhkfdbeacmepaaDoorPk22
import Derived.Test.YtnhkfdbeacmepaaDoorPk23
import Derived.Test.YtnhkfdbeacmepaaDoorPk24
import Derived.Test.YtnhkfdbeacmepaaDoorPk25
import Derived.Test.YtnhkfdbeacmepaaDoorPk26
import Derived.Test.YtnhkfdbeacmepaaDoorPk27
import Derived.Test.YtnhkfdbeacmepaaDoorPk28
import Derived.Test.YtnhkfdbeacmepaaDoorPk29
import Derived.Test.YtnhkfdbeacmepaaDoorPk30
import Derived.Test.YtnhkfdbeacmepaaDoorPk31
import Derived.Test.YtnhkfdbeacmepaaDoorPk32
import Derived.Test.YtnhkfdbeacmepaaDoorPk33
import Derived.Test.YtnhkfdbeacmepaaDoorPk34
import Derived.Test.YtnhkfdbeacmepaaDoorPk35
import Derived.Test.YtnhkfdbeacmepaaDoorPk36
import Derived.Test.YtnhkfdbeacmepaaDoorPk37
import Derived.WalkKit
import Derived.ProofKit
import Derived.OpenShut
import Derived.ShutString
import Derived.ChangeOld
import Derived.Below
import Derived.Lay
import Derived.Lib.LaidU8
import Derived.SevenTiedAt
import Derived.Stop.Joined
namespace Go.Proofs.YtnhkfdbeacmepaaDoor.oaepRooms
open Go.ChangeShapes Go.WideShapes Go.ChangeAt Go.RowKit
open Go.ChangeMaps (open_string shut_string)
set_option linter.unusedVariables false

theorem own : ownKnob Tryd.prog.godebug = none := by kernel_rfl

theorem laidOut : laidOutB Tryd.prog = true := by kernel_rfl

set_option maxRecDepth 100000 in
/-- What the listed tables give the walk. -/
theorem tab_of {W : World} (h : laidMet Tryd.prog Rows.oaepRoomsRow.laid W) : TabH W := ⟨tab11_of (Lib.laidMet.reads h (.head _)) (Lib.laidMet.reads h (.tail _ (.head _))), tab12_of (Lib.laidMet.reads h (.tail _ (.tail _ (.head _)))) (Lib.laidMet.reads h (.tail _ (.tail _ (.tail _ (.head _))))) (Lib.laidMet.reads h (.tail _ (.tail _ (.tail _ (.tail _ (.head _))))))⟩

set_option maxRecDepth 100000 in
theorem lifted (os : Os) (started : os.Started) (H : Type) (enc : TypeId × Value → H) :
    ReturnsInHanded {} Tryd.checked os 5 .any (fun w args => (Rows.oaepRoomsSpec.pre enc Tryd.prog Tryd.f5 [] false w args ∧ laidMetH Tryd.prog Rows.oaepRoomsRow.laid w) ∧ sizedMet enc Tryd.prog Tryd.f5 (OpenSpec.ofChange Rows.oaepRoomsSpec) false w args)
      (Rows.oaepRoomsSpec.post enc Tryd.prog Tryd.f5 false true false false) := by
  refine returnsInHanded_of_change_and (C := Tryd.checked) (X := fun w _ => laidMetH Tryd.prog Rows.oaepRoomsRow.laid w) (fun _ _ _ hh h => h.of_heap hh) own started (by kernel_rfl) Tryd.func5
    (ChangeSpec.witness_shaped (enc := enc) (C := Tryd.checked) (os := os) (X := fun w _ => laidMetH Tryd.prog Rows.oaepRoomsRow.laid w) false (World.laidAll Tryd.prog os Rows.oaepRoomsRow.laid) #[.int .i64 0, .int .i64 0] 8 (World.laidAll_os _ _ _)
      (World.shaped_of_ZipB (by kernel_rfl) (by kernel_rfl)) (by kernel_rfl) (by kernel_rfl) (by kernel_rfl)
      (by rw [MakeChecks.laidMetH_plain _ _ _ (by kernel_rfl)]; exact laidMet_laidAll _ (by kernel_rfl) (by kernel_rfl))) ?_
  intro W base args ds gs before hval0 hW _ _ hL _
  rw [MakeChecks.laidMetH_plain _ _ _ (by kernel_rfl)] at hL
  have hTab := tab_of hL
  have hval : ∀ (j : Nat) t v, Tryd.f5.params[j]? = some t → args[j]? = some v → Value.okWide Tryd.prog W .any base t v := hval0
  have hW' := hW
  obtain ⟨p, q, hA0, hV, rfl, hfz, hnd⟩ := hW
  have hA : DataW.TrodAll enc Tryd.prog W 0 (fun _ => true) true Tryd.f5.params.toList args.toList ds p := hA0
  rw [Tryd.params5] at hA hval
  obtain ⟨v0, vs0, d0, ds0, p0, q0, hargs, rfl, rfl, h0, r0⟩ := trodAll_cons hA
  obtain ⟨v1, vs1, d1, ds1, p1, q1, rfl, rfl, rfl, h1, r1⟩ := trodAll_cons r0
  obtain ⟨rfl, rfl, rfl⟩ := trodAll_nil r1
  obtain rfl : args = #[v0, v1] := by cases args; simp_all
  obtain ⟨rfl, rfl⟩ := trodVars_none hV
  obtain ⟨a0, rfl, rfl, rfl, w0⟩ := open_int Tryd.underlying3 (hval 0 3 v0 rfl rfl) h0
  obtain ⟨a1, rfl, rfl, rfl, w1⟩ := open_int Tryd.underlying3 (hval 1 3 v1 rfl rfl) h1
  clear hA0 hval0
  refine (walkOaepRooms a0 a1 W w0 w1 hTab).mono fun e W' ⟨he, bel⟩ => ?_
  subst he
  exact ⟨_, rfl, _, _, _, [], _, [], hW', trodAll_mk1 (shut_bool Tryd.underlying4 _), (trodAll_cons_mk (shut_int Tryd.underlying3 w0) (trodAll_cons_mk (shut_int Tryd.underlying3 w1) trodAll_mk0)), rfl, bel.frame _, fun h => by cases h⟩

theorem over : Rows.oaepRoomsRow.holds Tryd.pinned (OpenSpec.ofChange Rows.oaepRoomsSpec) :=
  OpenClaim.holds_of_wide 5 Tryd.f5 rfl rfl rfl rfl rfl rfl rfl ⟨rfl, rfl, rfl, rfl, rfl⟩ rfl rfl rfl rfl rfl (by kernel_rfl) Tryd.func5 (by kernel_rfl)
    (of_decide_eq_true (by kernel_rfl)) (by unfold Func.isWrapper; first | (rw [if_pos (by decide +kernel)]; kernel_rfl) | (rw [if_neg (by decide +kernel)]; exact ⟨rfl, rfl⟩))
    (fun os started H enc _ => lifted os started H enc)
end Go.Proofs.YtnhkfdbeacmepaaDoor.oaepRooms

namespace Go.Proofs.YtnhkfdbeacmepaaDoor
theorem OaepRooms_holds : Rows.OaepRoomsCardSaid :=
  Claim7.holds_tied_plain_at .later [] Rows.oaepRoomsCard.laidKinds true Rows.oaepRoomsCard.stood.harness false oaepRooms.over (fun _ h => by cases h) (by kernel_rfl) (fun _ h => by cases h) oaepRooms_row_tie rfl ⟨rfl, rfl⟩ (by kernel_rfl) rfl
    (fun f fn hf hfn => by
      obtain rfl : f = 5 := Option.some.inj (hf.symm.trans (by kernel_rfl))
      obtain rfl : fn = Tryd.f5 := (Option.some.inj (Tryd.func5.symm.trans hfn)).symm
      exact ⟨by kernel_rfl, fun j t ht => by
        rw [Tryd.params5] at ht
        have hm : t ∈ [3, 3] := by simpa using Array.mem_of_getElem? ht
        have hall : ([3, 3].all fun u => !Tryd.prog.wantsStandIn u) = true := by kernel_rfl
        exact (show Tryd.prog.wantsStandIn t = false by simpa using List.all_eq_true.1 hall t hm)⟩)
    (by kernel_rfl)
#print axioms OaepRooms_holds
end Go.Proofs.YtnhkfdbeacmepaaDoor
