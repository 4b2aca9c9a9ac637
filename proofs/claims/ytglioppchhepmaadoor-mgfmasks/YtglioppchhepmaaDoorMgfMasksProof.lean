/- For every number h, any seed of at most 500 bytes (longer ones pass unasked) and every length n but those from 1501 to 10000 (these pass unasked): mgf.Mask answers the bytes and the error that the plain definition of the document answers; the listed tables are laid as the project text lays them. -/
import Derived.Test.YtglioppchhepmaaDoorRows
import Derived.Test.YtglioppchhepmaaDoorTie
import Derived.Test.YtglioppchhepmaaDoorCards
import Derived.Test.YtglioppchhepmaaDoorBase1
import Derived.Test.YtglioppchhepmaaDoorOpenRow
import Derived.Test.YtglioppchhepmaaDoorSha1
import Derived.Test.YtglioppchhepmaaDoorSha2
import Derived.Test.YtglioppchhepmaaDoorShb1
import Derived.Test.YtglioppchhepmaaDoorShb2
import Derived.Test.YtglioppchhepmaaDoorShb3
import Derived.Test.YtglioppchhepmaaDoorByt1
import Derived.Test.YtglioppchhepmaaDoorSha4
import Derived.Test.YtglioppchhepmaaDoorShb4
import Derived.Test.YtglioppchhepmaaDoorShb5
import Derived.Test.YtglioppchhepmaaDoorArr1
import Derived.Test.YtglioppchhepmaaDoorShc1
import Derived.Test.YtglioppchhepmaaDoorShc3
import Derived.Test.YtglioppchhepmaaDoorShc4
import Derived.Test.YtglioppchhepmaaDoorShc5
import Derived.Test.YtglioppchhepmaaDoorShc6
import Derived.Test.YtglioppchhepmaaDoorShc7
import Derived.Test.YtglioppchhepmaaDoorCat1
import Derived.Test.YtglioppchhepmaaDoorShc8
import Derived.Test.YtglioppchhepmaaDoorSha3
import Derived.Test.YtglioppchhepmaaDoorSha5
import Derived.Test.YtglioppchhepmaaDoorSha6
import Derived.Test.YtglioppchhepmaaDoorShb6
import Derived.Test.YtglioppchhepmaaDoorShb7
import Derived.Test.YtglioppchhepmaaDoorOpenArr
import Derived.Test.YtglioppchhepmaaDoorShc9
import Derived.Test.YtglioppchhepmaaDoorShx1
import Derived.Test.YtglioppchhepmaaDoorShx2
import Derived.Test.YtglioppchhepmaaDoorShx3
import Derived.Test.YtglioppchhepmaaDoorShx4
import Derived.Test.YtglioppchhepmaaDoorShx5
import Derived.Test.YtglioppchhepmaaDoorShx6
import Derived.Test.YtglioppchhepmaaDoorShx7
import Derived.Test.YtglioppchhepmaaDoorShx8
import Derived.Test.YtglioppchhepmaaDoorSha7
import Derived.Test.YtglioppchhepmaaDoorShx9
import Derived.Test.YtglioppchhepmaaDoorShy1
import Derived.Test.YtglioppchhepmaaDoorHsh1
import Derived.Test.YtglioppchhepmaaDoorHsh2
import Derived.Test.YtglioppchhepmaaDoorHsh3
import Derived.Test.YtglioppchhepmaaDoorMgf1
import Derived.Test.YtglioppchhepmaaDoorRnd1
import Derived.Test.YtglioppchhepmaaDoorSeq2
import Derived.Test.YtglioppchhepmaaDoorHas2
import Derived.Test.YtglioppchhepmaaDoorMgf2
import Derived.Test.YtglioppchhepmaaDoorHas1
import Derived.Test.YtglioppchhepmaaDoorMgf3
import Derived.Test.YtglioppchhepmaaDoorMgf4
import Derived.Test.YtglioppchhepmaaDoorLMgfMasks
import Derived.WalkKit
import Derived.ProofKit
import Derived.OpenShut
import Derived.ShutString
import Derived.ChangeOld
import Derived.Below
import Derived.Lay
import Derived.Lib.LaidU8
import Derived.SevenTiedAt
import Derived.Stop.Joined
namespace Go.Proofs.YtglioppchhepmaaDoor.mgfMasks
open Go.ChangeShapes Go.WideShapes Go.ChangeAt Go.RowKit
open Go.ChangeMaps (open_string shut_string)
set_option linter.unusedVariables false

theorem own : ownKnob Tryd.prog.godebug = none := by kernel_rfl

theorem laidOut : laidOutB Tryd.prog = true := by kernel_rfl

set_option maxRecDepth 100000 in
/-- What the listed tables give the walk. -/
theorem tab_of {W : World} (h : laidMet Tryd.prog Rows.mgfMasksRow.laid W) : TabH W := ⟨tab11_of (Lib.laidMet.reads h (.head _)) (Lib.laidMet.reads h (.tail _ (.head _))), tab12_of (Lib.laidMet.reads h (.tail _ (.tail _ (.head _)))) (Lib.laidMet.reads h (.tail _ (.tail _ (.tail _ (.head _))))) (Lib.laidMet.reads h (.tail _ (.tail _ (.tail _ (.tail _ (.head _))))))⟩

set_option maxRecDepth 100000 in
theorem lifted (os : Os) (started : os.Started) (H : Type) (enc : TypeId × Value → H) :
    ReturnsInHanded {} Tryd.checked os 3 .any (fun w args => (Rows.mgfMasksSpec.pre enc Tryd.prog Tryd.f3 [] false w args ∧ laidMetH Tryd.prog Rows.mgfMasksRow.laid w) ∧ sizedMet enc Tryd.prog Tryd.f3 (OpenSpec.ofChange Rows.mgfMasksSpec) false w args)
      (Rows.mgfMasksSpec.post enc Tryd.prog Tryd.f3 false true false false) := by
  refine returnsInHanded_of_change_and (C := Tryd.checked) (X := fun w _ => laidMetH Tryd.prog Rows.mgfMasksRow.laid w) (fun _ _ _ hh h => h.of_heap hh) own started (by kernel_rfl) Tryd.func3
    (ChangeSpec.witness_shaped (enc := enc) (C := Tryd.checked) (os := os) (X := fun w _ => laidMetH Tryd.prog Rows.mgfMasksRow.laid w) false (World.laidAll Tryd.prog os Rows.mgfMasksRow.laid) #[.int .i64 0, .slice none 0 0, .int .i64 0] 8 (World.laidAll_os _ _ _)
      (World.shaped_of_ZipB (by kernel_rfl) (by kernel_rfl)) (by kernel_rfl) (by kernel_rfl) (by kernel_rfl)
      (by rw [MakeChecks.laidMetH_plain _ _ _ (by kernel_rfl)]; exact laidMet_laidAll _ (by kernel_rfl) (by kernel_rfl))) ?_
  intro W base args ds gs before hval0 hW _ _ hL _
  rw [MakeChecks.laidMetH_plain _ _ _ (by kernel_rfl)] at hL
  have hTab := tab_of hL
  have hval : ∀ (j : Nat) t v, Tryd.f3.params[j]? = some t → args[j]? = some v → Value.okWide Tryd.prog W .any base t v := hval0
  have hW' := hW
  obtain ⟨p, q, hA0, hV, rfl, hfz, hnd⟩ := hW
  have hA : DataW.TrodAll enc Tryd.prog W 0 (fun _ => true) true Tryd.f3.params.toList args.toList ds p := hA0
  rw [Tryd.params3] at hA hval
  obtain ⟨v0, vs0, d0, ds0, p0, q0, hargs, rfl, rfl, h0, r0⟩ := trodAll_cons hA
  obtain ⟨v1, vs1, d1, ds1, p1, q1, rfl, rfl, rfl, h1, r1⟩ := trodAll_cons r0
  obtain ⟨v2, vs2, d2, ds2, p2, q2, rfl, rfl, rfl, h2, r2⟩ := trodAll_cons r1
  obtain ⟨rfl, rfl, rfl⟩ := trodAll_nil r2
  obtain rfl : args = #[v0, v1, v2] := by cases args; simp_all
  obtain ⟨rfl, rfl⟩ := trodVars_none hV
  obtain ⟨a0, rfl, rfl, rfl, w0⟩ := open_int Tryd.underlying3 (hval 0 3 v0 rfl rfl) h0
  obtain ⟨a1, len1, cap1, rfl⟩ := okWide_slice Tryd.underlying22 (hval 1 22 v1 rfl rfl)
  have k1 := h1
  have lt1 : ∀ x ∈ p1, x.block < W.heap.size := by obtain ⟨m, hm⟩ := k1; exact DataW.trod_lt m _ _ _ hm
  obtain ⟨n1, row1, dg1⟩ : ∃ ns : List Nat, Row .u8 W (.slice a1 len1 cap1) ns ∧ Digs 256 ns := by
    obtain ⟨fuel, hf⟩ := h1
    rcases open_ints Tryd.underlying22 Tryd.underlying5 (by kernel_rfl) hf with ⟨hcs, _⟩ | ⟨x, l, c, zs, hcs, _, hl, hm, hz, _, hcell, hwz⟩
    · simp [Value.cells] at hcs
      obtain ⟨rfl, rfl, rfl⟩ := hcs
      exact row_of_ints wf_u8 (zs := []) (.inl ⟨rfl, rfl, rfl, rfl⟩)
    · simp [Value.cells] at hcs
      obtain ⟨rfl, rfl, rfl⟩ := hcs
      exact row_of_ints wf_u8 (.inr ⟨_, rfl, hl, hm, by simpa using hz, hcell, hwz⟩)
  obtain ⟨a2, rfl, rfl, rfl, w2⟩ := open_int Tryd.underlying3 (hval 2 3 v2 rfl rfl) h2
  clear hA0 hval0
  refine (walkMgfMasks a0 _ n1 a2 W row1 dg1 hTab).mono fun e W' ⟨he, bel⟩ => ?_
  subst he
  exact ⟨_, rfl, _, _, _, [], _, [], hW', trodAll_mk1 (shut_bool Tryd.underlying4 _), (trodAll_cons_mk (shut_int Tryd.underlying3 w0) (trodAll_cons_mk (Below.trod laidOut (by kernel_rfl) (of_decide_eq_true (by kernel_rfl)) k1 bel lt1) (trodAll_cons_mk (shut_int Tryd.underlying3 w2) trodAll_mk0))), rfl, bel.frame _, fun h => by cases h⟩

theorem over : Rows.mgfMasksRow.holds Tryd.pinned (OpenSpec.ofChange Rows.mgfMasksSpec) :=
  OpenClaim.holds_of_wide 3 Tryd.f3 rfl rfl rfl rfl rfl rfl rfl ⟨rfl, rfl, rfl, rfl, rfl⟩ rfl rfl rfl rfl rfl (by kernel_rfl) Tryd.func3 (by kernel_rfl)
    (of_decide_eq_true (by kernel_rfl)) (by unfold Func.isWrapper; first | (rw [if_pos (by decide +kernel)]; kernel_rfl) | (rw [if_neg (by decide +kernel)]; exact ⟨rfl, rfl⟩))
    (fun os started H enc _ => lifted os started H enc)
end Go.Proofs.YtglioppchhepmaaDoor.mgfMasks

namespace Go.Proofs.YtglioppchhepmaaDoor
theorem MgfMasks_holds : Rows.MgfMasksCardSaid :=
  Claim7.holds_tied_plain_at .later [] Rows.mgfMasksCard.laidKinds true Rows.mgfMasksCard.stood.harness false mgfMasks.over (fun _ h => by cases h) (by kernel_rfl) (fun _ h => by cases h) mgfMasks_row_tie rfl ⟨rfl, rfl⟩ (by kernel_rfl) rfl
    (fun f fn hf hfn => by
      obtain rfl : f = 3 := Option.some.inj (hf.symm.trans (by kernel_rfl))
      obtain rfl : fn = Tryd.f3 := (Option.some.inj (Tryd.func3.symm.trans hfn)).symm
      exact ⟨by kernel_rfl, fun j t ht => by
        rw [Tryd.params3] at ht
        have hm : t ∈ [3, 22, 3] := by simpa using Array.mem_of_getElem? ht
        have hall : ([3, 22, 3].all fun u => !Tryd.prog.wantsStandIn u) = true := by kernel_rfl
        exact (show Tryd.prog.wantsStandIn t = false by simpa using List.all_eq_true.1 hall t hm)⟩)
    (by kernel_rfl)
#print axioms MgfMasks_holds
end Go.Proofs.YtglioppchhepmaaDoor
