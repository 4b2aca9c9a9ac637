/- For any two rows of bytes of at most 3000 each (longer ones pass unasked): mgf.Xor answers what the plain definition of the document answers, and mgf.Xor of that with the same second row is the first again; the listed tables are laid as the project text lays them. -/
import Derived.Test.YtglioppchhepmaaDoorRows
import Derived.Test.YtglioppchhepmaaDoorTie
import Derived.Test.YtglioppchhepmaaDoorCards
import Derived.Test.YtglioppchhepmaaDoorBase1
import Derived.Test.YtglioppchhepmaaDoorOpenRow
import Derived.Test.YtglioppchhepmaaDoorSha1
import Derived.Test.YtglioppchhepmaaDoorSha2
import Derived.Test.YtglioppchhepmaaDoorShb1
import Derived.Test.YtglioppchhepmaaDoorShb2
import Derived.Test.YtglioppchhepmaaDoorShb3
import Derived.Test.YtglioppchhepmaaDoorByt1
import Derived.Test.YtglioppchhepmaaDoorSha4
import Derived.Test.YtglioppchhepmaaDoorShb4
import Derived.Test.YtglioppchhepmaaDoorShb5
import Derived.Test.YtglioppchhepmaaDoorArr1
import Derived.Test.YtglioppchhepmaaDoorShc1
import Derived.Test.YtglioppchhepmaaDoorShc3
import Derived.Test.YtglioppchhepmaaDoorShc4
import Derived.Test.YtglioppchhepmaaDoorShc5
import Derived.Test.YtglioppchhepmaaDoorShc6
import Derived.Test.YtglioppchhepmaaDoorShc7
import Derived.Test.YtglioppchhepmaaDoorCat1
import Derived.Test.YtglioppchhepmaaDoorShc8
import Derived.Test.YtglioppchhepmaaDoorSha3
import Derived.Test.YtglioppchhepmaaDoorSha5
import Derived.Test.YtglioppchhepmaaDoorSha6
import Derived.Test.YtglioppchhepmaaDoorShb6
import Derived.Test.YtglioppchhepmaaDoorShb7
import Derived.Test.YtglioppchhepmaaDoorOpenArr
import Derived.Test.YtglioppchhepmaaDoorShc9
import Derived.Test.YtglioppchhepmaaDoorShx1
import Derived.Test.YtglioppchhepmaaDoorShx2
import Derived.Test.YtglioppchhepmaaDoorShx3
import Derived.Test.YtglioppchhepmaaDoorShx4
import Derived.Test.YtglioppchhepmaaDoorShx5
import Derived.Test.YtglioppchhepmaaDoorShx6
import Derived.Test.YtglioppchhepmaaDoorShx7
import Derived.Test.YtglioppchhepmaaDoorShx8
import Derived.Test.YtglioppchhepmaaDoorSha7
import Derived.Test.YtglioppchhepmaaDoorShx9
import Derived.Test.YtglioppchhepmaaDoorShy1
import Derived.Test.YtglioppchhepmaaDoorHsh1
import Derived.Test.YtglioppchhepmaaDoorHsh2
import Derived.Test.YtglioppchhepmaaDoorHsh3
import Derived.Test.YtglioppchhepmaaDoorMgf1
import Derived.Test.YtglioppchhepmaaDoorRnd1
import Derived.Test.YtglioppchhepmaaDoorSeq2
import Derived.Test.YtglioppchhepmaaDoorHas2
import Derived.Test.YtglioppchhepmaaDoorMgf2
import Derived.Test.YtglioppchhepmaaDoorHas1
import Derived.Test.YtglioppchhepmaaDoorMgf3
import Derived.Test.YtglioppchhepmaaDoorMgf4
import Derived.Test.YtglioppchhepmaaDoorLMgfXors
import Derived.WalkKit
import Derived.ProofKit
import Derived.OpenShut
import Derived.ShutString
import Derived.ChangeOld
import Derived.Below
import Derived.Lay
import Derived.Lib.LaidU8
import Derived.SevenTiedAt
import Derived.Stop.Joined
namespace Go.Proofs.YtglioppchhepmaaDoor.mgfXors
open Go.ChangeShapes Go.WideShapes Go.ChangeAt Go.RowKit
open Go.ChangeMaps (open_string shut_string)
set_option linter.unusedVariables false

theorem own : ownKnob Tryd.prog.godebug = none := by kernel_rfl

theorem laidOut : laidOutB Tryd.prog = true := by kernel_rfl

set_option maxRecDepth 100000 in
/-- What the listed tables give the walk. -/
theorem tab_of {W : World} (h : laidMet Tryd.prog Rows.mgfXorsRow.laid W) : TabH W := ⟨tab11_of (Lib.laidMet.reads h (.head _)) (Lib.laidMet.reads h (.tail _ (.head _))), tab12_of (Lib.laidMet.reads h (.tail _ (.tail _ (.head _)))) (Lib.laidMet.reads h (.tail _ (.tail _ (.tail _ (.head _))))) (Lib.laidMet.reads h (.tail _ (.tail _ (.tail _ (.tail _ (.head _))))))⟩

set_option maxRecDepth 100000 in
theorem lifted (os : Os) (started : os.Started) (H : Type) (enc : TypeId × Value → H) :
    ReturnsInHanded {} Tryd.checked os 4 .any (fun w args => (Rows.mgfXorsSpec.pre enc Tryd.prog Tryd.f4 [] false w args ∧ laidMetH Tryd.prog Rows.mgfXorsRow.laid w) ∧ sizedMet enc Tryd.prog Tryd.f4 (OpenSpec.ofChange Rows.mgfXorsSpec) false w args)
      (Rows.mgfXorsSpec.post enc Tryd.prog Tryd.f4 false true false false) := by
  refine returnsInHanded_of_change_and (C := Tryd.checked) (X := fun w _ => laidMetH Tryd.prog Rows.mgfXorsRow.laid w) (fun _ _ _ hh h => h.of_heap hh) own started (by kernel_rfl) Tryd.func4
    (ChangeSpec.witness_shaped (enc := enc) (C := Tryd.checked) (os := os) (X := fun w _ => laidMetH Tryd.prog Rows.mgfXorsRow.laid w) false (World.laidAll Tryd.prog os Rows.mgfXorsRow.laid) #[.slice none 0 0, .slice none 0 0] 8 (World.laidAll_os _ _ _)
      (World.shaped_of_ZipB (by kernel_rfl) (by kernel_rfl)) (by kernel_rfl) (by kernel_rfl) (by kernel_rfl)
      (by rw [MakeChecks.laidMetH_plain _ _ _ (by kernel_rfl)]; exact laidMet_laidAll _ (by kernel_rfl) (by kernel_rfl))) ?_
  intro W base args ds gs before hval0 hW _ _ hL _
  rw [MakeChecks.laidMetH_plain _ _ _ (by kernel_rfl)] at hL
  have hTab := tab_of hL
  have hval : ∀ (j : Nat) t v, Tryd.f4.params[j]? = some t → args[j]? = some v → Value.okWide Tryd.prog W .any base t v := hval0
  have hW' := hW
  obtain ⟨p, q, hA0, hV, rfl, hfz, hnd⟩ := hW
  have hA : DataW.TrodAll enc Tryd.prog W 0 (fun _ => true) true Tryd.f4.params.toList args.toList ds p := hA0
  rw [Tryd.params4] at hA hval
  obtain ⟨v0, vs0, d0, ds0, p0, q0, hargs, rfl, rfl, h0, r0⟩ := trodAll_cons hA
  obtain ⟨v1, vs1, d1, ds1, p1, q1, rfl, rfl, rfl, h1, r1⟩ := trodAll_cons r0
  obtain ⟨rfl, rfl, rfl⟩ := trodAll_nil r1
  obtain rfl : args = #[v0, v1] := by cases args; simp_all
  obtain ⟨rfl, rfl⟩ := trodVars_none hV
  obtain ⟨a0, len0, cap0, rfl⟩ := okWide_slice Tryd.underlying22 (hval 0 22 v0 rfl rfl)
  have k0 := h0
  have lt0 : ∀ x ∈ p0, x.block < W.heap.size := by obtain ⟨m, hm⟩ := k0; exact DataW.trod_lt m _ _ _ hm
  obtain ⟨n0, row0, dg0⟩ : ∃ ns : List Nat, Row .u8 W (.slice a0 len0 cap0) ns ∧ Digs 256 ns := by
    obtain ⟨fuel, hf⟩ := h0
    rcases open_ints Tryd.underlying22 Tryd.underlying5 (by kernel_rfl) hf with ⟨hcs, _⟩ | ⟨x, l, c, zs, hcs, _, hl, hm, hz, _, hcell, hwz⟩
    · simp [Value.cells] at hcs
      obtain ⟨rfl, rfl, rfl⟩ := hcs
      exact row_of_ints wf_u8 (zs := []) (.inl ⟨rfl, rfl, rfl, rfl⟩)
    · simp [Value.cells] at hcs
      obtain ⟨rfl, rfl, rfl⟩ := hcs
      exact row_of_ints wf_u8 (.inr ⟨_, rfl, hl, hm, by simpa using hz, hcell, hwz⟩)
  obtain ⟨a1, len1, cap1, rfl⟩ := okWide_slice Tryd.underlying22 (hval 1 22 v1 rfl rfl)
  have k1 := h1
  have lt1 : ∀ x ∈ p1, x.block < W.heap.size := by obtain ⟨m, hm⟩ := k1; exact DataW.trod_lt m _ _ _ hm
  obtain ⟨n1, row1, dg1⟩ : ∃ ns : List Nat, Row .u8 W (.slice a1 len1 cap1) ns ∧ Digs 256 ns := by
    obtain ⟨fuel, hf⟩ := h1
    rcases open_ints Tryd.underlying22 Tryd.underlying5 (by kernel_rfl) hf with ⟨hcs, _⟩ | ⟨x, l, c, zs, hcs, _, hl, hm, hz, _, hcell, hwz⟩
    · simp [Value.cells] at hcs
      obtain ⟨rfl, rfl, rfl⟩ := hcs
      exact row_of_ints wf_u8 (zs := []) (.inl ⟨rfl, rfl, rfl, rfl⟩)
    · simp [Value.cells] at hcs
      obtain ⟨rfl, rfl, rfl⟩ := hcs
      exact row_of_ints wf_u8 (.inr ⟨_, rfl, hl, hm, by simpa using hz, hcell, hwz⟩)
  clear hA0 hval0
  refine (walkMgfXors _ n0 _ n1 W row0 row1 dg0 dg1 hTab).mono fun e W' ⟨he, bel⟩ => ?_
  subst he
  exact ⟨_, rfl, _, _, _, [], _, [], hW', trodAll_mk1 (shut_bool Tryd.underlying4 _), (trodAll_cons_mk (Below.trod laidOut (by kernel_rfl) (of_decide_eq_true (by kernel_rfl)) k0 bel lt0) (trodAll_cons_mk (Below.trod laidOut (by kernel_rfl) (of_decide_eq_true (by kernel_rfl)) k1 bel lt1) trodAll_mk0)), rfl, bel.frame _, fun h => by cases h⟩

theorem over : Rows.mgfXorsRow.holds Tryd.pinned (OpenSpec.ofChange Rows.mgfXorsSpec) :=
  OpenClaim.holds_of_wide 4 Tryd.f4 rfl rfl rfl rfl rfl rfl rfl ⟨rfl, rfl, rfl, rfl, rfl⟩ rfl rfl rfl rfl rfl (by kernel_rfl) Tryd.func4 (by kernel_rfl)
    (of_decide_eq_true (by kernel_rfl)) (by unfold Func.isWrapper; first | (rw [if_pos (by decide +kernel)]; kernel_rfl) | (rw [if_neg (by decide +kernel)]; exact ⟨rfl, rfl⟩))
    (fun os started H enc _ => lifted os started H enc)
end Go.Proofs.YtglioppchhepmaaDoor.mgfXors

namespace Go.Proofs.YtglioppchhepmaaDoor
theorem MgfXors_holds : Rows.MgfXorsCardSaid :=
  Claim7.holds_tied_plain_at .later [] Rows.mgfXorsCard.laidKinds true Rows.mgfXorsCard.stood.harness false mgfXors.over (fun _ h => by cases h) (by kernel_rfl) (fun _ h => by cases h) mgfXors_row_tie rfl ⟨rfl, rfl⟩ (by kernel_rfl) rfl
    (fun f fn hf hfn => by
      obtain rfl : f = 4 := Option.some.inj (hf.symm.trans (by kernel_rfl))
      obtain rfl : fn = Tryd.f4 := (Option.some.inj (Tryd.func4.symm.trans hfn)).symm
      exact ⟨by kernel_rfl, fun j t ht => by
        rw [Tryd.params4] at ht
        have hm : t ∈ [22, 22] := by simpa using Array.mem_of_getElem? ht
        have hall : ([22, 22].all fun u => !Tryd.prog.wantsStandIn u) = true := by kernel_rfl
        exact (show Tryd.prog.wantsStandIn t = false by simpa using List.all_eq_true.1 hall t hm)⟩)
    (by kernel_rfl)
#print axioms MgfXors_holds
end Go.Proofs.YtglioppchhepmaaDoor
