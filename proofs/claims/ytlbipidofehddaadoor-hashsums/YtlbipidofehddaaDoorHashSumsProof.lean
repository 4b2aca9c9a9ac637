/- For every number h and all bytes b of at most 3000 (longer ones pass unasked): hash.Sum answers the bytes and the error that the plain definition of the document answers, hash.Size its size, and a hash that is answered has that size; the listed tables are laid as the project text lays them. -/
import Derived.Test.YtlbipidofehddaaDoorRows
import Derived.Test.YtlbipidofehddaaDoorTie
import Derived.Test.YtlbipidofehddaaDoorCards
import Derived.Test.YtlbipidofehddaaDoorBase1
import Derived.Test.YtlbipidofehddaaDoorOpenRow
import Derived.Test.YtlbipidofehddaaDoorSha1
import Derived.Test.YtlbipidofehddaaDoorSha2
import Derived.Test.YtlbipidofehddaaDoorShb1
import Derived.Test.YtlbipidofehddaaDoorShb2
import Derived.Test.YtlbipidofehddaaDoorShb3
import Derived.Test.YtlbipidofehddaaDoorByt1
import Derived.Test.YtlbipidofehddaaDoorSha4
import Derived.Test.YtlbipidofehddaaDoorShb4
import Derived.Test.YtlbipidofehddaaDoorShb5
import Derived.Test.YtlbipidofehddaaDoorArr1
import Derived.Test.YtlbipidofehddaaDoorShc1
import Derived.Test.YtlbipidofehddaaDoorShc3
import Derived.Test.YtlbipidofehddaaDoorShc4
import Derived.Test.YtlbipidofehddaaDoorShc5
import Derived.Test.YtlbipidofehddaaDoorShc6
import Derived.Test.YtlbipidofehddaaDoorShc7
import Derived.Test.YtlbipidofehddaaDoorCat1
import Derived.Test.YtlbipidofehddaaDoorShc8
import Derived.Test.YtlbipidofehddaaDoorSha3
import Derived.Test.YtlbipidofehddaaDoorSha5
import Derived.Test.YtlbipidofehddaaDoorSha6
import Derived.Test.YtlbipidofehddaaDoorShb6
import Derived.Test.YtlbipidofehddaaDoorShb7
import Derived.Test.YtlbipidofehddaaDoorOpenArr
import Derived.Test.YtlbipidofehddaaDoorShc9
import Derived.Test.YtlbipidofehddaaDoorShx1
import Derived.Test.YtlbipidofehddaaDoorShx2
import Derived.Test.YtlbipidofehddaaDoorShx3
import Derived.Test.YtlbipidofehddaaDoorShx4
import Derived.Test.YtlbipidofehddaaDoorShx5
import Derived.Test.YtlbipidofehddaaDoorShx6
import Derived.Test.YtlbipidofehddaaDoorShx7
import Derived.Test.YtlbipidofehddaaDoorShx8
import Derived.Test.YtlbipidofehddaaDoorSha7
import Derived.Test.YtlbipidofehddaaDoorShx9
import Derived.Test.YtlbipidofehddaaDoorShy1
import Derived.Test.YtlbipidofehddaaDoorHsh1
import Derived.Test.YtlbipidofehddaaDoorHsh2
import Derived.Test.YtlbipidofehddaaDoorHsh3
import Derived.Test.YtlbipidofehddaaDoorHas1
import Derived.Test.YtlbipidofehddaaDoorHas2
import Derived.Test.YtlbipidofehddaaDoorLHasSums
import Derived.WalkKit
import Derived.ProofKit
import Derived.OpenShut
import Derived.ShutString
import Derived.ChangeOld
import Derived.Below
import Derived.Lay
import Derived.Lib.LaidU8
import Derived.SevenTiedAt
import Derived.Stop.Joined
namespace Go.Proofs.YtlbipidofehddaaDoor.hashSums
open Go.ChangeShapes Go.WideShapes Go.ChangeAt Go.RowKit
open Go.ChangeMaps (open_string shut_string)
set_option linter.unusedVariables false

theorem own : ownKnob Tryd.prog.godebug = none := by kernel_rfl

theorem laidOut : laidOutB Tryd.prog = true := by kernel_rfl

set_option maxRecDepth 100000 in
/-- What the listed tables give the walk. -/
theorem tab_of {W : World} (h : laidMet Tryd.prog Rows.hashSumsRow.laid W) : TabHS W := ⟨⟨tab11_of (Lib.laidMet.reads h (.head _)) (Lib.laidMet.reads h (.tail _ (.head _))), tab12_of (Lib.laidMet.reads h (.tail _ (.tail _ (.head _)))) (Lib.laidMet.reads h (.tail _ (.tail _ (.tail _ (.head _))))) (Lib.laidMet.reads h (.tail _ (.tail _ (.tail _ (.tail _ (.head _))))))⟩, tab13_of (Lib.laidMet.reads h (.tail _ (.tail _ (.tail _ (.tail _ (.tail _ (.head _)))))))⟩

set_option maxRecDepth 100000 in
theorem lifted (os : Os) (started : os.Started) (H : Type) (enc : TypeId × Value → H) :
    ReturnsInHanded {} Tryd.checked os 3 .any (fun w args => (Rows.hashSumsSpec.pre enc Tryd.prog Tryd.f3 [] false w args ∧ laidMetH Tryd.prog Rows.hashSumsRow.laid w) ∧ sizedMet enc Tryd.prog Tryd.f3 (OpenSpec.ofChange Rows.hashSumsSpec) false w args)
      (Rows.hashSumsSpec.post enc Tryd.prog Tryd.f3 false true false false) := by
  refine returnsInHanded_of_change_and (C := Tryd.checked) (X := fun w _ => laidMetH Tryd.prog Rows.hashSumsRow.laid w) (fun _ _ _ hh h => h.of_heap hh) own started (by kernel_rfl) Tryd.func3
    (ChangeSpec.witness_shaped (enc := enc) (C := Tryd.checked) (os := os) (X := fun w _ => laidMetH Tryd.prog Rows.hashSumsRow.laid w) false (World.laidAll Tryd.prog os Rows.hashSumsRow.laid) #[.int .i64 0, .slice none 0 0] 8 (World.laidAll_os _ _ _)
      (World.shaped_of_ZipB (by kernel_rfl) (by kernel_rfl)) (by kernel_rfl) (by kernel_rfl) (by kernel_rfl)
      (by rw [MakeChecks.laidMetH_plain _ _ _ (by kernel_rfl)]; exact laidMet_laidAll _ (by kernel_rfl) (by kernel_rfl))) ?_
  intro W base args ds gs before hval0 hW _ _ hL _
  rw [MakeChecks.laidMetH_plain _ _ _ (by kernel_rfl)] at hL
  have hTab := tab_of hL
  have hval : ∀ (j : Nat) t v, Tryd.f3.params[j]? = some t → args[j]? = some v → Value.okWide Tryd.prog W .any base t v := hval0
  have hW' := hW
  obtain ⟨p, q, hA0, hV, rfl, hfz, hnd⟩ := hW
  have hA : DataW.TrodAll enc Tryd.prog W 0 (fun _ => true) true Tryd.f3.params.toList args.toList ds p := hA0
  rw [Tryd.params3] at hA hval
  obtain ⟨v0, vs0, d0, ds0, p0, q0, hargs, rfl, rfl, h0, r0⟩ := trodAll_cons hA
  obtain ⟨v1, vs1, d1, ds1, p1, q1, rfl, rfl, rfl, h1, r1⟩ := trodAll_cons r0
  obtain ⟨rfl, rfl, rfl⟩ := trodAll_nil r1
  obtain rfl : args = #[v0, v1] := by cases args; simp_all
  obtain ⟨rfl, rfl⟩ := trodVars_none hV
  obtain ⟨a0, rfl, rfl, rfl, w0⟩ := open_int Tryd.underlying3 (hval 0 3 v0 rfl rfl) h0
  obtain ⟨a1, len1, cap1, rfl⟩ := okWide_slice Tryd.underlying22 (hval 1 22 v1 rfl rfl)
  have k1 := h1
  have lt1 : ∀ x ∈ p1, x.block < W.heap.size := by obtain ⟨m, hm⟩ := k1; exact DataW.trod_lt m _ _ _ hm
  obtain ⟨n1, row1, dg1⟩ : ∃ ns : List Nat, Row .u8 W (.slice a1 len1 cap1) ns ∧ Digs 256 ns := by
    obtain ⟨fuel, hf⟩ := h1
    rcases open_ints Tryd.underlying22 Tryd.underlying5 (by kernel_rfl) hf with ⟨hcs, _⟩ | ⟨x, l, c, zs, hcs, _, hl, hm, hz, _, hcell, hwz⟩
    · simp [Value.cells] at hcs
      obtain ⟨rfl, rfl, rfl⟩ := hcs
      exact row_of_ints wf_u8 (zs := []) (.inl ⟨rfl, rfl, rfl, rfl⟩)
    · simp [Value.cells] at hcs
      obtain ⟨rfl, rfl, rfl⟩ := hcs
      exact row_of_ints wf_u8 (.inr ⟨_, rfl, hl, hm, by simpa using hz, hcell, hwz⟩)
  clear hA0 hval0
  refine (walkHashSums a0 _ n1 W row1 dg1 hTab).mono fun e W' ⟨he, bel⟩ => ?_
  subst he
  exact ⟨_, rfl, _, _, _, [], _, [], hW', trodAll_mk1 (shut_bool Tryd.underlying4 _), (trodAll_cons_mk (shut_int Tryd.underlying3 w0) (trodAll_cons_mk (Below.trod laidOut (by kernel_rfl) (of_decide_eq_true (by kernel_rfl)) k1 bel lt1) trodAll_mk0)), rfl, bel.frame _, fun h => by cases h⟩

theorem over : Rows.hashSumsRow.holds Tryd.pinned (OpenSpec.ofChange Rows.hashSumsSpec) :=
  OpenClaim.holds_of_wide 3 Tryd.f3 rfl rfl rfl rfl rfl rfl rfl ⟨rfl, rfl, rfl, rfl, rfl⟩ rfl rfl rfl rfl rfl (by kernel_rfl) Tryd.func3 (by kernel_rfl)
    (of_decide_eq_true (by kernel_rfl)) (by unfold Func.isWrapper; first | (rw [if_pos (by decide +kernel)]; kernel_rfl) | (rw [if_neg (by decide +kernel)]; exact ⟨rfl, rfl⟩))
    (fun os started H enc _ => lifted os started H enc)
end Go.Proofs.YtlbipidofehddaaDoor.hashSums

namespace Go.Proofs.YtlbipidofehddaaDoor
theorem HashSums_holds : Rows.HashSumsCardSaid :=
  Claim7.holds_tied_plain_at .later [] Rows.hashSumsCard.laidKinds true Rows.hashSumsCard.stood.harness false hashSums.over (fun _ h => by cases h) (by kernel_rfl) (fun _ h => by cases h) hashSums_row_tie rfl ⟨rfl, rfl⟩ (by kernel_rfl) rfl
    (fun f fn hf hfn => by
      obtain rfl : f = 3 := Option.some.inj (hf.symm.trans (by kernel_rfl))
      obtain rfl : fn = Tryd.f3 := (Option.some.inj (Tryd.func3.symm.trans hfn)).symm
      exact ⟨by kernel_rfl, fun j t ht => by
        rw [Tryd.params3] at ht
        have hm : t ∈ [3, 22] := by simpa using Array.mem_of_getElem? ht
        have hall : ([3, 22].all fun u => !Tryd.prog.wantsStandIn u) = true := by kernel_rfl
        exact (show Tryd.prog.wantsStandIn t = false by simpa using List.all_eq_true.1 hall t hm)⟩)
    (by kernel_rfl)
#print axioms HashSums_holds
end Go.Proofs.YtlbipidofehddaaDoor
