/- Whatever the number of 1 to 300 words: it is read again from its bytes, and from its text. -/
import Derived.Test.YtcdpmiheeenmmaaDoorRows
import Derived.Test.YtcdpmiheeenmmaaDoorTie
import Derived.Test.YtcdpmiheeenmmaaDoorCards
import Derived.Test.YtcdpmiheeenmmaaDoorKept
import Derived.Test.YtcdpmiheeenmmaaDoorNums
import Derived.Test.YtcdpmiheeenmmaaDoorNumRow
import Derived.Test.YtcdpmiheeenmmaaDoorBigs
import Derived.Test.YtcdpmiheeenmmaaDoorBigNat
import Derived.Test.YtcdpmiheeenmmaaDoorBigAdd
import Derived.Test.YtcdpmiheeenmmaaDoorBigBit
import Derived.Test.YtcdpmiheeenmmaaDoorBigBytes
import Derived.Test.YtcdpmiheeenmmaaDoorRefNat
import Derived.Test.YtcdpmiheeenmmaaDoorRefShow
import Derived.Test.YtcdpmiheeenmmaaDoorLays
import Derived.Test.YtcdpmiheeenmmaaDoorNatA
import Derived.Test.YtcdpmiheeenmmaaDoorNatB
import Derived.Test.YtcdpmiheeenmmaaDoorNatC
import Derived.Test.YtcdpmiheeenmmaaDoorNatD
import Derived.Test.YtcdpmiheeenmmaaDoorNatE
import Derived.Test.YtcdpmiheeenmmaaDoorNatF
import Derived.Test.YtcdpmiheeenmmaaDoorNatG
import Derived.Test.YtcdpmiheeenmmaaDoorNatH
import Derived.Test.YtcdpmiheeenmmaaDoorNatI
import Derived.Test.YtcdpmiheeenmmaaDoorPutN
import Derived.Test.YtcdpmiheeenmmaaDoorNatJ
import Derived.Test.YtcdpmiheeenmmaaDoorNatK
import Derived.Test.YtcdpmiheeenmmaaDoorNatL
import Derived.Test.YtcdpmiheeenmmaaDoorNatM
import Derived.Test.YtcdpmiheeenmmaaDoorNatN
import Derived.Test.YtcdpmiheeenmmaaDoorNatO
import Derived.Test.YtcdpmiheeenmmaaDoorNatP
import Derived.Test.YtcdpmiheeenmmaaDoorOpenRow
import Derived.Test.YtcdpmiheeenmmaaDoorBigShift
import Derived.Test.YtcdpmiheeenmmaaDoorRefParse
import Derived.Test.YtcdpmiheeenmmaaDoorNatR
import Derived.Test.YtcdpmiheeenmmaaDoorNatS
import Derived.Test.YtcdpmiheeenmmaaDoorNatT
import Derived.Test.YtcdpmiheeenmmaaDoorLNatBack
import Derived.WalkKit
import Derived.ProofKit
import Derived.OpenShut
import Derived.ShutString
import Derived.ChangeOld
import Derived.Below
import Derived.Lay
import Derived.Lib.LaidU8
import Derived.SevenTiedAt
import Derived.Stop.Joined
namespace Go.Proofs.YtcdpmiheeenmmaaDoor.natBack
open Go.ChangeShapes Go.WideShapes Go.ChangeAt Go.RowKit
open Go.ChangeMaps (open_string shut_string)
set_option linter.unusedVariables false

theorem own : ownKnob Tryd.prog.godebug = none := by kernel_rfl

theorem laidOut : laidOutB Tryd.prog = true := by kernel_rfl

set_option maxRecDepth 100000 in
/-- What the listed table gives the walk. -/
theorem tab_of {W : World} (h : laidMet Tryd.prog Rows.natBackRow.laid W) : Tab W := by
  obtain ⟨ps, ⟨g0, t0, cs0, f0, p0, q0, hg0, ht0, hv0, hd0, ⟨g1, t1, cs1, f1, p1, q1, hg1, ht1, hv1, hd1, _, _⟩, _⟩, _⟩ := h
  have hg2 := hg1
  obtain rfl : g1 = 5 := Option.some.inj (hg1.symm.trans (by kernel_rfl))
  obtain rfl : t1 = 143 := Option.some.inj (ht1.symm.trans (by kernel_rfl))
  obtain ⟨f2, d, q, hd15, hel⟩ := Lib.array_elem Tryd.underlying143 hd1 15 (by omega)
  have hd : d = .lit (.int .u8 4) := (Option.some.inj hd15).symm
  subst hd
  have hc1 : Tryd.prog.cellsOf 5 = 1 := by kernel_rfl
  rw [hc1] at hel
  obtain ⟨z, hcz, hz, _⟩ := DataW.trod_int Tryd.underlying5 hel
  have hz4 : z = 4 := by
    simp only [Prod.mk.injEq, DataW.lit.injEq, Lit.int.injEq, true_and] at hz
    exact hz.1.symm
  subst hz4
  have hget : cs1.toList[15]? = some (.int .u8 4) := by
    have := congrArg (·[0]?) hcz
    simpa [List.getElem?_take, List.getElem?_drop] using this
  have hcell := World.var?_cell hg2 hv1 15
  rw [← Array.getElem?_toList, hget] at hcell
  exact hcell

set_option maxRecDepth 100000 in
theorem lifted (os : Os) (started : os.Started) (H : Type) (enc : TypeId × Value → H) :
    ReturnsInHanded {} Tryd.checked os 8 .any (fun w args => (Rows.natBackSpec.pre enc Tryd.prog Tryd.f8 [] false w args ∧ laidMetH Tryd.prog Rows.natBackRow.laid w) ∧ sizedMet enc Tryd.prog Tryd.f8 (OpenSpec.ofChange Rows.natBackSpec) false w args)
      (Rows.natBackSpec.post enc Tryd.prog Tryd.f8 false true false false) := by
  refine returnsInHanded_of_change_and (C := Tryd.checked) (X := fun w _ => laidMetH Tryd.prog Rows.natBackRow.laid w) (fun _ _ _ hh h => h.of_heap hh) own started (by kernel_rfl) Tryd.func8
    (ChangeSpec.witness_shaped (enc := enc) (C := Tryd.checked) (os := os) (X := fun w _ => laidMetH Tryd.prog Rows.natBackRow.laid w) false (World.laidAll Tryd.prog os Rows.natBackRow.laid) #[.slice none 0 0] 8 (World.laidAll_os _ _ _)
      (World.shaped_of_ZipB (by kernel_rfl) (by kernel_rfl)) (by kernel_rfl) (by kernel_rfl) (by kernel_rfl)
      (by rw [MakeChecks.laidMetH_plain _ _ _ (by kernel_rfl)]; exact laidMet_laidAll _ (by kernel_rfl) (by kernel_rfl))) ?_
  intro W base args ds gs before hval0 hW _ _ hL _
  rw [MakeChecks.laidMetH_plain _ _ _ (by kernel_rfl)] at hL
  have hTab := tab_of hL
  have hval : ∀ (j : Nat) t v, Tryd.f8.params[j]? = some t → args[j]? = some v → Value.okWide Tryd.prog W .any base t v := hval0
  have hW' := hW
  obtain ⟨p, q, hA0, hV, rfl, hfz, hnd⟩ := hW
  have hA : DataW.TrodAll enc Tryd.prog W 0 (fun _ => true) true Tryd.f8.params.toList args.toList ds p := hA0
  rw [Tryd.params8] at hA hval
  obtain ⟨v0, vs0, d0, ds0, p0, q0, hargs, rfl, rfl, h0, r0⟩ := trodAll_cons hA
  obtain ⟨rfl, rfl, rfl⟩ := trodAll_nil r0
  obtain rfl : args = #[v0] := by cases args; simp_all
  obtain ⟨rfl, rfl⟩ := trodVars_none hV
  obtain ⟨a0, len0, cap0, rfl⟩ := okWide_slice Tryd.underlying25 (hval 0 25 v0 rfl rfl)
  have k0 := h0
  have lt0 : ∀ x ∈ p0, x.block < W.heap.size := by obtain ⟨m, hm⟩ := k0; exact DataW.trod_lt m _ _ _ hm
  obtain ⟨n0, row0, dg0⟩ : ∃ ns : List Nat, Row .u64 W (.slice a0 len0 cap0) ns ∧ Digs 18446744073709551616 ns := by
    obtain ⟨fuel, hf⟩ := h0
    rcases open_ints Tryd.underlying25 Tryd.underlying39 (by kernel_rfl) hf with ⟨hcs, _⟩ | ⟨x, l, c, zs, hcs, _, hl, hm, hz, _, hcell, hwz⟩
    · simp [Value.cells] at hcs
      obtain ⟨rfl, rfl, rfl⟩ := hcs
      exact row_of_ints wf_u64 (zs := []) (.inl ⟨rfl, rfl, rfl, rfl⟩)
    · simp [Value.cells] at hcs
      obtain ⟨rfl, rfl, rfl⟩ := hcs
      exact row_of_ints wf_u64 (.inr ⟨_, rfl, hl, hm, by simpa using hz, hcell, hwz⟩)
  clear hA0 hval0
  refine (walkNatBack _ n0 W row0 dg0 hTab).mono fun e W' ⟨he, bel⟩ => ?_
  subst he
  exact ⟨_, rfl, _, _, _, [], _, [], hW', trodAll_mk1 (shut_bool Tryd.underlying4 _), (trodAll_cons_mk (Below.trod laidOut (by kernel_rfl) (of_decide_eq_true (by kernel_rfl)) k0 bel lt0) trodAll_mk0), rfl, bel.frame _, fun h => by cases h⟩

theorem over : Rows.natBackRow.holds Tryd.pinned (OpenSpec.ofChange Rows.natBackSpec) :=
  OpenClaim.holds_of_wide 8 Tryd.f8 rfl rfl rfl rfl rfl rfl rfl ⟨rfl, rfl, rfl, rfl, rfl⟩ rfl rfl rfl rfl rfl (by kernel_rfl) Tryd.func8 (by kernel_rfl)
    (of_decide_eq_true (by kernel_rfl)) (by unfold Func.isWrapper; first | (rw [if_pos (by decide +kernel)]; kernel_rfl) | (rw [if_neg (by decide +kernel)]; exact ⟨rfl, rfl⟩))
    (fun os started H enc _ => lifted os started H enc)
end Go.Proofs.YtcdpmiheeenmmaaDoor.natBack

namespace Go.Proofs.YtcdpmiheeenmmaaDoor
theorem NatBack_holds : Rows.NatBackCardSaid :=
  Claim7.holds_tied_plain_at .later [] Rows.natBackCard.laidKinds true Rows.natBackCard.stood.harness false natBack.over (fun _ h => by cases h) (by kernel_rfl) (fun _ h => by cases h) natBack_row_tie rfl ⟨rfl, rfl⟩ (by kernel_rfl) rfl
    (fun f fn hf hfn => by
      obtain rfl : f = 8 := Option.some.inj (hf.symm.trans (by kernel_rfl))
      obtain rfl : fn = Tryd.f8 := (Option.some.inj (Tryd.func8.symm.trans hfn)).symm
      exact ⟨by kernel_rfl, fun j t ht => by
        rw [Tryd.params8] at ht
        have hm : t ∈ [25] := by simpa using Array.mem_of_getElem? ht
        have hall : ([25].all fun u => !Tryd.prog.wantsStandIn u) = true := by kernel_rfl
        exact (show Tryd.prog.wantsStandIn t = false by simpa using List.all_eq_true.1 hall t hm)⟩)
    (by kernel_rfl)
#print axioms NatBack_holds
end Go.Proofs.YtcdpmiheeenmmaaDoor
