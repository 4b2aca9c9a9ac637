/- For every bytes b of at most 2000 and either start, the hash of package sha512 is what its own Block makes of its own Start, block by block, of b and its own Pad; the listed tables are tied to the program's text. -/
import Derived.Test.YtjnmnkoajcibhaaDoorRows
import Derived.Test.YtjnmnkoajcibhaaDoorTie
import Derived.Test.YtjnmnkoajcibhaaDoorCards
import Derived.Test.YtjnmnkoajcibhaaDoorBase1
import Derived.Test.YtjnmnkoajcibhaaDoorOpenRow
import Derived.Test.YtjnmnkoajcibhaaDoorOpenArr
import Derived.Test.YtjnmnkoajcibhaaDoorSha1
import Derived.Test.YtjnmnkoajcibhaaDoorSha2
import Derived.Test.YtjnmnkoajcibhaaDoorShb1
import Derived.Test.YtjnmnkoajcibhaaDoorShb2
import Derived.Test.YtjnmnkoajcibhaaDoorShb3
import Derived.Test.YtjnmnkoajcibhaaDoorByt1
import Derived.Test.YtjnmnkoajcibhaaDoorSha4
import Derived.Test.YtjnmnkoajcibhaaDoorShb4
import Derived.Test.YtjnmnkoajcibhaaDoorShb5
import Derived.Test.YtjnmnkoajcibhaaDoorArr1
import Derived.Test.YtjnmnkoajcibhaaDoorShc1
import Derived.Test.YtjnmnkoajcibhaaDoorShc3
import Derived.Test.YtjnmnkoajcibhaaDoorShc4
import Derived.Test.YtjnmnkoajcibhaaDoorShc5
import Derived.Test.YtjnmnkoajcibhaaDoorShc6
import Derived.Test.YtjnmnkoajcibhaaDoorShc7
import Derived.Test.YtjnmnkoajcibhaaDoorCat1
import Derived.Test.YtjnmnkoajcibhaaDoorShc8
import Derived.Test.YtjnmnkoajcibhaaDoorSha3
import Derived.Test.YtjnmnkoajcibhaaDoorSha5
import Derived.Test.YtjnmnkoajcibhaaDoorSha6
import Derived.Test.YtjnmnkoajcibhaaDoorShb6
import Derived.Test.YtjnmnkoajcibhaaDoorShb7
import Derived.Test.YtjnmnkoajcibhaaDoorShc9
import Derived.Test.YtjnmnkoajcibhaaDoorLShcParts
import Derived.WalkKit
import Derived.ProofKit
import Derived.OpenShut
import Derived.ShutString
import Derived.ChangeOld
import Derived.Below
import Derived.Lay
import Derived.Lib.LaidU8
import Derived.SevenTiedAt
import Derived.Stop.Joined
namespace Go.Proofs.YtjnmnkoajcibhaaDoor.sha512Parts
open Go.ChangeShapes Go.WideShapes Go.ChangeAt Go.RowKit
open Go.ChangeMaps (open_string shut_string)
set_option linter.unusedVariables false

theorem own : ownKnob Tryd.prog.godebug = none := by kernel_rfl

theorem laidOut : laidOutB Tryd.prog = true := by kernel_rfl

set_option maxRecDepth 100000 in
/-- What the listed tables give the walk. -/
theorem tab_of {W : World} (h : laidMet Tryd.prog Rows.sha512PartsRow.laid W) : Tab12 W := tab12_of (Lib.laidMet.reads h (.head _)) (Lib.laidMet.reads h (.tail _ (.head _))) (Lib.laidMet.reads h (.tail _ (.tail _ (.head _))))

set_option maxRecDepth 100000 in
theorem lifted (os : Os) (started : os.Started) (H : Type) (enc : TypeId × Value → H) :
    ReturnsInHanded {} Tryd.checked os 6 .any (fun w args => (Rows.sha512PartsSpec.pre enc Tryd.prog Tryd.f6 [] false w args ∧ laidMetH Tryd.prog Rows.sha512PartsRow.laid w) ∧ sizedMet enc Tryd.prog Tryd.f6 (OpenSpec.ofChange Rows.sha512PartsSpec) false w args)
      (Rows.sha512PartsSpec.post enc Tryd.prog Tryd.f6 false true false false) := by
  refine returnsInHanded_of_change_and (C := Tryd.checked) (X := fun w _ => laidMetH Tryd.prog Rows.sha512PartsRow.laid w) (fun _ _ _ hh h => h.of_heap hh) own started (by kernel_rfl) Tryd.func6
    (ChangeSpec.witness_shaped (enc := enc) (C := Tryd.checked) (os := os) (X := fun w _ => laidMetH Tryd.prog Rows.sha512PartsRow.laid w) false (World.laidAll Tryd.prog os Rows.sha512PartsRow.laid) #[.slice none 0 0, .bool false] 8 (World.laidAll_os _ _ _)
      (World.shaped_of_ZipB (by kernel_rfl) (by kernel_rfl)) (by kernel_rfl) (by kernel_rfl) (by kernel_rfl)
      (by rw [MakeChecks.laidMetH_plain _ _ _ (by kernel_rfl)]; exact laidMet_laidAll _ (by kernel_rfl) (by kernel_rfl))) ?_
  intro W base args ds gs before hval0 hW _ _ hL _
  rw [MakeChecks.laidMetH_plain _ _ _ (by kernel_rfl)] at hL
  have hTab := tab_of hL
  have hval : ∀ (j : Nat) t v, Tryd.f6.params[j]? = some t → args[j]? = some v → Value.okWide Tryd.prog W .any base t v := hval0
  have hW' := hW
  obtain ⟨p, q, hA0, hV, rfl, hfz, hnd⟩ := hW
  have hA : DataW.TrodAll enc Tryd.prog W 0 (fun _ => true) true Tryd.f6.params.toList args.toList ds p := hA0
  rw [Tryd.params6] at hA hval
  obtain ⟨v0, vs0, d0, ds0, p0, q0, hargs, rfl, rfl, h0, r0⟩ := trodAll_cons hA
  obtain ⟨v1, vs1, d1, ds1, p1, q1, rfl, rfl, rfl, h1, r1⟩ := trodAll_cons r0
  obtain ⟨rfl, rfl, rfl⟩ := trodAll_nil r1
  obtain rfl : args = #[v0, v1] := by cases args; simp_all
  obtain ⟨rfl, rfl⟩ := trodVars_none hV
  obtain ⟨a0, len0, cap0, rfl⟩ := okWide_slice Tryd.underlying22 (hval 0 22 v0 rfl rfl)
  have k0 := h0
  have lt0 : ∀ x ∈ p0, x.block < W.heap.size := by obtain ⟨m, hm⟩ := k0; exact DataW.trod_lt m _ _ _ hm
  obtain ⟨n0, row0, dg0⟩ : ∃ ns : List Nat, Row .u8 W (.slice a0 len0 cap0) ns ∧ Digs 256 ns := by
    obtain ⟨fuel, hf⟩ := h0
    rcases open_ints Tryd.underlying22 Tryd.underlying5 (by kernel_rfl) hf with ⟨hcs, _⟩ | ⟨x, l, c, zs, hcs, _, hl, hm, hz, _, hcell, hwz⟩
    · simp [Value.cells] at hcs
      obtain ⟨rfl, rfl, rfl⟩ := hcs
      exact row_of_ints wf_u8 (zs := []) (.inl ⟨rfl, rfl, rfl, rfl⟩)
    · simp [Value.cells] at hcs
      obtain ⟨rfl, rfl, rfl⟩ := hcs
      exact row_of_ints wf_u8 (.inr ⟨_, rfl, hl, hm, by simpa using hz, hcell, hwz⟩)
  obtain ⟨b1, rfl, rfl, rfl⟩ := open_bool Tryd.underlying4 (hval 1 4 v1 rfl rfl) h1
  clear hA0 hval0
  refine (walkSha512Parts _ n0 b1 W row0 dg0 hTab).mono fun e W' ⟨he, bel⟩ => ?_
  subst he
  exact ⟨_, rfl, _, _, _, [], _, [], hW', trodAll_mk1 (shut_bool Tryd.underlying4 _), (trodAll_cons_mk (Below.trod laidOut (by kernel_rfl) (of_decide_eq_true (by kernel_rfl)) k0 bel lt0) (trodAll_cons_mk (shut_bool Tryd.underlying4 b1) trodAll_mk0)), rfl, bel.frame _, fun h => by cases h⟩

theorem over : Rows.sha512PartsRow.holds Tryd.pinned (OpenSpec.ofChange Rows.sha512PartsSpec) :=
  OpenClaim.holds_of_wide 6 Tryd.f6 rfl rfl rfl rfl rfl rfl rfl ⟨rfl, rfl, rfl, rfl, rfl⟩ rfl rfl rfl rfl rfl (by kernel_rfl) Tryd.func6 (by kernel_rfl)
    (of_decide_eq_true (by kernel_rfl)) (by unfold Func.isWrapper; first | (rw [if_pos (by decide +kernel)]; kernel_rfl) | (rw [if_neg (by decide +kernel)]; exact ⟨rfl, rfl⟩))
    (fun os started H enc _ => lifted os started H enc)
end Go.Proofs.YtjnmnkoajcibhaaDoor.sha512Parts

namespace Go.Proofs.YtjnmnkoajcibhaaDoor
theorem Sha512Parts_holds : Rows.Sha512PartsCardSaid :=
  Claim7.holds_tied_plain_at .later [] Rows.sha512PartsCard.laidKinds true Rows.sha512PartsCard.stood.harness false sha512Parts.over (fun _ h => by cases h) (by kernel_rfl) (fun _ h => by cases h) sha512Parts_row_tie rfl ⟨rfl, rfl⟩ (by kernel_rfl) rfl
    (fun f fn hf hfn => by
      obtain rfl : f = 6 := Option.some.inj (hf.symm.trans (by kernel_rfl))
      obtain rfl : fn = Tryd.f6 := (Option.some.inj (Tryd.func6.symm.trans hfn)).symm
      exact ⟨by kernel_rfl, fun j t ht => by
        rw [Tryd.params6] at ht
        have hm : t ∈ [22, 4] := by simpa using Array.mem_of_getElem? ht
        have hall : ([22, 4].all fun u => !Tryd.prog.wantsStandIn u) = true := by kernel_rfl
        exact (show Tryd.prog.wantsStandIn t = false by simpa using List.all_eq_true.1 hall t hm)⟩)
    (by kernel_rfl)
#print axioms Sha512Parts_holds
end Go.Proofs.YtjnmnkoajcibhaaDoor
