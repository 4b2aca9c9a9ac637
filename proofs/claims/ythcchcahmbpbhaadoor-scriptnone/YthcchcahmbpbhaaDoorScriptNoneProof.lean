/- For every call a, the law ScriptNone of layer 15 (script) at the landed commit returns true: a script that nobody made has no bytes. Conditions: the tables that the row lists are laid as the project text lays them; the statement is the tied card; numbers of more than 20 words that have not 301 pass unasked, as the law itself says. -/
import Derived.Test.YthcchcahmbpbhaaDoorRows
import Derived.Test.YthcchcahmbpbhaaDoorTie
import Derived.Test.YthcchcahmbpbhaaDoorCards
import Derived.Test.YthcchcahmbpbhaaDoorBase1
import Derived.Test.YthcchcahmbpbhaaDoorOpenRow
import Derived.Test.YthcchcahmbpbhaaDoorByt1
import Derived.Test.YthcchcahmbpbhaaDoorScr1
import Derived.Test.YthcchcahmbpbhaaDoorSrc1
import Derived.Test.YthcchcahmbpbhaaDoorRnd1
import Derived.Test.YthcchcahmbpbhaaDoorSeq2
import Derived.Test.YthcchcahmbpbhaaDoorLsc1
import Derived.Test.YthcchcahmbpbhaaDoorLsc2
import Derived.Test.YthcchcahmbpbhaaDoorLsc3
import Derived.Test.YthcchcahmbpbhaaDoorScr2
import Derived.Test.YthcchcahmbpbhaaDoorBase2
import Derived.Test.YthcchcahmbpbhaaDoorBigDivMod
import Derived.Test.YthcchcahmbpbhaaDoorBase3
import Derived.Test.YthcchcahmbpbhaaDoorBigM
import Derived.Test.YthcchcahmbpbhaaDoorScr3
import Derived.Test.YthcchcahmbpbhaaDoorSeq3
import Derived.Test.YthcchcahmbpbhaaDoorBase4
import Derived.Test.YthcchcahmbpbhaaDoorLays
import Derived.Test.YthcchcahmbpbhaaDoorNatB
import Derived.Test.YthcchcahmbpbhaaDoorSeq0
import Derived.Test.YthcchcahmbpbhaaDoorNatC
import Derived.Test.YthcchcahmbpbhaaDoorNatD
import Derived.Test.YthcchcahmbpbhaaDoorNatE
import Derived.Test.YthcchcahmbpbhaaDoorNatF
import Derived.Test.YthcchcahmbpbhaaDoorNatG
import Derived.Test.YthcchcahmbpbhaaDoorNatH
import Derived.Test.YthcchcahmbpbhaaDoorNatI
import Derived.Test.YthcchcahmbpbhaaDoorLsc4
import Derived.Test.YthcchcahmbpbhaaDoorScr4
import Derived.Test.YthcchcahmbpbhaaDoorLsc5
import Derived.Test.YthcchcahmbpbhaaDoorOpenActs
import Derived.Test.YthcchcahmbpbhaaDoorLaw15
import Derived.Test.YthcchcahmbpbhaaDoorLScrBelow
import Derived.Test.YthcchcahmbpbhaaDoorLScrNone
import Derived.WalkKit
import Derived.ProofKit
import Derived.OpenShut
import Derived.ShutString
import Derived.ChangeOld
import Derived.Below
import Derived.Lay
import Derived.Lib.LaidU8
import Derived.SevenTiedAt
import Derived.Stop.Joined
namespace Go.Proofs.YthcchcahmbpbhaaDoor.scriptNone
open Go.ChangeShapes Go.WideShapes Go.ChangeAt Go.RowKit
open Go.ChangeMaps (open_string shut_string)
set_option linter.unusedVariables false

theorem own : ownKnob Tryd.prog.godebug = none := by kernel_rfl

theorem laidOut : laidOutB Tryd.prog = true := by kernel_rfl

set_option maxRecDepth 100000 in
/-- What the listed tables give the walk. -/
theorem tab_of {W : World} (h : laidMet Tryd.prog Rows.scriptNoneRow.laid W) : NoTab W := trivial

set_option maxRecDepth 100000 in
theorem lifted (os : Os) (started : os.Started) (H : Type) (enc : TypeId × Value → H) :
    ReturnsInHanded {} Tryd.checked os 5 .any (fun w args => (Rows.scriptNoneSpec.pre enc Tryd.prog Tryd.f5 [] false w args ∧ laidMetH Tryd.prog Rows.scriptNoneRow.laid w) ∧ sizedMet enc Tryd.prog Tryd.f5 (OpenSpec.ofChange Rows.scriptNoneSpec) false w args)
      (Rows.scriptNoneSpec.post enc Tryd.prog Tryd.f5 false true false false) := by
  refine returnsInHanded_of_change_and (C := Tryd.checked) (X := fun w _ => laidMetH Tryd.prog Rows.scriptNoneRow.laid w) (fun _ _ _ hh h => h.of_heap hh) own started (by kernel_rfl) Tryd.func5
    (ChangeSpec.witness_shaped (enc := enc) (C := Tryd.checked) (os := os) (X := fun w _ => laidMetH Tryd.prog Rows.scriptNoneRow.laid w) false (World.laidAll Tryd.prog os Rows.scriptNoneRow.laid) #[.agg #[.int .i64 0, .int .i64 0, .slice none 0 0]] 8 (World.laidAll_os _ _ _)
      (World.shaped_of_ZipB (by kernel_rfl) (by kernel_rfl)) (by kernel_rfl) (by kernel_rfl) (by kernel_rfl)
      (by rw [MakeChecks.laidMetH_plain _ _ _ (by kernel_rfl)]; exact laidMet_laidAll _ (by kernel_rfl) (by kernel_rfl))) ?_
  intro W base args ds gs before hval0 hW _ _ hL _
  rw [MakeChecks.laidMetH_plain _ _ _ (by kernel_rfl)] at hL
  have hTab := tab_of hL
  have hval : ∀ (j : Nat) t v, Tryd.f5.params[j]? = some t → args[j]? = some v → Value.okWide Tryd.prog W .any base t v := hval0
  have hW' := hW
  obtain ⟨p, q, hA0, hV, rfl, hfz, hnd⟩ := hW
  have hA : DataW.TrodAll enc Tryd.prog W 0 (fun _ => true) true Tryd.f5.params.toList args.toList ds p := hA0
  rw [Tryd.params5] at hA hval
  obtain ⟨v0, vs0, d0, ds0, p0, q0, hargs, rfl, rfl, h0, r0⟩ := trodAll_cons hA
  obtain ⟨rfl, rfl, rfl⟩ := trodAll_nil r0
  obtain rfl : args = #[v0] := by cases args; simp_all
  obtain ⟨rfl, rfl⟩ := trodVars_none hV
  have k0 := h0
  have lt0 : ∀ x ∈ p0, x.block < W.heap.size := by obtain ⟨m, hm⟩ := k0; exact DataW.trod_lt m _ _ _ hm
  obtain ⟨d0, m0, u0, zs0, rfl, ra0, da0⟩ : ∃ (d m : Int) (u : Value) (zs : List Nat), v0 = .agg #[.int .i64 d, .int .i64 m, u] ∧ Row .u64 W u zs ∧ Digs 18446744073709551616 zs := by
    obtain ⟨cs, rfl, _⟩ := okWide_struct Tryd.underlying34 (hval 0 34 v0 rfl rfl)
    obtain ⟨fuel, hf⟩ := h0
    obtain ⟨d, m, u, zs, hc, f1, f2, _, _⟩ := open_act hf
    obtain ⟨cs⟩ := cs
    simp [Value.cells] at hc
    exact ⟨d, m, u, zs, by rw [hc], f1, f2⟩
  clear hA0 hval0
  refine (walkScriptNone d0 m0 u0 zs0 W ra0 da0 hTab).mono fun e W' ⟨he, bel⟩ => ?_
  subst he
  exact ⟨_, rfl, _, _, _, [], _, [], hW', trodAll_mk1 (shut_bool Tryd.underlying4 _), (trodAll_cons_mk (Below.trod laidOut (by kernel_rfl) (of_decide_eq_true (by kernel_rfl)) k0 bel lt0) trodAll_mk0), rfl, bel.frame _, fun h => by cases h⟩

theorem over : Rows.scriptNoneRow.holds Tryd.pinned (OpenSpec.ofChange Rows.scriptNoneSpec) :=
  OpenClaim.holds_of_wide 5 Tryd.f5 rfl rfl rfl rfl rfl rfl rfl ⟨rfl, rfl, rfl, rfl, rfl⟩ rfl rfl rfl rfl rfl (by kernel_rfl) Tryd.func5 (by kernel_rfl)
    (of_decide_eq_true (by kernel_rfl)) (by unfold Func.isWrapper; first | (rw [if_pos (by decide +kernel)]; kernel_rfl) | (rw [if_neg (by decide +kernel)]; exact ⟨rfl, rfl⟩))
    (fun os started H enc _ => lifted os started H enc)
end Go.Proofs.YthcchcahmbpbhaaDoor.scriptNone

namespace Go.Proofs.YthcchcahmbpbhaaDoor
theorem ScriptNone_holds : Rows.ScriptNoneCardSaid :=
  Claim7.holds_tied_plain_at .later [] Rows.scriptNoneCard.laidKinds true Rows.scriptNoneCard.stood.harness false scriptNone.over (fun _ h => by cases h) (by kernel_rfl) (fun _ h => by cases h) scriptNone_row_tie rfl ⟨rfl, rfl⟩ (by kernel_rfl) rfl
    (fun f fn hf hfn => by
      obtain rfl : f = 5 := Option.some.inj (hf.symm.trans (by kernel_rfl))
      obtain rfl : fn = Tryd.f5 := (Option.some.inj (Tryd.func5.symm.trans hfn)).symm
      exact ⟨by kernel_rfl, fun j t ht => by
        rw [Tryd.params5] at ht
        have hm : t ∈ [34] := by simpa using Array.mem_of_getElem? ht
        have hall : ([34].all fun u => !Tryd.prog.wantsStandIn u) = true := by kernel_rfl
        exact (show Tryd.prog.wantsStandIn t = false by simpa using List.all_eq_true.1 hall t hm)⟩)
    (by kernel_rfl)
#print axioms ScriptNone_holds
end Go.Proofs.YthcchcahmbpbhaaDoor
