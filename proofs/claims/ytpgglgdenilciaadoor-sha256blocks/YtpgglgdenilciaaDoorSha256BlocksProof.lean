/- For every state of eight words and all bytes (up to 200), Block of package sha256 answers what the document's own does, refusals too; the listed tables are tied to the program's text. -/
import Derived.Test.YtpgglgdenilciaaDoorRows
import Derived.Test.YtpgglgdenilciaaDoorTie
import Derived.Test.YtpgglgdenilciaaDoorCards
import Derived.Test.YtpgglgdenilciaaDoorBase1
import Derived.Test.YtpgglgdenilciaaDoorOpenRow
import Derived.Test.YtpgglgdenilciaaDoorOpenArr
import Derived.Test.YtpgglgdenilciaaDoorSha1
import Derived.Test.YtpgglgdenilciaaDoorSha2
import Derived.Test.YtpgglgdenilciaaDoorSha3
import Derived.Test.YtpgglgdenilciaaDoorByt1
import Derived.Test.YtpgglgdenilciaaDoorSha4
import Derived.Test.YtpgglgdenilciaaDoorSha5
import Derived.Test.YtpgglgdenilciaaDoorShx1
import Derived.Test.YtpgglgdenilciaaDoorShx2
import Derived.Test.YtpgglgdenilciaaDoorShx3
import Derived.Test.YtpgglgdenilciaaDoorShx4
import Derived.Test.YtpgglgdenilciaaDoorShx5
import Derived.Test.YtpgglgdenilciaaDoorShx6
import Derived.Test.YtpgglgdenilciaaDoorShx7
import Derived.Test.YtpgglgdenilciaaDoorShx8
import Derived.Test.YtpgglgdenilciaaDoorSha6
import Derived.Test.YtpgglgdenilciaaDoorSha7
import Derived.Test.YtpgglgdenilciaaDoorShx9
import Derived.Test.YtpgglgdenilciaaDoorShy1
import Derived.Test.YtpgglgdenilciaaDoorLShaBlocks
import Derived.WalkKit
import Derived.ProofKit
import Derived.OpenShut
import Derived.ShutString
import Derived.ChangeOld
import Derived.Below
import Derived.Lay
import Derived.Lib.LaidU8
import Derived.SevenTiedAt
import Derived.Stop.Joined
namespace Go.Proofs.YtpgglgdenilciaaDoor.sha256Blocks
open Go.ChangeShapes Go.WideShapes Go.ChangeAt Go.RowKit
open Go.ChangeMaps (open_string shut_string)
set_option linter.unusedVariables false

theorem own : ownKnob Tryd.prog.godebug = none := by kernel_rfl

theorem laidOut : laidOutB Tryd.prog = true := by kernel_rfl

set_option maxRecDepth 100000 in
/-- What the listed tables give the walk. -/
theorem tab_of {W : World} (h : laidMet Tryd.prog Rows.sha256BlocksRow.laid W) : Tab11 W := tab11_of (Lib.laidMet.reads h (.head _)) (Lib.laidMet.reads h (.tail _ (.head _)))

set_option maxRecDepth 100000 in
theorem lifted (os : Os) (started : os.Started) (H : Type) (enc : TypeId × Value → H) :
    ReturnsInHanded {} Tryd.checked os 4 .any (fun w args => (Rows.sha256BlocksSpec.pre enc Tryd.prog Tryd.f4 [] false w args ∧ laidMetH Tryd.prog Rows.sha256BlocksRow.laid w) ∧ sizedMet enc Tryd.prog Tryd.f4 (OpenSpec.ofChange Rows.sha256BlocksSpec) false w args)
      (Rows.sha256BlocksSpec.post enc Tryd.prog Tryd.f4 false true false false) := by
  refine returnsInHanded_of_change_and (C := Tryd.checked) (X := fun w _ => laidMetH Tryd.prog Rows.sha256BlocksRow.laid w) (fun _ _ _ hh h => h.of_heap hh) own started (by kernel_rfl) Tryd.func4
    (ChangeSpec.witness_shaped (enc := enc) (C := Tryd.checked) (os := os) (X := fun w _ => laidMetH Tryd.prog Rows.sha256BlocksRow.laid w) false (World.laidAll Tryd.prog os Rows.sha256BlocksRow.laid) #[.agg #[.int .u32 0, .int .u32 0, .int .u32 0, .int .u32 0, .int .u32 0, .int .u32 0, .int .u32 0, .int .u32 0], .slice none 0 0] 8 (World.laidAll_os _ _ _)
      (World.shaped_of_ZipB (by kernel_rfl) (by kernel_rfl)) (by kernel_rfl) (by kernel_rfl) (by kernel_rfl)
      (by rw [MakeChecks.laidMetH_plain _ _ _ (by kernel_rfl)]; exact laidMet_laidAll _ (by kernel_rfl) (by kernel_rfl))) ?_
  intro W base args ds gs before hval0 hW _ _ hL _
  rw [MakeChecks.laidMetH_plain _ _ _ (by kernel_rfl)] at hL
  have hTab := tab_of hL
  have hval : ∀ (j : Nat) t v, Tryd.f4.params[j]? = some t → args[j]? = some v → Value.okWide Tryd.prog W .any base t v := hval0
  have hW' := hW
  obtain ⟨p, q, hA0, hV, rfl, hfz, hnd⟩ := hW
  have hA : DataW.TrodAll enc Tryd.prog W 0 (fun _ => true) true Tryd.f4.params.toList args.toList ds p := hA0
  rw [Tryd.params4] at hA hval
  obtain ⟨v0, vs0, d0, ds0, p0, q0, hargs, rfl, rfl, h0, r0⟩ := trodAll_cons hA
  obtain ⟨v1, vs1, d1, ds1, p1, q1, rfl, rfl, rfl, h1, r1⟩ := trodAll_cons r0
  obtain ⟨rfl, rfl, rfl⟩ := trodAll_nil r1
  obtain rfl : args = #[v0, v1] := by cases args; simp_all
  obtain ⟨rfl, rfl⟩ := trodVars_none hV
  have k0 := h0
  have lt0 : ∀ x ∈ p0, x.block < W.heap.size := by obtain ⟨m, hm⟩ := k0; exact DataW.trod_lt m _ _ _ hm
  obtain ⟨s0, hs0, hd0, rfl⟩ : ∃ s : List Nat, s.length = 8 ∧ Digs 4294967296 s ∧ v0 = .agg (s.map fun z => Value.int .u32 (z : Nat)).toArray := by
    obtain ⟨cs, rfl, _⟩ := okWide_arr Tryd.underlying28 (hval 0 28 v0 rfl rfl)
    obtain ⟨fuel, hf⟩ := h0
    obtain ⟨zs, hl, hc, hd⟩ := open_arr wf_u32 Tryd.underlying28 Tryd.underlying27 (by kernel_rfl) (by kernel_rfl) hf
    obtain ⟨cs⟩ := cs
    simp [Value.cells] at hc
    exact ⟨zs, hl, hd, by rw [hc]⟩
  obtain ⟨a1, len1, cap1, rfl⟩ := okWide_slice Tryd.underlying22 (hval 1 22 v1 rfl rfl)
  have k1 := h1
  have lt1 : ∀ x ∈ p1, x.block < W.heap.size := by obtain ⟨m, hm⟩ := k1; exact DataW.trod_lt m _ _ _ hm
  obtain ⟨n1, row1, dg1⟩ : ∃ ns : List Nat, Row .u8 W (.slice a1 len1 cap1) ns ∧ Digs 256 ns := by
    obtain ⟨fuel, hf⟩ := h1
    rcases open_ints Tryd.underlying22 Tryd.underlying5 (by kernel_rfl) hf with ⟨hcs, _⟩ | ⟨x, l, c, zs, hcs, _, hl, hm, hz, _, hcell, hwz⟩
    · simp [Value.cells] at hcs
      obtain ⟨rfl, rfl, rfl⟩ := hcs
      exact row_of_ints wf_u8 (zs := []) (.inl ⟨rfl, rfl, rfl, rfl⟩)
    · simp [Value.cells] at hcs
      obtain ⟨rfl, rfl, rfl⟩ := hcs
      exact row_of_ints wf_u8 (.inr ⟨_, rfl, hl, hm, by simpa using hz, hcell, hwz⟩)
  clear hA0 hval0
  refine (walkSha256Blocks s0 _ n1 W hs0 hd0 row1 dg1 hTab).mono fun e W' ⟨he, bel⟩ => ?_
  subst he
  exact ⟨_, rfl, _, _, _, [], _, [], hW', trodAll_mk1 (shut_bool Tryd.underlying4 _), (trodAll_cons_mk (Below.trod laidOut (by kernel_rfl) (of_decide_eq_true (by kernel_rfl)) k0 bel lt0) (trodAll_cons_mk (Below.trod laidOut (by kernel_rfl) (of_decide_eq_true (by kernel_rfl)) k1 bel lt1) trodAll_mk0)), rfl, bel.frame _, fun h => by cases h⟩

theorem over : Rows.sha256BlocksRow.holds Tryd.pinned (OpenSpec.ofChange Rows.sha256BlocksSpec) :=
  OpenClaim.holds_of_wide 4 Tryd.f4 rfl rfl rfl rfl rfl rfl rfl ⟨rfl, rfl, rfl, rfl, rfl⟩ rfl rfl rfl rfl rfl (by kernel_rfl) Tryd.func4 (by kernel_rfl)
    (of_decide_eq_true (by kernel_rfl)) (by unfold Func.isWrapper; first | (rw [if_pos (by decide +kernel)]; kernel_rfl) | (rw [if_neg (by decide +kernel)]; exact ⟨rfl, rfl⟩))
    (fun os started H enc _ => lifted os started H enc)
end Go.Proofs.YtpgglgdenilciaaDoor.sha256Blocks

namespace Go.Proofs.YtpgglgdenilciaaDoor
theorem Sha256Blocks_holds : Rows.Sha256BlocksCardSaid :=
  Claim7.holds_tied_plain_at .later [] Rows.sha256BlocksCard.laidKinds true Rows.sha256BlocksCard.stood.harness false sha256Blocks.over (fun _ h => by cases h) (by kernel_rfl) (fun _ h => by cases h) sha256Blocks_row_tie rfl ⟨rfl, rfl⟩ (by kernel_rfl) rfl
    (fun f fn hf hfn => by
      obtain rfl : f = 4 := Option.some.inj (hf.symm.trans (by kernel_rfl))
      obtain rfl : fn = Tryd.f4 := (Option.some.inj (Tryd.func4.symm.trans hfn)).symm
      exact ⟨by kernel_rfl, fun j t ht => by
        rw [Tryd.params4] at ht
        have hm : t ∈ [28, 22] := by simpa using Array.mem_of_getElem? ht
        have hall : ([28, 22].all fun u => !Tryd.prog.wantsStandIn u) = true := by kernel_rfl
        exact (show Tryd.prog.wantsStandIn t = false by simpa using List.all_eq_true.1 hall t hm)⟩)
    (by kernel_rfl)
#print axioms Sha256Blocks_holds
end Go.Proofs.YtpgglgdenilciaaDoor
