/- For any bytes, any number of bits, any exponent and any number of rounds, a key that the landed Generate makes has a modulus of just so many bits, is well formed, and its halves are unlike and may be primes for the exponent; where there is an error the key is the zero value. -/
import Derived.Test.YtcemlfokmjjiaaaGreatDoorRows
import Derived.Test.YtcemlfokmjjiaaaGreatDoorTie
import Derived.Test.YtcemlfokmjjiaaaGreatDoorCards
import Derived.Test.YtcemlfokmjjiaaaGreatDoorPf1
import Derived.Test.YtcemlfokmjjiaaaGreatDoorPf2
import Derived.Test.YtcemlfokmjjiaaaGreatDoorPf3
import Derived.Test.YtcemlfokmjjiaaaGreatDoorPf4
import Derived.Test.YtcemlfokmjjiaaaGreatDoorPf5
import Derived.Test.YtcemlfokmjjiaaaGreatDoorPf6
import Derived.Test.YtcemlfokmjjiaaaGreatDoorPf7
import Derived.Test.YtcemlfokmjjiaaaGreatDoorPf8
import Derived.Test.YtcemlfokmjjiaaaGreatDoorPf9
import Derived.Test.YtcemlfokmjjiaaaGreatDoorPf10
import Derived.Test.YtcemlfokmjjiaaaGreatDoorPf11
import Derived.Test.YtcemlfokmjjiaaaGreatDoorPf12
import Derived.Test.YtcemlfokmjjiaaaGreatDoorPf13
import Derived.Test.YtcemlfokmjjiaaaGreatDoorPf14
import Derived.Test.YtcemlfokmjjiaaaGreatDoorPf15
import Derived.Test.YtcemlfokmjjiaaaGreatDoorPf16
import Derived.Test.YtcemlfokmjjiaaaGreatDoorPf17
import Derived.Test.YtcemlfokmjjiaaaGreatDoorPf18
import Derived.Test.YtcemlfokmjjiaaaGreatDoorPf19
import Derived.Test.YtcemlfokmjjiaaaGreatDoorPf20
import Derived.Test.YtcemlfokmjjiaaaGreatDoorPf21
import Derived.Test.YtcemlfokmjjiaaaGreatDoorPf22
import Derived.Test.YtcemlfokmjjiaaaGreatDoorPf23
import Derived.Test.YtcemlfokmjjiaaaGreatDoorPf24
import Derived.Test.YtcemlfokmjjiaaaGreatDoorPf25
import Derived.Test.YtcemlfokmjjiaaaGreatDoorPf26
import Derived.Test.YtcemlfokmjjiaaaGreatDoorPf27
import Derived.Test.YtcemlfokmjjiaaaGreatDoorPf28
import Derived.Test.YtcemlfokmjjiaaaGreatDoorPf29
import Derived.Test.YtcemlfokmjjiaaaGreatDoorPf30
import Derived.Test.YtcemlfokmjjiaaaGreatDoorPf31
import Derived.Test.YtcemlfokmjjiaaaGreatDoorPf32
import Derived.Test.YtcemlfokmjjiaaaGreatDoorPf33
import Derived.Test.YtcemlfokmjjiaaaGreatDoorPf34
import Derived.Test.YtcemlfokmjjiaaaGreatDoorPf35
import Derived.Test.YtcemlfokmjjiaaaGreatDoorPf36
import Derived.WalkKit
import Derived.ProofKit
import Derived.OpenShut
import Derived.ShutString
import Derived.ChangeOld
import Derived.Below
import Derived.Lay
import Derived.Lib.LaidU8
import Derived.SevenTiedAt
import Derived.Stop.Joined
namespace Go.Proofs.YtcemlfokmjjiaaaGreatDoor.keygenFormed
open Go.ChangeShapes Go.WideShapes Go.ChangeAt Go.RowKit
open Go.ChangeMaps (open_string shut_string)
set_option linter.unusedVariables false

theorem own : ownKnob Tryz.prog.godebug = none := by kernel_rfl

theorem laidOut : laidOutB Tryz.prog = true := by kernel_rfl

set_option maxRecDepth 100000 in
/-- What the listed tables give the walk. -/
theorem tab_of {W : World} (h : laidMet Tryz.prog Rows.keygenFormedRow.laid W) : NoTab W := trivial

set_option maxRecDepth 100000 in
theorem lifted (os : Os) (started : os.Started) (H : Type) (enc : TypeId × Value → H) :
    ReturnsInHanded {} Tryz.checked os 5 .any (fun w args => (Rows.keygenFormedSpec.pre enc Tryz.prog Tryz.f5 [] false w args ∧ laidMetH Tryz.prog Rows.keygenFormedRow.laid w) ∧ sizedMet enc Tryz.prog Tryz.f5 (OpenSpec.ofChange Rows.keygenFormedSpec) false w args)
      (Rows.keygenFormedSpec.post enc Tryz.prog Tryz.f5 false true false false) := by
  refine returnsInHanded_of_change_and (C := Tryz.checked) (X := fun w _ => laidMetH Tryz.prog Rows.keygenFormedRow.laid w) (fun _ _ _ hh h => h.of_heap hh) own started (by kernel_rfl) Tryz.func5
    (ChangeSpec.witness_shaped (enc := enc) (C := Tryz.checked) (os := os) (X := fun w _ => laidMetH Tryz.prog Rows.keygenFormedRow.laid w) false (World.laidAll Tryz.prog os Rows.keygenFormedRow.laid) #[.slice none 0 0, .int .i64 0, .int .u64 0, .int .i64 0] 8 (World.laidAll_os _ _ _)
      (World.shaped_of_ZipB (by kernel_rfl) (by kernel_rfl)) (by kernel_rfl) (by kernel_rfl) (by kernel_rfl)
      (by rw [MakeChecks.laidMetH_plain _ _ _ (by kernel_rfl)]; exact laidMet_laidAll _ (by kernel_rfl) (by kernel_rfl))) ?_
  intro W base args ds gs before hval0 hW _ _ hL _
  rw [MakeChecks.laidMetH_plain _ _ _ (by kernel_rfl)] at hL
  have hTab := tab_of hL
  have hval : ∀ (j : Nat) t v, Tryz.f5.params[j]? = some t → args[j]? = some v → Value.okWide Tryz.prog W .any base t v := hval0
  have hW' := hW
  obtain ⟨p, q, hA0, hV, rfl, hfz, hnd⟩ := hW
  have hA : DataW.TrodAll enc Tryz.prog W 0 (fun _ => true) true Tryz.f5.params.toList args.toList ds p := hA0
  rw [Tryz.params5] at hA hval
  obtain ⟨v0, vs0, d0, ds0, p0, q0, hargs, rfl, rfl, h0, r0⟩ := trodAll_cons hA
  obtain ⟨v1, vs1, d1, ds1, p1, q1, rfl, rfl, rfl, h1, r1⟩ := trodAll_cons r0
  obtain ⟨v2, vs2, d2, ds2, p2, q2, rfl, rfl, rfl, h2, r2⟩ := trodAll_cons r1
  obtain ⟨v3, vs3, d3, ds3, p3, q3, rfl, rfl, rfl, h3, r3⟩ := trodAll_cons r2
  obtain ⟨rfl, rfl, rfl⟩ := trodAll_nil r3
  obtain rfl : args = #[v0, v1, v2, v3] := by cases args; simp_all
  obtain ⟨rfl, rfl⟩ := trodVars_none hV
  obtain ⟨a0, len0, cap0, rfl⟩ := okWide_slice Tryz.underlying22 (hval 0 22 v0 rfl rfl)
  have k0 := h0
  have lt0 : ∀ x ∈ p0, x.block < W.heap.size := by obtain ⟨m, hm⟩ := k0; exact DataW.trod_lt m _ _ _ hm
  obtain ⟨n0, row0, dg0⟩ : ∃ ns : List Nat, Row .u8 W (.slice a0 len0 cap0) ns ∧ Digs ns 256 := by
    obtain ⟨fuel, hf⟩ := h0
    rcases open_ints Tryz.underlying22 Tryz.underlying5 (by kernel_rfl) hf with ⟨hcs, _⟩ | ⟨x, l, c, zs, hcs, _, hl, hm, hz, _, hcell, hwz⟩
    · simp [Value.cells] at hcs
      obtain ⟨rfl, rfl, rfl⟩ := hcs
      exact row_of_ints wf_u8 (zs := []) (.inl ⟨rfl, rfl, rfl, rfl⟩)
    · simp [Value.cells] at hcs
      obtain ⟨rfl, rfl, rfl⟩ := hcs
      exact row_of_ints wf_u8 (.inr ⟨_, rfl, hl, hm, by simpa using hz, hcell, hwz⟩)
  obtain ⟨a1, rfl, rfl, rfl, w1⟩ := open_int Tryz.underlying3 (hval 1 3 v1 rfl rfl) h1
  obtain ⟨a2, rfl, rfl, rfl, w2⟩ := open_int Tryz.underlying23 (hval 2 23 v2 rfl rfl) h2
  obtain ⟨a3, rfl, rfl, rfl, w3⟩ := open_int Tryz.underlying3 (hval 3 3 v3 rfl rfl) h3
  clear hA0 hval0
  refine (walkKeygenFormed _ n0 a1 a2 a3 W row0 dg0 w1 w2 w3 hTab).mono fun e W' ⟨he, bel⟩ => ?_
  subst he
  exact ⟨_, rfl, _, _, _, [], _, [], hW', trodAll_mk1 (shut_bool Tryz.underlying4 _), (trodAll_cons_mk (Below.trod laidOut (by kernel_rfl) (of_decide_eq_true (by kernel_rfl)) k0 bel lt0) (trodAll_cons_mk (shut_int Tryz.underlying3 w1) (trodAll_cons_mk (shut_int Tryz.underlying23 w2) (trodAll_cons_mk (shut_int Tryz.underlying3 w3) trodAll_mk0)))), rfl, bel.frame _, fun h => by cases h⟩

theorem over : Rows.keygenFormedRow.holds Tryz.pinned (OpenSpec.ofChange Rows.keygenFormedSpec) :=
  OpenClaim.holds_of_wide 5 Tryz.f5 rfl rfl rfl rfl rfl rfl rfl ⟨rfl, rfl, rfl, rfl, rfl⟩ rfl rfl rfl rfl rfl (by kernel_rfl) Tryz.func5 (by kernel_rfl)
    (of_decide_eq_true (by kernel_rfl)) (by unfold Func.isWrapper; first | (rw [if_pos (by decide +kernel)]; kernel_rfl) | (rw [if_neg (by decide +kernel)]; exact ⟨rfl, rfl⟩))
    (fun os started H enc _ => lifted os started H enc)
end Go.Proofs.YtcemlfokmjjiaaaGreatDoor.keygenFormed

namespace Go.Proofs.YtcemlfokmjjiaaaGreatDoor
theorem KeygenFormed_holds : Rows.KeygenFormedCardSaid :=
  Claim7.holds_tied_plain_at .later [] Rows.keygenFormedCard.laidKinds true Rows.keygenFormedCard.stood.harness true keygenFormed.over (fun _ h => by cases h) (by kernel_rfl) (fun _ h => by cases h) keygenFormed_row_tie rfl ⟨rfl, rfl⟩ (by kernel_rfl) rfl
    (fun f fn hf hfn => by
      obtain rfl : f = 5 := Option.some.inj (hf.symm.trans (by kernel_rfl))
      obtain rfl : fn = Tryz.f5 := (Option.some.inj (Tryz.func5.symm.trans hfn)).symm
      exact ⟨by kernel_rfl, fun j t ht => by
        rw [Tryz.params5] at ht
        have hm : t ∈ [22, 3, 23, 3] := by simpa using Array.mem_of_getElem? ht
        have hall : ([22, 3, 23, 3].all fun u => !Tryz.prog.wantsStandIn u) = true := by kernel_rfl
        exact (show Tryz.prog.wantsStandIn t = false by simpa using List.all_eq_true.1 hall t hm)⟩)
    (by kernel_rfl)
#print axioms KeygenFormed_holds
end Go.Proofs.YtcemlfokmjjiaaaGreatDoor
