/- Whatever fault strikes the private power: what is answered has the right public power, or it is noughts and an error, with a tied card of the listed tables. -/
import Derived.Test.YtkaojflnghfmcaaGreatDoorRows
import Derived.Test.YtkaojflnghfmcaaGreatDoorTie
import Derived.Test.YtkaojflnghfmcaaGreatDoorCards
import Derived.Test.YtkaojflnghfmcaaGreatDoorQC1
import Derived.Test.YtkaojflnghfmcaaGreatDoorQC2
import Derived.Test.YtkaojflnghfmcaaGreatDoorQC3
import Derived.Test.YtkaojflnghfmcaaGreatDoorQC4
import Derived.Test.YtkaojflnghfmcaaGreatDoorQC5
import Derived.Test.YtkaojflnghfmcaaGreatDoorQC6
import Derived.Test.YtkaojflnghfmcaaGreatDoorQC7
import Derived.Test.YtkaojflnghfmcaaGreatDoorQC8
import Derived.Test.YtkaojflnghfmcaaGreatDoorQC9
import Derived.Test.YtkaojflnghfmcaaGreatDoorQC10
import Derived.Test.YtkaojflnghfmcaaGreatDoorQC11
import Derived.Test.YtkaojflnghfmcaaGreatDoorQC12
import Derived.Test.YtkaojflnghfmcaaGreatDoorQC13
import Derived.Test.YtkaojflnghfmcaaGreatDoorQC14
import Derived.Test.YtkaojflnghfmcaaGreatDoorQC15
import Derived.Test.YtkaojflnghfmcaaGreatDoorQC16
import Derived.Test.YtkaojflnghfmcaaGreatDoorQC17
import Derived.Test.YtkaojflnghfmcaaGreatDoorQC18
import Derived.Test.YtkaojflnghfmcaaGreatDoorQC19
import Derived.Test.YtkaojflnghfmcaaGreatDoorQC20
import Derived.Test.YtkaojflnghfmcaaGreatDoorQC21
import Derived.Test.YtkaojflnghfmcaaGreatDoorQC22
import Derived.Test.YtkaojflnghfmcaaGreatDoorQC23
import Derived.Test.YtkaojflnghfmcaaGreatDoorQC24
import Derived.Test.YtkaojflnghfmcaaGreatDoorQC25
import Derived.Test.YtkaojflnghfmcaaGreatDoorQC26
import Derived.Test.YtkaojflnghfmcaaGreatDoorQC27
import Derived.Test.YtkaojflnghfmcaaGreatDoorQC28
import Derived.Test.YtkaojflnghfmcaaGreatDoorQC29
import Derived.Test.YtkaojflnghfmcaaGreatDoorQC30
import Derived.Test.YtkaojflnghfmcaaGreatDoorQC31
import Derived.Test.YtkaojflnghfmcaaGreatDoorQC32
import Derived.Test.YtkaojflnghfmcaaGreatDoorQC33
import Derived.Test.YtkaojflnghfmcaaGreatDoorQC34
import Derived.Test.YtkaojflnghfmcaaGreatDoorQC35
import Derived.Test.YtkaojflnghfmcaaGreatDoorQC36
import Derived.Test.YtkaojflnghfmcaaGreatDoorQC37
import Derived.Test.YtkaojflnghfmcaaGreatDoorQC38
import Derived.WalkKit
import Derived.ProofKit
import Derived.OpenShut
import Derived.ShutString
import Derived.ChangeOld
import Derived.Below
import Derived.Lay
import Derived.Lib.LaidU8
import Derived.SevenTiedAt
import Derived.Stop.Joined
namespace Go.Proofs.YtkaojflnghfmcaaGreatDoor.privateFaults
open Go.ChangeShapes Go.WideShapes Go.ChangeAt Go.RowKit
open Go.ChangeMaps (open_string shut_string)
set_option linter.unusedVariables false

theorem own : ownKnob Tryz.prog.godebug = none := by kernel_rfl

theorem laidOut : laidOutB Tryz.prog = true := by kernel_rfl

set_option maxRecDepth 100000 in
/-- What the listed tables give the walk. -/
theorem tab_of {W : World} (h : laidMet Tryz.prog Rows.privateFaultsRow.laid W) : NoTab W := trivial

set_option maxRecDepth 100000 in
theorem lifted (os : Os) (started : os.Started) (H : Type) (enc : TypeId × Value → H) :
    ReturnsInHanded {} Tryz.checked os 5 .any (fun w args => (Rows.privateFaultsSpec.pre enc Tryz.prog Tryz.f5 [] false w args ∧ laidMetH Tryz.prog Rows.privateFaultsRow.laid w) ∧ sizedMet enc Tryz.prog Tryz.f5 (OpenSpec.ofChange Rows.privateFaultsSpec) false w args)
      (Rows.privateFaultsSpec.post enc Tryz.prog Tryz.f5 false true false false) := by
  refine returnsInHanded_of_change_and (C := Tryz.checked) (X := fun w _ => laidMetH Tryz.prog Rows.privateFaultsRow.laid w) (fun _ _ _ hh h => h.of_heap hh) own started (by kernel_rfl) Tryz.func5
    (ChangeSpec.witness_shaped (enc := enc) (C := Tryz.checked) (os := os) (X := fun w _ => laidMetH Tryz.prog Rows.privateFaultsRow.laid w) false (World.laidAll Tryz.prog os Rows.privateFaultsRow.laid) #[.agg #[.slice none 0 0, .int .u64 0, .slice none 0 0, .slice none 0 0, .slice none 0 0, .slice none 0 0, .slice none 0 0, .slice none 0 0], .slice none 0 0, .slice none 0 0, .agg #[.int .i64 0, .slice none 0 0]] 8 (World.laidAll_os _ _ _)
      (World.shaped_of_ZipB (by kernel_rfl) (by kernel_rfl)) (by kernel_rfl) (by kernel_rfl) (by kernel_rfl)
      (by rw [MakeChecks.laidMetH_plain _ _ _ (by kernel_rfl)]; exact laidMet_laidAll _ (by kernel_rfl) (by kernel_rfl))) ?_
  intro W base args ds gs before hval0 hW _ _ hL _
  rw [MakeChecks.laidMetH_plain _ _ _ (by kernel_rfl)] at hL
  have hTab := tab_of hL
  have hval : ∀ (j : Nat) t v, Tryz.f5.params[j]? = some t → args[j]? = some v → Value.okWide Tryz.prog W .any base t v := hval0
  have hW' := hW
  obtain ⟨p, q, hA0, hV, rfl, hfz, hnd⟩ := hW
  have hA : DataW.TrodAll enc Tryz.prog W 0 (fun _ => true) true Tryz.f5.params.toList args.toList ds p := hA0
  rw [Tryz.params5] at hA hval
  obtain ⟨v0, vs0, d0, ds0, p0, q0, hargs, rfl, rfl, h0, r0⟩ := trodAll_cons hA
  obtain ⟨v1, vs1, d1, ds1, p1, q1, rfl, rfl, rfl, h1, r1⟩ := trodAll_cons r0
  obtain ⟨v2, vs2, d2, ds2, p2, q2, rfl, rfl, rfl, h2, r2⟩ := trodAll_cons r1
  obtain ⟨v3, vs3, d3, ds3, p3, q3, rfl, rfl, rfl, h3, r3⟩ := trodAll_cons r2
  obtain ⟨rfl, rfl, rfl⟩ := trodAll_nil r3
  obtain rfl : args = #[v0, v1, v2, v3] := by cases args; simp_all
  obtain ⟨rfl, rfl⟩ := trodVars_none hV
  have k0 := h0
  have lt0 : ∀ x ∈ p0, x.block < W.heap.size := by obtain ⟨m, hm⟩ := k0; exact DataW.trod_lt m _ _ _ hm
  obtain ⟨t0, l0, rfl, ra0, da0, wk0⟩ : ∃ (t : KS) (l : KL), v0 = .agg t.v ∧ t.Rows W l ∧ l.Digs ∧ t.en < 18446744073709551616 := by
    obtain ⟨cs, rfl, _⟩ := okWide_struct Tryz.underlying26 (hval 0 26 v0 rfl rfl)
    obtain ⟨fuel, hf⟩ := h0
    obtain ⟨t, l, hc, f1, f2, f3⟩ := open_key hf
    obtain ⟨cs⟩ := cs
    simp [Value.cells] at hc
    exact ⟨t, l, by rw [hc], f1, f2, f3⟩
  obtain ⟨a1, len1, cap1, rfl⟩ := okWide_slice Tryz.underlying27 (hval 1 27 v1 rfl rfl)
  have k1 := h1
  have lt1 : ∀ x ∈ p1, x.block < W.heap.size := by obtain ⟨m, hm⟩ := k1; exact DataW.trod_lt m _ _ _ hm
  obtain ⟨n1, row1, dg1⟩ : ∃ ns : List Nat, Row .u8 W (.slice a1 len1 cap1) ns ∧ Digs ns 256 := by
    obtain ⟨fuel, hf⟩ := h1
    rcases open_ints Tryz.underlying27 Tryz.underlying5 (by kernel_rfl) hf with ⟨hcs, _⟩ | ⟨x, l, c, zs, hcs, _, hl, hm, hz, _, hcell, hwz⟩
    · simp [Value.cells] at hcs
      obtain ⟨rfl, rfl, rfl⟩ := hcs
      exact row_of_ints wf_u8 (zs := []) (.inl ⟨rfl, rfl, rfl, rfl⟩)
    · simp [Value.cells] at hcs
      obtain ⟨rfl, rfl, rfl⟩ := hcs
      exact row_of_ints wf_u8 (.inr ⟨_, rfl, hl, hm, by simpa using hz, hcell, hwz⟩)
  obtain ⟨a2, len2, cap2, rfl⟩ := okWide_slice Tryz.underlying27 (hval 2 27 v2 rfl rfl)
  have k2 := h2
  have lt2 : ∀ x ∈ p2, x.block < W.heap.size := by obtain ⟨m, hm⟩ := k2; exact DataW.trod_lt m _ _ _ hm
  obtain ⟨n2, row2, dg2⟩ : ∃ ns : List Nat, Row .u8 W (.slice a2 len2 cap2) ns ∧ Digs ns 256 := by
    obtain ⟨fuel, hf⟩ := h2
    rcases open_ints Tryz.underlying27 Tryz.underlying5 (by kernel_rfl) hf with ⟨hcs, _⟩ | ⟨x, l, c, zs, hcs, _, hl, hm, hz, _, hcell, hwz⟩
    · simp [Value.cells] at hcs
      obtain ⟨rfl, rfl, rfl⟩ := hcs
      exact row_of_ints wf_u8 (zs := []) (.inl ⟨rfl, rfl, rfl, rfl⟩)
    · simp [Value.cells] at hcs
      obtain ⟨rfl, rfl, rfl⟩ := hcs
      exact row_of_ints wf_u8 (.inr ⟨_, rfl, hl, hm, by simpa using hz, hcell, hwz⟩)
  have k3 := h3
  have lt3 : ∀ x ∈ p3, x.block < W.heap.size := by obtain ⟨m, hm⟩ := k3; exact DataW.trod_lt m _ _ _ hm
  obtain ⟨n3, u3, zs3, rfl, ra3, da3, wn3⟩ : ∃ (k : Int) (u : Value) (zs : List Nat), v3 = .agg #[.int .i64 k, u] ∧ Row .u64 W u zs ∧ Digs zs ∧ AtOk k := by
    obtain ⟨cs, rfl, _⟩ := okWide_struct Tryz.underlying31 (hval 3 31 v3 rfl rfl)
    obtain ⟨fuel, hf⟩ := h3
    obtain ⟨k, u, zs, hc, f1, f2, f3⟩ := open_fault hf
    obtain ⟨cs⟩ := cs
    simp [Value.cells] at hc
    exact ⟨k, u, zs, by rw [hc], f1, f2, f3⟩
  clear hA0 hval0
  refine (walkPrivateFaults t0 l0 _ n1 _ n2 n3 u3 zs3 W ra0 row1 row2 ra3 da0 dg1 dg2 da3 wk0 wn3 hTab).mono fun e W' ⟨he, bel⟩ => ?_
  subst he
  exact ⟨_, rfl, _, _, _, [], _, [], hW', trodAll_mk1 (shut_bool Tryz.underlying4 _), (trodAll_cons_mk (Below.trod laidOut (by kernel_rfl) (of_decide_eq_true (by kernel_rfl)) k0 bel lt0) (trodAll_cons_mk (Below.trod laidOut (by kernel_rfl) (of_decide_eq_true (by kernel_rfl)) k1 bel lt1) (trodAll_cons_mk (Below.trod laidOut (by kernel_rfl) (of_decide_eq_true (by kernel_rfl)) k2 bel lt2) (trodAll_cons_mk (Below.trod laidOut (by kernel_rfl) (of_decide_eq_true (by kernel_rfl)) k3 bel lt3) trodAll_mk0)))), rfl, bel.frame _, fun h => by cases h⟩

theorem over : Rows.privateFaultsRow.holds Tryz.pinned (OpenSpec.ofChange Rows.privateFaultsSpec) :=
  OpenClaim.holds_of_wide 5 Tryz.f5 rfl rfl rfl rfl rfl rfl rfl ⟨rfl, rfl, rfl, rfl, rfl⟩ rfl rfl rfl rfl rfl (by kernel_rfl) Tryz.func5 (by kernel_rfl)
    (of_decide_eq_true (by kernel_rfl)) (by unfold Func.isWrapper; first | (rw [if_pos (by decide +kernel)]; kernel_rfl) | (rw [if_neg (by decide +kernel)]; exact ⟨rfl, rfl⟩))
    (fun os started H enc _ => lifted os started H enc)
end Go.Proofs.YtkaojflnghfmcaaGreatDoor.privateFaults

namespace Go.Proofs.YtkaojflnghfmcaaGreatDoor
theorem PrivateFaults_holds : Rows.PrivateFaultsCardSaid :=
  Claim7.holds_tied_plain_at .later [] Rows.privateFaultsCard.laidKinds true Rows.privateFaultsCard.stood.harness true privateFaults.over (fun _ h => by cases h) (by kernel_rfl) (fun _ h => by cases h) privateFaults_row_tie rfl ⟨rfl, rfl⟩ (by kernel_rfl) rfl
    (fun f fn hf hfn => by
      obtain rfl : f = 5 := Option.some.inj (hf.symm.trans (by kernel_rfl))
      obtain rfl : fn = Tryz.f5 := (Option.some.inj (Tryz.func5.symm.trans hfn)).symm
      exact ⟨by kernel_rfl, fun j t ht => by
        rw [Tryz.params5] at ht
        have hm : t ∈ [26, 27, 27, 31] := by simpa using Array.mem_of_getElem? ht
        have hall : ([26, 27, 27, 31].all fun u => !Tryz.prog.wantsStandIn u) = true := by kernel_rfl
        exact (show Tryz.prog.wantsStandIn t = false by simpa using List.all_eq_true.1 hall t hm)⟩)
    (by kernel_rfl)
#print axioms PrivateFaults_holds
end Go.Proofs.YtkaojflnghfmcaaGreatDoor
