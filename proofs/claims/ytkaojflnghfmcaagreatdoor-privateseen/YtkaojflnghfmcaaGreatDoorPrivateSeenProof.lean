/- What a private power writes down is the same for any text, script and fault, and for any key whose numbers are as long, with a tied card of the listed tables. -/
import Derived.Test.YtkaojflnghfmcaaGreatDoorRows
import Derived.Test.YtkaojflnghfmcaaGreatDoorTie
import Derived.Test.YtkaojflnghfmcaaGreatDoorCards
import Derived.Test.YtkaojflnghfmcaaGreatDoorQB1
import Derived.Test.YtkaojflnghfmcaaGreatDoorQB2
import Derived.Test.YtkaojflnghfmcaaGreatDoorQB3
import Derived.Test.YtkaojflnghfmcaaGreatDoorQB4
import Derived.Test.YtkaojflnghfmcaaGreatDoorQB5
import Derived.Test.YtkaojflnghfmcaaGreatDoorQB6
import Derived.Test.YtkaojflnghfmcaaGreatDoorQB7
import Derived.Test.YtkaojflnghfmcaaGreatDoorQB8
import Derived.Test.YtkaojflnghfmcaaGreatDoorQB9
import Derived.Test.YtkaojflnghfmcaaGreatDoorQB10
import Derived.Test.YtkaojflnghfmcaaGreatDoorQB11
import Derived.Test.YtkaojflnghfmcaaGreatDoorQB12
import Derived.Test.YtkaojflnghfmcaaGreatDoorQB13
import Derived.Test.YtkaojflnghfmcaaGreatDoorQB14
import Derived.Test.YtkaojflnghfmcaaGreatDoorQB15
import Derived.Test.YtkaojflnghfmcaaGreatDoorQB16
import Derived.Test.YtkaojflnghfmcaaGreatDoorQB17
import Derived.Test.YtkaojflnghfmcaaGreatDoorQB18
import Derived.Test.YtkaojflnghfmcaaGreatDoorQB19
import Derived.Test.YtkaojflnghfmcaaGreatDoorQB20
import Derived.Test.YtkaojflnghfmcaaGreatDoorQB21
import Derived.Test.YtkaojflnghfmcaaGreatDoorQB22
import Derived.Test.YtkaojflnghfmcaaGreatDoorQB23
import Derived.Test.YtkaojflnghfmcaaGreatDoorQB24
import Derived.Test.YtkaojflnghfmcaaGreatDoorQB25
import Derived.Test.YtkaojflnghfmcaaGreatDoorQB26
import Derived.Test.YtkaojflnghfmcaaGreatDoorQB27
import Derived.Test.YtkaojflnghfmcaaGreatDoorQB28
import Derived.Test.YtkaojflnghfmcaaGreatDoorQB29
import Derived.Test.YtkaojflnghfmcaaGreatDoorQB30
import Derived.Test.YtkaojflnghfmcaaGreatDoorQB31
import Derived.Test.YtkaojflnghfmcaaGreatDoorQB32
import Derived.Test.YtkaojflnghfmcaaGreatDoorQB33
import Derived.Test.YtkaojflnghfmcaaGreatDoorQB34
import Derived.Test.YtkaojflnghfmcaaGreatDoorQB35
import Derived.Test.YtkaojflnghfmcaaGreatDoorQB36
import Derived.WalkKit
import Derived.ProofKit
import Derived.OpenShut
import Derived.ShutString
import Derived.ChangeOld
import Derived.Below
import Derived.Lay
import Derived.Lib.LaidU8
import Derived.SevenTiedAt
import Derived.Stop.Joined
namespace Go.Proofs.YtkaojflnghfmcaaGreatDoor.privateSeen
open Go.ChangeShapes Go.WideShapes Go.ChangeAt Go.RowKit
open Go.ChangeMaps (open_string shut_string)
set_option linter.unusedVariables false

theorem own : ownKnob Tryz.prog.godebug = none := by kernel_rfl

theorem laidOut : laidOutB Tryz.prog = true := by kernel_rfl

set_option maxRecDepth 100000 in
/-- What the listed tables give the walk. -/
theorem tab_of {W : World} (h : laidMet Tryz.prog Rows.privateSeenRow.laid W) : NoTab W := trivial

set_option maxRecDepth 100000 in
theorem lifted (os : Os) (started : os.Started) (H : Type) (enc : TypeId × Value → H) :
    ReturnsInHanded {} Tryz.checked os 6 .any (fun w args => (Rows.privateSeenSpec.pre enc Tryz.prog Tryz.f6 [] false w args ∧ laidMetH Tryz.prog Rows.privateSeenRow.laid w) ∧ sizedMet enc Tryz.prog Tryz.f6 (OpenSpec.ofChange Rows.privateSeenSpec) false w args)
      (Rows.privateSeenSpec.post enc Tryz.prog Tryz.f6 false true false false) := by
  refine returnsInHanded_of_change_and (C := Tryz.checked) (X := fun w _ => laidMetH Tryz.prog Rows.privateSeenRow.laid w) (fun _ _ _ hh h => h.of_heap hh) own started (by kernel_rfl) Tryz.func6
    (ChangeSpec.witness_shaped (enc := enc) (C := Tryz.checked) (os := os) (X := fun w _ => laidMetH Tryz.prog Rows.privateSeenRow.laid w) false (World.laidAll Tryz.prog os Rows.privateSeenRow.laid) #[.agg #[.slice none 0 0, .int .u64 0, .slice none 0 0, .slice none 0 0, .slice none 0 0, .slice none 0 0, .slice none 0 0, .slice none 0 0], .agg #[.slice none 0 0, .int .u64 0, .slice none 0 0, .slice none 0 0, .slice none 0 0, .slice none 0 0, .slice none 0 0, .slice none 0 0], .slice none 0 0, .slice none 0 0, .slice none 0 0, .slice none 0 0, .agg #[.int .i64 0, .slice none 0 0], .agg #[.int .i64 0, .slice none 0 0]] 8 (World.laidAll_os _ _ _)
      (World.shaped_of_ZipB (by kernel_rfl) (by kernel_rfl)) (by kernel_rfl) (by kernel_rfl) (by kernel_rfl)
      (by rw [MakeChecks.laidMetH_plain _ _ _ (by kernel_rfl)]; exact laidMet_laidAll _ (by kernel_rfl) (by kernel_rfl))) ?_
  intro W base args ds gs before hval0 hW _ _ hL _
  rw [MakeChecks.laidMetH_plain _ _ _ (by kernel_rfl)] at hL
  have hTab := tab_of hL
  have hval : ∀ (j : Nat) t v, Tryz.f6.params[j]? = some t → args[j]? = some v → Value.okWide Tryz.prog W .any base t v := hval0
  have hW' := hW
  obtain ⟨p, q, hA0, hV, rfl, hfz, hnd⟩ := hW
  have hA : DataW.TrodAll enc Tryz.prog W 0 (fun _ => true) true Tryz.f6.params.toList args.toList ds p := hA0
  rw [Tryz.params6] at hA hval
  obtain ⟨v0, vs0, d0, ds0, p0, q0, hargs, rfl, rfl, h0, r0⟩ := trodAll_cons hA
  obtain ⟨v1, vs1, d1, ds1, p1, q1, rfl, rfl, rfl, h1, r1⟩ := trodAll_cons r0
  obtain ⟨v2, vs2, d2, ds2, p2, q2, rfl, rfl, rfl, h2, r2⟩ := trodAll_cons r1
  obtain ⟨v3, vs3, d3, ds3, p3, q3, rfl, rfl, rfl, h3, r3⟩ := trodAll_cons r2
  obtain ⟨v4, vs4, d4, ds4, p4, q4, rfl, rfl, rfl, h4, r4⟩ := trodAll_cons r3
  obtain ⟨v5, vs5, d5, ds5, p5, q5, rfl, rfl, rfl, h5, r5⟩ := trodAll_cons r4
  obtain ⟨v6, vs6, d6, ds6, p6, q6, rfl, rfl, rfl, h6, r6⟩ := trodAll_cons r5
  obtain ⟨v7, vs7, d7, ds7, p7, q7, rfl, rfl, rfl, h7, r7⟩ := trodAll_cons r6
  obtain ⟨rfl, rfl, rfl⟩ := trodAll_nil r7
  obtain rfl : args = #[v0, v1, v2, v3, v4, v5, v6, v7] := by cases args; simp_all
  obtain ⟨rfl, rfl⟩ := trodVars_none hV
  have k0 := h0
  have lt0 : ∀ x ∈ p0, x.block < W.heap.size := by obtain ⟨m, hm⟩ := k0; exact DataW.trod_lt m _ _ _ hm
  obtain ⟨t0, l0, rfl, ra0, da0, wk0⟩ : ∃ (t : KS) (l : KL), v0 = .agg t.v ∧ t.Rows W l ∧ l.Digs ∧ t.en < 18446744073709551616 := by
    obtain ⟨cs, rfl, _⟩ := okWide_struct Tryz.underlying26 (hval 0 26 v0 rfl rfl)
    obtain ⟨fuel, hf⟩ := h0
    obtain ⟨t, l, hc, f1, f2, f3⟩ := open_key hf
    obtain ⟨cs⟩ := cs
    simp [Value.cells] at hc
    exact ⟨t, l, by rw [hc], f1, f2, f3⟩
  have k1 := h1
  have lt1 : ∀ x ∈ p1, x.block < W.heap.size := by obtain ⟨m, hm⟩ := k1; exact DataW.trod_lt m _ _ _ hm
  obtain ⟨t1, l1, rfl, ra1, da1, wk1⟩ : ∃ (t : KS) (l : KL), v1 = .agg t.v ∧ t.Rows W l ∧ l.Digs ∧ t.en < 18446744073709551616 := by
    obtain ⟨cs, rfl, _⟩ := okWide_struct Tryz.underlying26 (hval 1 26 v1 rfl rfl)
    obtain ⟨fuel, hf⟩ := h1
    obtain ⟨t, l, hc, f1, f2, f3⟩ := open_key hf
    obtain ⟨cs⟩ := cs
    simp [Value.cells] at hc
    exact ⟨t, l, by rw [hc], f1, f2, f3⟩
  obtain ⟨a2, len2, cap2, rfl⟩ := okWide_slice Tryz.underlying27 (hval 2 27 v2 rfl rfl)
  have k2 := h2
  have lt2 : ∀ x ∈ p2, x.block < W.heap.size := by obtain ⟨m, hm⟩ := k2; exact DataW.trod_lt m _ _ _ hm
  obtain ⟨n2, row2, dg2⟩ : ∃ ns : List Nat, Row .u8 W (.slice a2 len2 cap2) ns ∧ Digs ns 256 := by
    obtain ⟨fuel, hf⟩ := h2
    rcases open_ints Tryz.underlying27 Tryz.underlying5 (by kernel_rfl) hf with ⟨hcs, _⟩ | ⟨x, l, c, zs, hcs, _, hl, hm, hz, _, hcell, hwz⟩
    · simp [Value.cells] at hcs
      obtain ⟨rfl, rfl, rfl⟩ := hcs
      exact row_of_ints wf_u8 (zs := []) (.inl ⟨rfl, rfl, rfl, rfl⟩)
    · simp [Value.cells] at hcs
      obtain ⟨rfl, rfl, rfl⟩ := hcs
      exact row_of_ints wf_u8 (.inr ⟨_, rfl, hl, hm, by simpa using hz, hcell, hwz⟩)
  obtain ⟨a3, len3, cap3, rfl⟩ := okWide_slice Tryz.underlying27 (hval 3 27 v3 rfl rfl)
  have k3 := h3
  have lt3 : ∀ x ∈ p3, x.block < W.heap.size := by obtain ⟨m, hm⟩ := k3; exact DataW.trod_lt m _ _ _ hm
  obtain ⟨n3, row3, dg3⟩ : ∃ ns : List Nat, Row .u8 W (.slice a3 len3 cap3) ns ∧ Digs ns 256 := by
    obtain ⟨fuel, hf⟩ := h3
    rcases open_ints Tryz.underlying27 Tryz.underlying5 (by kernel_rfl) hf with ⟨hcs, _⟩ | ⟨x, l, c, zs, hcs, _, hl, hm, hz, _, hcell, hwz⟩
    · simp [Value.cells] at hcs
      obtain ⟨rfl, rfl, rfl⟩ := hcs
      exact row_of_ints wf_u8 (zs := []) (.inl ⟨rfl, rfl, rfl, rfl⟩)
    · simp [Value.cells] at hcs
      obtain ⟨rfl, rfl, rfl⟩ := hcs
      exact row_of_ints wf_u8 (.inr ⟨_, rfl, hl, hm, by simpa using hz, hcell, hwz⟩)
  obtain ⟨a4, len4, cap4, rfl⟩ := okWide_slice Tryz.underlying27 (hval 4 27 v4 rfl rfl)
  have k4 := h4
  have lt4 : ∀ x ∈ p4, x.block < W.heap.size := by obtain ⟨m, hm⟩ := k4; exact DataW.trod_lt m _ _ _ hm
  obtain ⟨n4, row4, dg4⟩ : ∃ ns : List Nat, Row .u8 W (.slice a4 len4 cap4) ns ∧ Digs ns 256 := by
    obtain ⟨fuel, hf⟩ := h4
    rcases open_ints Tryz.underlying27 Tryz.underlying5 (by kernel_rfl) hf with ⟨hcs, _⟩ | ⟨x, l, c, zs, hcs, _, hl, hm, hz, _, hcell, hwz⟩
    · simp [Value.cells] at hcs
      obtain ⟨rfl, rfl, rfl⟩ := hcs
      exact row_of_ints wf_u8 (zs := []) (.inl ⟨rfl, rfl, rfl, rfl⟩)
    · simp [Value.cells] at hcs
      obtain ⟨rfl, rfl, rfl⟩ := hcs
      exact row_of_ints wf_u8 (.inr ⟨_, rfl, hl, hm, by simpa using hz, hcell, hwz⟩)
  obtain ⟨a5, len5, cap5, rfl⟩ := okWide_slice Tryz.underlying27 (hval 5 27 v5 rfl rfl)
  have k5 := h5
  have lt5 : ∀ x ∈ p5, x.block < W.heap.size := by obtain ⟨m, hm⟩ := k5; exact DataW.trod_lt m _ _ _ hm
  obtain ⟨n5, row5, dg5⟩ : ∃ ns : List Nat, Row .u8 W (.slice a5 len5 cap5) ns ∧ Digs ns 256 := by
    obtain ⟨fuel, hf⟩ := h5
    rcases open_ints Tryz.underlying27 Tryz.underlying5 (by kernel_rfl) hf with ⟨hcs, _⟩ | ⟨x, l, c, zs, hcs, _, hl, hm, hz, _, hcell, hwz⟩
    · simp [Value.cells] at hcs
      obtain ⟨rfl, rfl, rfl⟩ := hcs
      exact row_of_ints wf_u8 (zs := []) (.inl ⟨rfl, rfl, rfl, rfl⟩)
    · simp [Value.cells] at hcs
      obtain ⟨rfl, rfl, rfl⟩ := hcs
      exact row_of_ints wf_u8 (.inr ⟨_, rfl, hl, hm, by simpa using hz, hcell, hwz⟩)
  have k6 := h6
  have lt6 : ∀ x ∈ p6, x.block < W.heap.size := by obtain ⟨m, hm⟩ := k6; exact DataW.trod_lt m _ _ _ hm
  obtain ⟨n6, u6, zs6, rfl, ra6, da6, wn6⟩ : ∃ (k : Int) (u : Value) (zs : List Nat), v6 = .agg #[.int .i64 k, u] ∧ Row .u64 W u zs ∧ Digs zs ∧ AtOk k := by
    obtain ⟨cs, rfl, _⟩ := okWide_struct Tryz.underlying31 (hval 6 31 v6 rfl rfl)
    obtain ⟨fuel, hf⟩ := h6
    obtain ⟨k, u, zs, hc, f1, f2, f3⟩ := open_fault hf
    obtain ⟨cs⟩ := cs
    simp [Value.cells] at hc
    exact ⟨k, u, zs, by rw [hc], f1, f2, f3⟩
  have k7 := h7
  have lt7 : ∀ x ∈ p7, x.block < W.heap.size := by obtain ⟨m, hm⟩ := k7; exact DataW.trod_lt m _ _ _ hm
  obtain ⟨n7, u7, zs7, rfl, ra7, da7, wn7⟩ : ∃ (k : Int) (u : Value) (zs : List Nat), v7 = .agg #[.int .i64 k, u] ∧ Row .u64 W u zs ∧ Digs zs ∧ AtOk k := by
    obtain ⟨cs, rfl, _⟩ := okWide_struct Tryz.underlying31 (hval 7 31 v7 rfl rfl)
    obtain ⟨fuel, hf⟩ := h7
    obtain ⟨k, u, zs, hc, f1, f2, f3⟩ := open_fault hf
    obtain ⟨cs⟩ := cs
    simp [Value.cells] at hc
    exact ⟨k, u, zs, by rw [hc], f1, f2, f3⟩
  clear hA0 hval0
  refine (walkPrivateSeen t0 l0 t1 l1 _ n2 _ n3 _ n4 _ n5 n6 u6 zs6 n7 u7 zs7 W ra0 ra1 row2 row3 row4 row5 ra6 ra7 da0 da1 dg2 dg3 dg4 dg5 da6 da7 wk0 wk1 wn6 wn7 hTab).mono fun e W' ⟨he, bel⟩ => ?_
  subst he
  exact ⟨_, rfl, _, _, _, [], _, [], hW', trodAll_mk1 (shut_bool Tryz.underlying4 _), (trodAll_cons_mk (Below.trod laidOut (by kernel_rfl) (of_decide_eq_true (by kernel_rfl)) k0 bel lt0) (trodAll_cons_mk (Below.trod laidOut (by kernel_rfl) (of_decide_eq_true (by kernel_rfl)) k1 bel lt1) (trodAll_cons_mk (Below.trod laidOut (by kernel_rfl) (of_decide_eq_true (by kernel_rfl)) k2 bel lt2) (trodAll_cons_mk (Below.trod laidOut (by kernel_rfl) (of_decide_eq_true (by kernel_rfl)) k3 bel lt3) (trodAll_cons_mk (Below.trod laidOut (by kernel_rfl) (of_decide_eq_true (by kernel_rfl)) k4 bel lt4) (trodAll_cons_mk (Below.trod laidOut (by kernel_rfl) (of_decide_eq_true (by kernel_rfl)) k5 bel lt5) (trodAll_cons_mk (Below.trod laidOut (by kernel_rfl) (of_decide_eq_true (by kernel_rfl)) k6 bel lt6) (trodAll_cons_mk (Below.trod laidOut (by kernel_rfl) (of_decide_eq_true (by kernel_rfl)) k7 bel lt7) trodAll_mk0)))))))), rfl, bel.frame _, fun h => by cases h⟩

theorem over : Rows.privateSeenRow.holds Tryz.pinned (OpenSpec.ofChange Rows.privateSeenSpec) :=
  OpenClaim.holds_of_wide 6 Tryz.f6 rfl rfl rfl rfl rfl rfl rfl ⟨rfl, rfl, rfl, rfl, rfl⟩ rfl rfl rfl rfl rfl (by kernel_rfl) Tryz.func6 (by kernel_rfl)
    (of_decide_eq_true (by kernel_rfl)) (by unfold Func.isWrapper; first | (rw [if_pos (by decide +kernel)]; kernel_rfl) | (rw [if_neg (by decide +kernel)]; exact ⟨rfl, rfl⟩))
    (fun os started H enc _ => lifted os started H enc)
end Go.Proofs.YtkaojflnghfmcaaGreatDoor.privateSeen

namespace Go.Proofs.YtkaojflnghfmcaaGreatDoor
theorem PrivateSeen_holds : Rows.PrivateSeenCardSaid :=
  Claim7.holds_tied_plain_at .later [] Rows.privateSeenCard.laidKinds true Rows.privateSeenCard.stood.harness true privateSeen.over (fun _ h => by cases h) (by kernel_rfl) (fun _ h => by cases h) privateSeen_row_tie rfl ⟨rfl, rfl⟩ (by kernel_rfl) rfl
    (fun f fn hf hfn => by
      obtain rfl : f = 6 := Option.some.inj (hf.symm.trans (by kernel_rfl))
      obtain rfl : fn = Tryz.f6 := (Option.some.inj (Tryz.func6.symm.trans hfn)).symm
      exact ⟨by kernel_rfl, fun j t ht => by
        rw [Tryz.params6] at ht
        have hm : t ∈ [26, 26, 27, 27, 27, 27, 31, 31] := by simpa using Array.mem_of_getElem? ht
        have hall : ([26, 26, 27, 27, 27, 27, 31, 31].all fun u => !Tryz.prog.wantsStandIn u) = true := by kernel_rfl
        exact (show Tryz.prog.wantsStandIn t = false by simpa using List.all_eq_true.1 hall t hm)⟩)
    (by kernel_rfl)
#print axioms PrivateSeen_holds
end Go.Proofs.YtkaojflnghfmcaaGreatDoor
