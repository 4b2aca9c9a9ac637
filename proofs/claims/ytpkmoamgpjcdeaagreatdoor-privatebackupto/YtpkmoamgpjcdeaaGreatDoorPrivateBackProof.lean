/- For every key (any seven numbers, of which Few asks short ones), every two chains of numbers, every bytes and script, the law of layer 22 that the private power undoes the public one returns true, panics nowhere, and leaves its arguments as they were; the arguments hold together at most 1048576 values and letters. -/
import Derived.Test.YtpkmoamgpjcdeaaGreatDoorRows
import Derived.Test.YtpkmoamgpjcdeaaGreatDoorTie
import Derived.Test.YtpkmoamgpjcdeaaGreatDoorCards
import Derived.Test.YtpkmoamgpjcdeaaGreatDoorBY1
import Derived.Test.YtpkmoamgpjcdeaaGreatDoorBY2
import Derived.Test.YtpkmoamgpjcdeaaGreatDoorBY3
import Derived.Test.YtpkmoamgpjcdeaaGreatDoorBY4
import Derived.Test.YtpkmoamgpjcdeaaGreatDoorBY5
import Derived.Test.YtpkmoamgpjcdeaaGreatDoorBY6
import Derived.Test.YtpkmoamgpjcdeaaGreatDoorBY7
import Derived.Test.YtpkmoamgpjcdeaaGreatDoorBY8
import Derived.Test.YtpkmoamgpjcdeaaGreatDoorBY9
import Derived.Test.YtpkmoamgpjcdeaaGreatDoorBY10
import Derived.Test.YtpkmoamgpjcdeaaGreatDoorBY11
import Derived.Test.YtpkmoamgpjcdeaaGreatDoorBY12
import Derived.Test.YtpkmoamgpjcdeaaGreatDoorBY13
import Derived.Test.YtpkmoamgpjcdeaaGreatDoorBY14
import Derived.Test.YtpkmoamgpjcdeaaGreatDoorBY15
import Derived.Test.YtpkmoamgpjcdeaaGreatDoorBY16
import Derived.Test.YtpkmoamgpjcdeaaGreatDoorBY17
import Derived.Test.YtpkmoamgpjcdeaaGreatDoorBY18
import Derived.WalkKit
import Derived.ProofKit
import Derived.OpenShut
import Derived.ShutString
import Derived.ChangeOld
import Derived.Below
import Derived.Lay
import Derived.Lib.LaidU8
import Derived.SevenTiedAt
import Derived.Stop.Joined
import Derived.Deep.DeepHandedRow
namespace Go.Proofs.YtpkmoamgpjcdeaaGreatDoor.privateBack
open Go.ChangeShapes Go.WideShapes Go.ChangeAt Go.RowKit
open Go.ChangeMaps (open_string shut_string)
set_option linter.unusedVariables false

theorem own : ownKnob Tryz.prog.godebug = none := by kernel_rfl

theorem laidOut : laidOutB Tryz.prog = true := by kernel_rfl

set_option maxRecDepth 100000 in
/-- What the listed tables give the walk. -/
theorem tab_of {W : World} (h : laidMet Tryz.prog Rows.privateBackUptoRow.laid W) : NoTab W := trivial

set_option maxRecDepth 100000 in
theorem contract (H : Type) (enc : TypeId × Value → H) (W : World) (base : Nat) (args : Array Value) (ds gs : List (DataW H)) (before : List MemPlace)
    (hval0 : ∀ (j : Nat) t v, Tryz.f3.params[j]? = some t → args[j]? = some v → Value.okWide Tryz.prog W .any base t v)
    (hW : DataW.Whole enc Tryz.prog Tryz.f3.params.toList Rows.privateBackSpec.vars false W args.toList ds gs before) (hk : Rows.uptoSmall H (ds ++ gs) = true) (hL : laidMetH Tryz.prog Rows.privateBackUptoRow.laid W) :
    Calls Tryz.prog 3 args W fun e W' => ∃ v, e = .returned v ∧ Rows.privateBackSpec.post enc Tryz.prog Tryz.f3 false true false false W args v W' := by
  rw [MakeChecks.laidMetH_plain _ _ _ (by kernel_rfl)] at hL
  have hTab := tab_of hL
  have hval : ∀ (j : Nat) t v, Tryz.f3.params[j]? = some t → args[j]? = some v → Value.okWide Tryz.prog W .any base t v := hval0
  have hW' := hW
  obtain ⟨p, q, hA0, hV, rfl, hfz, hnd⟩ := hW
  have hA : DataW.TrodAll enc Tryz.prog W 0 (fun _ => true) true Tryz.f3.params.toList args.toList ds p := hA0
  rw [Tryz.params3] at hA hval
  obtain ⟨v0, vs0, d0, ds0, p0, q0, hargs, rfl, rfl, h0, r0⟩ := trodAll_cons hA
  obtain ⟨v1, vs1, d1, ds1, p1, q1, rfl, rfl, rfl, h1, r1⟩ := trodAll_cons r0
  obtain ⟨v2, vs2, d2, ds2, p2, q2, rfl, rfl, rfl, h2, r2⟩ := trodAll_cons r1
  obtain ⟨v3, vs3, d3, ds3, p3, q3, rfl, rfl, rfl, h3, r3⟩ := trodAll_cons r2
  obtain ⟨v4, vs4, d4, ds4, p4, q4, rfl, rfl, rfl, h4, r4⟩ := trodAll_cons r3
  obtain ⟨rfl, rfl, rfl⟩ := trodAll_nil r4
  obtain rfl : args = #[v0, v1, v2, v3, v4] := by cases args; simp_all
  obtain ⟨rfl, rfl⟩ := trodVars_none hV
  have hB := of_decide_eq_true hk
  simp only [List.append_nil, Rows.uptoBulkAll] at hB
  have k0 := h0
  have lt0 : ∀ x ∈ p0, x.block < W.heap.size := by obtain ⟨m, hm⟩ := k0; exact DataW.trod_lt m _ _ _ hm
  obtain ⟨t0, l0, rfl, ra0, da0, wk0⟩ : ∃ (t : KS) (l : KL), v0 = .agg t.v ∧ t.Rows W l ∧ l.Digs ∧ t.en < 18446744073709551616 := by
    obtain ⟨cs, rfl, _⟩ := okWide_struct Tryz.underlying26 (hval 0 26 v0 rfl rfl)
    obtain ⟨fuel, hf⟩ := h0
    obtain ⟨t, l, hc, f1, f2, f3⟩ := open_key hf
    obtain ⟨cs⟩ := cs
    simp [Value.cells] at hc
    exact ⟨t, l, by rw [hc], f1, f2, f3⟩
  obtain ⟨a1, len1, cap1, rfl⟩ := okWide_slice Tryz.underlying27 (hval 1 27 v1 rfl rfl)
  have k1 := h1
  have lt1 : ∀ x ∈ p1, x.block < W.heap.size := by obtain ⟨m, hm⟩ := k1; exact DataW.trod_lt m _ _ _ hm
  obtain ⟨m1, A1, L1, C1, x1, ns1, bd1⟩ : ∃ n A L C xss, NatsIn W (.slice a1 len1 cap1) n A L C xss ∧ n ≤ 2000000 ∧ ∀ i, i < n → L i ≤ 2000000 := by
    obtain ⟨fuel, hf⟩ := h1
    obtain ⟨n, A, L, C, xss, f1, f2, f3⟩ := open_natsU (d := d1) (p := p1) (by simpa [Value.cells] using hf)
    exact ⟨n, A, L, C, xss, f1, by omega, fun j hj => by have := f3 j hj; omega⟩
  obtain ⟨a2, len2, cap2, rfl⟩ := okWide_slice Tryz.underlying27 (hval 2 27 v2 rfl rfl)
  have k2 := h2
  have lt2 : ∀ x ∈ p2, x.block < W.heap.size := by obtain ⟨m, hm⟩ := k2; exact DataW.trod_lt m _ _ _ hm
  obtain ⟨m2, A2, L2, C2, x2, ns2, bd2⟩ : ∃ n A L C xss, NatsIn W (.slice a2 len2 cap2) n A L C xss ∧ n ≤ 2000000 ∧ ∀ i, i < n → L i ≤ 2000000 := by
    obtain ⟨fuel, hf⟩ := h2
    obtain ⟨n, A, L, C, xss, f1, f2, f3⟩ := open_natsU (d := d2) (p := p2) (by simpa [Value.cells] using hf)
    exact ⟨n, A, L, C, xss, f1, by omega, fun j hj => by have := f3 j hj; omega⟩
  obtain ⟨a3, len3, cap3, rfl⟩ := okWide_slice Tryz.underlying28 (hval 3 28 v3 rfl rfl)
  have k3 := h3
  have lt3 : ∀ x ∈ p3, x.block < W.heap.size := by obtain ⟨m, hm⟩ := k3; exact DataW.trod_lt m _ _ _ hm
  obtain ⟨n3, row3, dg3⟩ : ∃ ns : List Nat, Row .u8 W (.slice a3 len3 cap3) ns ∧ Digs ns 256 := by
    obtain ⟨fuel, hf⟩ := h3
    rcases open_ints Tryz.underlying28 Tryz.underlying5 (by kernel_rfl) hf with ⟨hcs, _⟩ | ⟨x, l, c, zs, hcs, _, hl, hm, hz, _, hcell, hwz⟩
    · simp [Value.cells] at hcs
      obtain ⟨rfl, rfl, rfl⟩ := hcs
      exact row_of_ints wf_u8 (zs := []) (.inl ⟨rfl, rfl, rfl, rfl⟩)
    · simp [Value.cells] at hcs
      obtain ⟨rfl, rfl, rfl⟩ := hcs
      exact row_of_ints wf_u8 (.inr ⟨_, rfl, hl, hm, by simpa using hz, hcell, hwz⟩)
  obtain ⟨a4, len4, cap4, rfl⟩ := okWide_slice Tryz.underlying28 (hval 4 28 v4 rfl rfl)
  have k4 := h4
  have lt4 : ∀ x ∈ p4, x.block < W.heap.size := by obtain ⟨m, hm⟩ := k4; exact DataW.trod_lt m _ _ _ hm
  obtain ⟨n4, row4, dg4⟩ : ∃ ns : List Nat, Row .u8 W (.slice a4 len4 cap4) ns ∧ Digs ns 256 := by
    obtain ⟨fuel, hf⟩ := h4
    rcases open_ints Tryz.underlying28 Tryz.underlying5 (by kernel_rfl) hf with ⟨hcs, _⟩ | ⟨x, l, c, zs, hcs, _, hl, hm, hz, _, hcell, hwz⟩
    · simp [Value.cells] at hcs
      obtain ⟨rfl, rfl, rfl⟩ := hcs
      exact row_of_ints wf_u8 (zs := []) (.inl ⟨rfl, rfl, rfl, rfl⟩)
    · simp [Value.cells] at hcs
      obtain ⟨rfl, rfl, rfl⟩ := hcs
      exact row_of_ints wf_u8 (.inr ⟨_, rfl, hl, hm, by simpa using hz, hcell, hwz⟩)
  clear hA0 hval0
  refine (walkPrivateBack t0 l0 _ m1 A1 L1 C1 x1 _ m2 A2 L2 C2 x2 _ n3 _ n4 W ra0 ns1 ns2 row3 row4 da0 dg3 dg4 wk0 bd1 bd2 hTab).mono fun e W' ⟨he, bel⟩ => ?_
  subst he
  exact ⟨_, rfl, _, _, _, [], _, [], hW', trodAll_mk1 (shut_bool Tryz.underlying4 _), (trodAll_cons_mk (Below.trod laidOut (by kernel_rfl) (of_decide_eq_true (by kernel_rfl)) k0 bel lt0) (trodAll_cons_mk (Below.trod laidOut (by kernel_rfl) (of_decide_eq_true (by kernel_rfl)) k1 bel lt1) (trodAll_cons_mk (Below.trod laidOut (by kernel_rfl) (of_decide_eq_true (by kernel_rfl)) k2 bel lt2) (trodAll_cons_mk (Below.trod laidOut (by kernel_rfl) (of_decide_eq_true (by kernel_rfl)) k3 bel lt3) (trodAll_cons_mk (Below.trod laidOut (by kernel_rfl) (of_decide_eq_true (by kernel_rfl)) k4 bel lt4) trodAll_mk0))))), rfl, bel.frame _, fun h => by cases h⟩

theorem laid_met (os : Os) : laidMetH Tryz.prog Rows.privateBackUptoRow.laid ((World.laidAll Tryz.prog os Rows.privateBackUptoRow.laid).forCall (fun _ _ => 0) ⟨#[], #[.agg #[.slice none 0 0, .int .u64 0, .slice none 0 0, .slice none 0 0, .slice none 0 0, .slice none 0 0, .slice none 0 0, .slice none 0 0], .slice none 0 0, .slice none 0 0, .slice none 0 0, .slice none 0 0], []⟩).memory := by
  rw [MakeChecks.laidMetH_plain _ _ _ (by kernel_rfl)]
  exact laidMet_laidAll _ (by kernel_rfl) (by kernel_rfl)

theorem reads (os : Os) {H : Type} (enc : TypeId × Value → H) : DataW.whole enc Tryz.prog ((World.laidAll Tryz.prog os Rows.privateBackUptoRow.laid).forCall (fun _ _ => 0) ⟨#[], #[.agg #[.slice none 0 0, .int .u64 0, .slice none 0 0, .slice none 0 0, .slice none 0 0, .slice none 0 0, .slice none 0 0, .slice none 0 0], .slice none 0 0, .slice none 0 0, .slice none 0 0, .slice none 0 0], []⟩).memory Tryz.f3.params.toList (Rows.OpenSpec.upto Rows.privateBackSpec).vars false #[.agg #[.slice none 0 0, .int .u64 0, .slice none 0 0, .slice none 0 0, .slice none 0 0, .slice none 0 0, .slice none 0 0, .slice none 0 0], .slice none 0 0, .slice none 0 0, .slice none 0 0, .slice none 0 0].toList 8 = some ([.agg [.nil, .lit (.int .u64 0), .nil, .nil, .nil, .nil, .nil, .nil], .nil, .nil, .nil, .nil], [], []) := by kernel_rfl

set_option maxRecDepth 100000 in
theorem lifted (os : Os) (started : os.Started) (H : Type) (enc : TypeId × Value → H) (F : Stop.Interp) :
    ReturnsInHanded {} Tryz.checked os 3 .any ((Rows.OpenSpec.upto Rows.privateBackSpec).preRow enc Tryz.prog Tryz.f3 Rows.privateBackUptoRow.domain false Rows.privateBackUptoRow.laid) (((Rows.OpenSpec.upto Rows.privateBackSpec).at F).post enc Tryz.prog Tryz.f3 false true false false) := by
  refine returnsInHanded_of_row (C := Tryz.checked) (s := Rows.OpenSpec.upto Rows.privateBackSpec) own started (by kernel_rfl) Tryz.func3
    ⟨World.laidAll Tryz.prog os Rows.privateBackUptoRow.laid, fun _ _ => 0, ⟨#[], #[.agg #[.slice none 0 0, .int .u64 0, .slice none 0 0, .slice none 0 0, .slice none 0 0, .slice none 0 0, .slice none 0 0, .slice none 0 0], .slice none 0 0, .slice none 0 0, .slice none 0 0, .slice none 0 0], []⟩, World.laidAll_os _ _ _, World.shaped_of_ZipB (by kernel_rfl) (by kernel_rfl), rfl, (Input.okWide_of_okWideB (base := 0) (by kernel_rfl)).2,
      OpenSpec.preRow_of_cond 8 (reads os enc) (by kernel_rfl) (fun k hk => by cases hk; kernel_rfl) (by kernel_rfl) (laid_met os), by
        simp only [Assume.holds]
        exact ⟨by simp, by simp, fun _ => Modest.zero, by simp, by simp⟩⟩ ?_
  intro W base args ds gs before hval hW _ hcond _ hL _ _
  exact contract H enc W base args ds gs before hval hW (hcond _ rfl) hL

theorem over : Rows.privateBackUptoRow.holds Tryz.pinned (Rows.OpenSpec.upto Rows.privateBackSpec) :=
  OpenClaim.holds_of_cond 3 Tryz.f3 rfl rfl rfl rfl rfl rfl rfl ⟨rfl, rfl, rfl, rfl, rfl⟩ rfl rfl rfl rfl rfl (by kernel_rfl) Tryz.func3 (by kernel_rfl)
    (of_decide_eq_true (by kernel_rfl)) (by unfold Func.isWrapper; first | (rw [if_pos (by decide +kernel)]; kernel_rfl) | (rw [if_neg (by decide +kernel)]; exact ⟨rfl, rfl⟩))
    (fun os started H enc _ F => by rw [OpenClaim.pre_eq_preRow]; exact lifted os started H enc F)
end Go.Proofs.YtpkmoamgpjcdeaaGreatDoor.privateBack

namespace Go.Proofs.YtpkmoamgpjcdeaaGreatDoor
theorem PrivateBack_holds : Rows.PrivateBackUptoCardSaid :=
  Claim7.holds_tied_plain_at .later [] Rows.privateBackUptoCard.laidKinds true Rows.privateBackUptoCard.stood.harness true privateBack.over (fun _ h => by cases h) (by kernel_rfl) (fun _ h => by cases h) privateBackUpto_row_tie rfl ⟨rfl, rfl⟩ (by kernel_rfl) rfl
    (fun f fn hf hfn => by
      obtain rfl : f = 3 := Option.some.inj (hf.symm.trans (by kernel_rfl))
      obtain rfl : fn = Tryz.f3 := (Option.some.inj (Tryz.func3.symm.trans hfn)).symm
      exact ⟨by kernel_rfl, fun j t ht => by
        rw [Tryz.params3] at ht
        have hm : t ∈ [26, 27, 27, 28, 28] := by simpa using Array.mem_of_getElem? ht
        have hall : ([26, 27, 27, 28, 28].all fun u => !Tryz.prog.wantsStandIn u) = true := by kernel_rfl
        exact (show Tryz.prog.wantsStandIn t = false by simpa using List.all_eq_true.1 hall t hm)⟩)
    (by kernel_rfl)
#print axioms PrivateBack_holds
end Go.Proofs.YtpkmoamgpjcdeaaGreatDoor
