/- Put together of: Pri2 Seq5. -/
import Derived.Test.YtcjaafmlflonhaaGreatDoorPk11
import Derived.Test.YtcjaafmlflonhaaGreatDoorPk32
import Derived.Test.YtcjaafmlflonhaaGreatDoorPk38
import Derived.Test.YtcjaafmlflonhaaGreatDoorPk41
import Derived.Test.YtcjaafmlflonhaaGreatDoorPk44

/- Package prime: Good. -/
namespace Go.Proofs.YtcjaafmlflonhaaGreatDoor
open Go.RowKit

theorem subN_one {X n : Nat} (hX : X < 18446744073709551616 ^ n) (h0 : X ≠ 0) : subN X 1 n % 18446744073709551616 ^ n = X - 1 := by
  unfold subN
  rw [if_neg (by omega), Nat.mod_eq_of_lt (by omega)]

set_option maxRecDepth 20000 in
set_option maxHeartbeats 2000000 in
/-- Good. -/
theorem pGood (ao : Option Addr) (L cap : Nat) (xs : List Nat) (e : Nat) (he : e < 18446744073709551616) (R : Bool) (hR : R = true ↔ goodN (val 18446744073709551616 xs) e) (w : World) (hu : Row .u64 w (.slice ao L cap) xs) (hdx : Digs 18446744073709551616 xs) (hLb : L ≤ 999999) :
    Calls Tryz.prog 14 #[.slice ao L cap, .int .u64 (e : Nat)] w fun r w' => r = .returned (.bool R) ∧ Kept Nought w w' := by
  obtain ⟨_, _, _, e1, hL, -, -, -, -⟩ := hu.open
  cases e1
  have HU := toHid hu
  have HR := toHid hR
  have HF : Hid (¬ goodN (val 18446744073709551616 xs) e → R = false) := fun h => by
    cases h2 : R with
    | false => rfl
    | true => exact absurd (HR.out.1 h2) h
  have hX : val 18446744073709551616 xs < 18446744073709551616 ^ L := by rw [← hL.out]; exact val_lt (by omega) hdx
  by_cases a2 : e = 0
  · have HT := toHid (HF.out (fun h => h.2.1 a2))
    subst a2
    clear hu hdx hL hR hX
    go_enter Tryz.func14, Tryz.ntmps14
    go_wp2_with fail
    go_ret
    exact ⟨by rw [HT.out]; rfl, Kept.refl _ _⟩
  have q2 : ((e : Int) == 0) = false := by simp; omega
  have q2' : ¬ (e : Int) = 0 := by omega
  by_cases a3 : passN (val 18446744073709551616 xs)
  · have J1 := sPasses ao L cap xs true (by simp [a3]) w hu hdx (by omega)
    have hX0 : val 18446744073709551616 xs ≠ 0 := fun h => by rw [h] at a3; exact absurd a3 (by unfold passN; intro h; exact absurd h.1 (by omega))
    have hL0 : L ≠ 0 := fun h => by
      rw [h] at hX
      simp at hX
      exact hX0 hX
    have JW := toHid fun W (x : Nat) (hx : x < 18446744073709551616) => nWord x hx 1 W
    have hc1 : clampN 1 = 1 := rfl
    rw [hc1] at JW
    have v1 : val 18446744073709551616 (digs 18446744073709551616 1 1) = 1 := rfl
    have HD := toHid hdx
    have hLx : Hid (xs.length = L) := hL
    have HX0 := toHid hX0
    have HX := toHid hX
    have HA3 := toHid a3
    have j2 := JW.out
    clear hu hdx hL hR hX hX0 a3
    go_enter Tryz.func14, Tryz.ntmps14
    go_wp2_with fail
    refine J1.mono ?_
    rintro r w1 ⟨rfl, k1⟩
    have J2 := JW.out w1 1 (by omega)
    clear J1 j2
    go_wp2_with fail
    refine J2.mono ?_
    rintro r w2 ⟨u2, rfl, r2, k2⟩
    have K2 := toHid (k1.trans k2)
    have J3 := lSub none (.slice ao L cap) u2 xs _ w2 (TrRoom.none w2 1 (by omega)) (RowT.none (HU.out.grew K2.out)) (RowT.none r2) HD.out (digs_digs (by omega) _ _) (by rw [hLx.out]; omega) (by rw [digs_length]; omega)
    rw [v1, digs_length, hLx.out, Nat.max_eq_left (by omega)] at J3
    obtain ⟨uo, un, uc, rfl, _⟩ := r2.open
    clear J2 r2 k1 k2
    go_wp2_with fail
    refine J3.mono ?_
    rintro r w3 ⟨u3, rfl, h3, o3, d3⟩
    have k3 := d3.none.2
    have K3 := toHid (K2.out.trans k3)
    have r3 : Row .u64 w3 u3 (digs 18446744073709551616 (subN (val 18446744073709551616 xs) 1 L) L) := Row.of_own (base := w2.heap.size) (e := 23) (by rw [digs_length]; exact h3)
    obtain ⟨xo, xn, xc, rfl, hxn, _⟩ := r3.open
    have hxn' : xn = L := by rw [← hxn.out, digs_length]
    subst hxn'
    have hv3 : val 18446744073709551616 (digs 18446744073709551616 (subN (val 18446744073709551616 xs) 1 xn) xn) = val 18446744073709551616 xs - 1 := by
      rw [val_digs]
      exact subN_one HX.out HX0.out
    obtain ⟨rr, hrr⟩ : ∃ rr, rr = (val 18446744073709551616 xs - 1) % e := ⟨_, rfl⟩
    have hrb : rr < 18446744073709551616 := by rw [hrr]; exact Nat.lt_of_lt_of_le (Nat.mod_lt _ (by omega)) (by omega)
    have J4 := pSmall xo xn xc _ e rr 0 he (by rw [if_neg a2, hv3, hrr]) (by rw [if_neg a2]) w3 r3 (digs_digs (by omega) _ _) (by omega)
    have HRR := toHid hrr
    clear J3 h3 d3 k3 r3 hxn hv3 hrr
    go_wp2_with fail
    refine J4.mono ?_
    rintro r w4 ⟨rfl, k4⟩
    have K4 := toHid (K3.out.trans k4)
    have J5 := JW.out w4 rr hrb
    clear J4 k4
    go_wp2_with fail
    refine J5.mono ?_
    rintro r w5 ⟨u5, rfl, r5, k5⟩
    obtain ⟨yo, yn, yc, rfl, hyn, _⟩ := r5.open
    have K5 := toHid (K4.out.trans k5)
    have J6 := JW.out w5 e he
    have R5 := toHid r5
    have HYN : Hid (yn = 1) := by have := hyn.out; rw [digs_length] at this; exact this.symm
    clear J5 k5 r5 hyn
    go_wp2_with fail
    refine J6.mono ?_
    rintro r w6 ⟨u6, rfl, r6, k6⟩
    obtain ⟨zo, zn, zc, rfl, hzn, _⟩ := r6.open
    have K6 := toHid (K5.out.trans k6)
    have hzn' : zn = 1 := by have := hzn.out; rw [digs_length] at this; exact this.symm
    have hvr : ∀ x, x < 18446744073709551616 → val 18446744073709551616 (digs 18446744073709551616 x 1) = x := fun x hx => by rw [val_digs, Nat.pow_one]; exact Nat.mod_eq_of_lt hx
    have J7 := iCoprime yo zo yn zn yc zc _ _ R (by
      have hg : Nat.gcd rr e = Nat.gcd (val 18446744073709551616 xs - 1) e := by
        rw [HRR.out, Nat.gcd_comm (val 18446744073709551616 xs - 1) e, Nat.gcd_rec e]
      have ho : okLen yn zn = true := by rw [HYN.out, hzn']; rfl
      rw [hvr _ hrb, hvr _ he]
      cases hRb : R with
      | true => exact (decide_eq_true ⟨ho, hg.trans (HR.out.1 hRb).2.2.2⟩).symm
      | false => exact (decide_eq_false fun h => by
          have := HR.out.2 ⟨HX0.out, a2, HA3.out, hg.symm.trans h.2⟩
          rw [hRb] at this
          cases this).symm) w6 (R5.out.grew k6) r6 (digs_digs (by omega) _ _) (digs_digs (by omega) _ _)
    clear J6 k6 r6 hzn hzn' hvr
    go_wp2_with fail
    refine J7.mono ?_
    rintro r w7 ⟨rfl, k7⟩
    clear J7
    go_wp2_with fail
    go_ret
    exact ⟨rfl, K6.out.trans k7⟩
  · have HT := toHid (HF.out (fun h => a3 h.2.2.1))
    have J1 := sPasses ao L cap xs false (by simp [a3]) w hu hdx (by omega)
    clear hu hdx hL hR hX
    go_enter Tryz.func14, Tryz.ntmps14
    go_wp2_with fail
    refine J1.mono ?_
    rintro r w1 ⟨rfl, k1⟩
    go_wp2_with fail
    go_ret
    exact ⟨by rw [HT.out]; rfl, k1⟩

end Go.Proofs.YtcjaafmlflonhaaGreatDoor


/- A range over a function whose iterator, or whose body, may panic: the walk of an activation whose function is known. -/
namespace Go.Proofs.YtcjaafmlflonhaaGreatDoor
open Go.RowKit Go.Shelf

/-- As roundPost, with a panic that passes through. -/
def roundPostP (P : Program) (l : Nat) (R : Ending → World → Prop) : Exit → Act → World → Prop
  | .normal, _, w => ∃ v w', (Instr.endRound l none).run P w = .ok v w' ∧ R (.returned v) w'
  | .ret, _, w => ∃ v w', (Instr.endRound l (some .ret)).run P w = .ok v w' ∧ R (.returned v) w'
  | .exit _, _, _ => False
  | .goto _, _, _ => False
  | .panic ch, a, w => a.defers = [] ∧ R (.panicked ch) w
  | .outgrown, _, _ => False

theorem roundIn_pan {P : Program} {n l : Nat} {f : FuncId} {fn : Func} {tmps : Array Value} {assign body : Code} {w : World} {R : Ending → World → Prop} (hf : P.funcs[f]? = some fn)
    (h : assign.wpIn (Fence.wide.inRound l) n P (Exit.then (fun a₁ w₁ => ∃ w₂, (Instr.beginRound l).run P w₁ = .ok () w₂ ∧ body.wpIn (Fence.wide.inRound l) n P (roundPostP P l R) a₁ w₂) (fun _ _ _ => False))
      { tmps := tmps, defers := [] } w) :
    RoundIn Fence.wide n P l f tmps assign body w R := by
  refine ⟨trivial, fun c cs hr => ?_⟩
  let b : Frame := { (default : Frame) with fn := f, kind := .normal, roundOf := some l }
  have hb0 : Frame.round l f tmps assign body .normal = b.atR { tmps := tmps, defers := [] } [.code assign, .beginRound, .code body] := by
    simp [Frame.round, Frame.atR, b]
  have hr' : (Fence.wide.inRound l).room ((c :: cs).length + 1 + n) := hr
  have hF' : (Fence.wide.inRound l).fn b.fn := trivial
  obtain ⟨e, a₁, w₁, hq, harr⟩ := h b [.beginRound, .code body] (c :: cs) rfl hF' hr'
  rw [← hb0] at harr
  cases e with
  | normal =>
    obtain ⟨w₂, hbr, hbody⟩ := hq
    have s1 : StepsIn (Machine.fenced P (Fence.wide.inRound l)) P (lone (b.atR a₁ [.beginRound, .code body]) (c :: cs) w₁) (lone (b.atR a₁ [.code body]) (c :: cs) w₂) :=
      .one (fenced_calm (fr := b.atR a₁ [.beginRound, .code body]) hF' hr' rfl) (stepR_beginRound rfl hbr)
    obtain ⟨e₂, a₂, w₃, hq₂, harr₂⟩ := hbody b [] (c :: cs) rfl hF' hr'
    cases e₂ with
    | normal =>
      obtain ⟨v, w₄, hend, hR⟩ := hq₂
      exact ⟨.returned v, w₄, hR, (StepsIn.trans harr s1).trans (StepsIn.trans harr₂ (.one (fenced_calm (fr := b.atR a₂ []) hF' hr' rfl) (stepR_round_end rfl rfl hend)))⟩
    | ret =>
      obtain ⟨v, w₄, hend, hR⟩ := hq₂
      obtain ⟨k₁, hs⟩ := harr₂.2 rfl
      exact ⟨.returned v, w₄, hR, (StepsIn.trans harr s1).trans (StepsIn.trans hs (.one (fenced_calm (fr := b.atR a₂ (.code .ret :: k₁)) hF' hr' rfl) (stepR_round_ret rfl rfl hend)))⟩
    | exit id => exact hq₂.elim
    | goto t => exact hq₂.elim
    | panic ch =>
      obtain ⟨hd, hR⟩ := hq₂
      obtain ⟨todo, hs⟩ := harr₂
      exact ⟨.panicked ch, w₃, hR, (StepsIn.trans harr s1).trans (StepsIn.trans hs (.one (fenced_wide P _) (step_leave_panicked ⟨rfl, hd, fn, hf⟩)))⟩
    | outgrown => exact hq₂.elim
  | exit id => exact hq.elim
  | goto t => exact hq.elim
  | ret => exact hq.elim
  | panic chain => exact hq.elim
  | outgrown => exact hq.elim

/-- The walk of a code in an activation of the function f. -/
def wpF (f : FuncId) (P : Program) (c : Code) (Q : Exit → Act → World → Prop) (a : Act) (w : World) : Prop :=
  ∀ (b : Frame) (k : List Item) (cs : List Frame), b.roundOf = none → b.fn = f →
    ∃ e a' w', Q e a' w' ∧ ArrivesIn (Machine.fenced P Fence.wide) P (lone (b.atR a (.code c :: k)) cs w) b k cs e a' w'

theorem wpF_seq {f : FuncId} {P : Program} {n : Nat} {x y : Code} {Q : Exit → Act → World → Prop} {a : Act} {w : World} (h : ∀ K : Act → World → Prop, (∀ a w, wpF f P y Q a w → K a w) → x.wpIn Fence.wide n P (Exit.then K Q) a w) : wpF f P (Code.seq x y) Q a w := by
  intro b k cs hro hb
  have h0 : (lone (b.atR a (.code (.seq x y) :: k)) cs w).fenced P Fence.wide := fenced_wide P _
  obtain ⟨e, a₁, w₁, hq, harr⟩ := h _ (fun _ _ h => h) b (.code y :: k) cs hro trivial (room_wide _)
  cases e with
  | normal =>
    obtain ⟨e₂, a₂, w₂, hq₂, harr₂⟩ := hq b k cs hro hb
    exact ⟨e₂, a₂, w₂, hq₂, .of_steps (.head h0 stepR_seq harr) harr₂⟩
  | exit id => exact ⟨_, a₁, w₁, hq, .of_steps (.one h0 stepR_seq) (.pass (x := .code y) rfl (fun _ _ => .inl (by simp)) harr)⟩
  | goto l => exact ⟨_, a₁, w₁, hq, .of_steps (.one h0 stepR_seq) (.pass (x := .code y) rfl (fun _ _ => .inl (by simp)) harr)⟩
  | ret => exact ⟨_, a₁, w₁, hq, .of_steps (.one h0 stepR_seq) (.pass (x := .code y) rfl (fun _ _ => .inl (by simp)) harr)⟩
  | panic ch => exact ⟨_, a₁, w₁, hq, .of_steps (.one h0 stepR_seq) (.pass (x := .code y) rfl (fun _ _ => .inl (by simp)) harr)⟩
  | outgrown => exact ⟨_, a₁, w₁, hq, .of_steps (.one h0 stepR_seq) (.pass (x := .code y) rfl (fun _ _ => .inl (by simp)) harr)⟩

/-- A block that is left off its end, by a return or a panic alone. -/
theorem wpF_block {f : FuncId} {P : Program} {id : Nat} {c : Code} {Q : Exit → Act → World → Prop} {a : Act} {w : World} (h : wpF f P c (fun e a w => match e with | .normal => Q .normal a w | .ret => Q .ret a w | .panic ch => Q (.panic ch) a w | _ => False) a w) : wpF f P (Code.block id c) Q a w := by
  intro b k cs hro hb
  have h0 : (lone (b.atR a (.code (.block id c) :: k)) cs w).fenced P Fence.wide := fenced_wide P _
  obtain ⟨e, a₁, w₁, hq, harr⟩ := h b (.inBlock id :: k) cs hro hb
  cases e with
  | normal => exact ⟨.normal, a₁, w₁, hq, .head h0 stepR_block (StepsIn.trans harr (.one (fenced_wide P _) stepR_inBlock))⟩
  | exit id' => exact hq.elim
  | goto l => exact hq.elim
  | ret => exact ⟨_, a₁, w₁, hq, .of_steps (.one h0 stepR_block) harr⟩
  | panic ch => exact ⟨_, a₁, w₁, hq, .of_steps (.one h0 stepR_block) harr⟩
  | outgrown => exact hq.elim

theorem wpF_rangeFunc {f : FuncId} {P : Program} {n : Nat} {g : Operand} {ps : Array Tmp} {assign body : Code} {Q : Exit → Act → World → Prop} {a : Act} {w : World}
    (h : ∃ (l : Nat) (mark : List Deferred) (w₁ : World) (d : Deferred) (w₁' : World) (gf : FuncId) (args : Array Value) (w₂ : World),
      (Instr.enterLoop f a.tmps ps assign body none).run P w = .ok (l, mark) w₁ ∧
      (resolve a.eval (rangeCall g l) 0).run P w₁ = .ok d w₁' ∧
      (invoke d.target d.args).run P w₁' = .ok (.enter gf args) w₂ ∧
      CallsIn Fence.wide (n - 1) P gf args w₂ (rangePost Fence.wide n P l Q { a with defers := mark ++ a.defers })) :
    wpF f P (Code.rangeFunc g ps assign body) Q a w := by
  intro b k cs hro hb
  subst hb
  obtain ⟨l, mark, w₁, d, w₁', f, args, w₂, he, hres, hinv, hF, hcall⟩ := h
  rw [← hro] at he
  have h0 : (lone (b.atR a (.code (.rangeFunc g ps assign body) :: k)) cs w).fenced P Fence.wide := fenced_wide P _
  have henter := stepR_rangeFunc (P := P) (b := b) (a := a) (k := k) (cs := cs) (w := w) he hres hinv
  obtain ⟨e, w₃, fr, hR, hsteps, hfn, hleave⟩ := hcall (b.atR { a with defers := mark ++ a.defers } (.inRangeFunc l :: k) :: cs) (room_wide _)
  cases e with
  | outgrown =>
    obtain ⟨a₀, w₀, hq⟩ := hR
    exact ⟨.outgrown, a₀, w₀, hq, .inr (Outgrown.of_steps (.one henter) hsteps)⟩
  | returned v =>
    obtain ⟨jump, w₄, hend, hj⟩ := hR
    have sback : StepsIn (Machine.fenced P Fence.wide) P (lone (b.atR a (.code (.rangeFunc g ps assign body) :: k)) cs w) (lone (b.atR { a with defers := mark ++ a.defers } ((jump.map Item.code).toList ++ k)) cs w₄) := by
      refine .head h0 henter (StepsIn.trans hsteps (.head (fenced_wide P _) ?_ (.one (fenced_wide P _) (stepR_endRangeFunc hend))))
      rw [← finish_atR_inRangeFunc l v]; exact step_leave_returned hleave
    cases jump with
    | none => exact ⟨.normal, _, w₄, hj, sback⟩
    | some c =>
      obtain ⟨e', a'', w₅, hq, harr⟩ := hj b k cs hro trivial (room_wide _)
      exact ⟨e', a'', w₅, hq, .of_steps sback harr⟩
  | panicked chain =>
    refine ⟨.panic chain, _, w₃, hR, .inRangeFunc l :: k, .head h0 henter (StepsIn.trans hsteps (.one (fenced_wide P _) ?_))⟩
    rw [← Frame.raise_atR]; exact step_leave_panicked hleave

/-- A function's contract from such a walk of its body. -/
theorem callsIn_of_wpF {P : Program} {n : Nat} {f : FuncId} {fn : Func} {c : Code} {args : Array Value} {w : World} {R : Ending → World → Prop}
    (hf : P.funcs[f]? = some fn) (hb : fn.body = some c)
    (h : wpF f P c (bodyPostM Fence.wide n P fn R) { tmps := args ++ Array.replicate (fn.ntmps - args.size) undef, defers := [] } w) : CallsIn Fence.wide n P f args w R := by
  refine ⟨trivial, fun cs hr => ?_⟩
  let b : Frame := { (default : Frame) with fn := f, kind := .normal, roundOf := none }
  have henter : Frame.enter P f args .normal =
      b.atR { tmps := args ++ Array.replicate (fn.ntmps - args.size) undef, defers := [] } [.code c] := by
    simp [Frame.enter, Frame.atR, hf, hb, b]
  obtain ⟨e, a', w', hq, harr⟩ := h b [] cs rfl rfl
  rw [← henter] at harr
  cases e with
  | normal =>
    obtain ⟨e', w'', fr', hR, hs, hfn, hl⟩ := leaves_stepsInM a'.defers .returning w' { b.atR a' [] with mode := .returning } cs rfl rfl rfl hf rfl trivial hr hq
    exact ⟨e', w'', fr', hR, ComesIn.of_steps (StepsIn.trans harr (.one (fenced_calm (fr := b.atR a' []) (F := Fence.wide) trivial hr rfl) (stepR_end rfl))) hs, hfn, hl⟩
  | ret =>
    obtain ⟨todo, hs₀⟩ := harr.1 rfl
    obtain ⟨e', w'', fr', hR, hs, hfn, hl⟩ := leaves_stepsInM a'.defers .returning w' { b.atR a' todo with mode := .returning } cs rfl rfl rfl hf rfl trivial hr hq
    exact ⟨e', w'', fr', hR, ComesIn.of_steps hs₀ hs, hfn, hl⟩
  | panic chain =>
    obtain ⟨todo, hs₀⟩ := harr
    obtain ⟨e', w'', fr', hR, hs, hfn, hl⟩ := leaves_stepsInM a'.defers (.panicking chain) w' { b.atR a' todo with mode := .panicking chain } cs rfl rfl rfl hf rfl trivial hr hq
    exact ⟨e', w'', fr', hR, ComesIn.of_steps hs₀ hs, hfn, hl⟩
  | exit id => exact hq.elim
  | goto l => exact hq.elim
  | outgrown => exact ⟨.outgrown, w', b, hq, harr.resolve_left (by simp [b]), rfl, trivial⟩

/-- An iterator that writes the blocks of T, and new memory, and hands out what X tells, in states of a kind of its own: St between two rounds, Nx from one to the next, En how it ends by a panic. -/
def SeqP {σ α : Type} (n : Nat) (P : Program) (g : Nat) (lb : Array Value) (encs : α → Array Value) (X : σ → α → World → Prop) (St : σ → World → Prop) (Nx : σ → σ → Prop) (En : σ → List PanicEntry → World → Prop) (T : Nat → Prop) (s₀ : σ) (w : World) : Prop :=
  ∀ (l : Nat) (J Jx : World → Prop) (Jp : List PanicEntry → World → Prop) (W : World), Kept Nought w W → l = w.heap.size + 1 → W.heap.size = w.heap.size + 2 →
    (∀ A C, J A → Kept (fun x => T x ∨ W.heap.size ≤ x) A C → J C) →
    (∀ s x A, J A → X s x A → YieldAt Fence.wide (n - 1) P l (encs x) A fun e C =>
      (e = .returned (.bool true) ∧ J C ∧ (∃ s', Nx s s' ∧ St s' C) ∧ Kept (fun b => T b ∨ b = l ∨ b + 1 = l) A C) ∨ (e = .returned (.bool false) ∧ Jx C) ∨ ∃ ch, e = .panicked ch ∧ Jp ch C) →
    J W → St s₀ W →
    CallsIn Fence.wide n P g (#[.func (.yield l) #[] #[]] ++ lb) W fun e C => ((∃ v, e = .returned v) ∧ Jx C) ∨ ∃ ch, e = .panicked ch ∧ (Jp ch C ∨ ∃ s, En s ch C ∧ J C)

/-- How a round ends: off its end of memory only the blocks of T were written, by a return or a panic only those of Sb. -/
def leftP {σ : Type} (T Sb : Nat → Prop) (Nx : σ → Prop) (St : σ → World → Prop) (Ix : World → Prop) (Ip : List PanicEntry → World → Prop) (W : World) : Exit → Act → World → Prop
  | .normal, _, W' => Kept T W W' ∧ ∃ s', Nx s' ∧ St s' W'
  | .ret, _, W' => Kept Sb W W' ∧ Ix W'
  | .exit _, _, _ => False
  | .goto _, _, _ => False
  | .panic ch, a, W' => a.defers = [] ∧ Kept Sb W W' ∧ Ip ch W'
  | .outgrown, _, _ => False

/-- What stands while the loop's own books are turned. -/
def Turned (B : Nat) (J : World → Prop) : Prop := ∀ A l o o', J A → B ≤ l → A.heap[l]? = some o → o.isCells = false → J (A.putObj l o')

/-- A range over such a function. -/
theorem wpF_range {σ α : Type} {P : Program} {n : Nat} {g : Operand} {ps : Array Tmp} {assign body : Code} {Q : Exit → Act → World → Prop} {a : Act} {w : World} {f : FuncId} {fn : Func} (hf : P.funcs[f]? = some fn) {gf : Nat} {lb : Array Value}
    (hg : a.eval g = .func (.func gf) #[] lb) (eg : ∀ args w, (callFunc gf args).run P w = .ok (.enter gf args) w)
    {encs : α → Array Value} {X : σ → α → World → Prop} {St : σ → World → Prop} {Nx : σ → σ → Prop} {En : σ → List PanicEntry → World → Prop} {T Sb : Nat → Prop} {s₀ : σ} (hseq : SeqP (n - 1) P gf lb encs X St Nx En T s₀ w) (hps : ∀ x, (encs x).size = ps.size) (hT : ∀ b, T b → b < w.heap.size) (hSb : ∀ b, Sb b → b < w.heap.size)
    (hX : ∀ s x A l o o', X s x A → A.heap[l]? = some o → o.isCells = false → X s x (A.putObj l o'))
    (I Ix : World → Prop) (Ip : List PanicEntry → World → Prop) (hI : ∀ A C, I A → Kept (fun x => T x ∨ w.heap.size ≤ x) A C → I C) (hIx : Turned w.heap.size Ix) (hSt : ∀ s, Turned w.heap.size (St s)) (h0 : I w) (hs0 : ∀ W, Kept Nought w W → St s₀ W) (a₁ : α → Act)
    (hassign : ∀ (l : Nat) (x : α) (W : World) (K : Act → World → Prop), K (a₁ x) W → assign.wpIn (Fence.wide.inRound l) (n - 1 - 1) P (Exit.then K (fun _ _ _ => False)) { tmps := (ps.zip (encs x)).foldl (fun t (p, v) => t.setIfInBounds p v) a.tmps, defers := [] } W)
    (hbody : ∀ (l : Nat) (s : σ) (x : α) (W : World), w.heap.size ≤ W.heap.size → I W → X s x W → body.wpIn (Fence.wide.inRound l) (n - 1 - 1) P (leftP T Sb (Nx s) St Ix Ip W) (a₁ x) W)
    (hstop : ∀ (D : Nat) (W : World), w.heap.size ≤ D → Ix W → W.heap[D]? = some (.deferred (some [])) → Q .ret { a with defers := { target := .collected D, args := #[] } :: a.defers } W)
    (hpan : ∀ (D : Nat) (ch : List PanicEntry) (W : World), w.heap.size ≤ D → (Ip ch W ∨ ∃ s, En s ch W ∧ I W) → W.heap[D]? = some (.deferred (some [])) → Q (.panic ch) { a with defers := { target := .collected D, args := #[] } :: a.defers } W) :
    wpF f P (Code.rangeFunc g ps assign body) Q a w := by
  refine wpF_rangeFunc (n := n) ?_
  obtain ⟨rec, hrec⟩ : ∃ rec : LoopState → Option Code → Loop, rec = fun st pe => { state := st, pending := pe, fn := f, tmps := a.tmps, params := ps, assign, body, defers := w.heap.size } := ⟨_, rfl⟩
  obtain ⟨W1, hW1⟩ : ∃ W1, W1 = (w.alloc (.deferred (some []))).alloc (.loop (rec .ready none)) := ⟨_, rfl⟩
  have hs1 : W1.heap.size = w.heap.size + 2 := by rw [hW1]; simp
  have hk1 : Kept Nought w W1 := by rw [hW1]; exact ((Kept.refl _ w).alloc _).alloc _
  have hb1 : Books w.heap.size (rec .ready none) W1 := by
    rw [hW1]
    refine ⟨?_, (Below.heap_alloc _ _ _ (by simp)).trans (World.alloc_heap_new w _)⟩
    have := World.alloc_heap_new (w.alloc (.deferred (some []))) (.loop (rec .ready none))
    rwa [World.size_alloc] at this
  refine ⟨w.heap.size + 1, [{ target := .collected w.heap.size, args := #[] }], W1, { target := .fn (.func gf) lb, args := #[.func (.yield (w.heap.size + 1)) #[] #[]] }, W1, gf, #[.func (.yield (w.heap.size + 1)) #[] #[]] ++ lb, W1, ?_, ?_, ?_, ?_⟩
  · rw [hW1, hrec]
    exact run_enterLoop_outer _ _ _ _ _
  · simp only [resolve, hg]
    simp [go_sem]
  · simp [invoke, go_sem, eg]
  · have turn : ∀ (jump : Option Code) (A : World), Books w.heap.size (rec .busy none) A → ∃ C, (Instr.endRound (w.heap.size + 1) jump).run P A = .ok (.bool jump.isNone) C ∧ Books w.heap.size (rec (if jump.isNone then .ready else .done) jump) C ∧ Below w.heap.size A C ∧ Kept (fun b => b = w.heap.size + 1) A C ∧ ∃ o', C = A.putObj (w.heap.size + 1) o' := fun jump A hb => by
      refine ⟨_, run_endRound (P := P) jump hb.1, ?_, low_put _ (by omega), kept_put _ _ _, _, rfl⟩
      have := hb.put { rec .busy none with state := if jump.isNone then .ready else .done, pending := jump }
      rw [hrec] at this ⊢
      exact this
    have hLow : ∀ {r : Loop}, ∀ A C, (I A ∧ Books w.heap.size r A) → Kept (fun x => T x ∨ W1.heap.size ≤ x) A C → I C ∧ Books w.heap.size r C := fun A C h k => by
      rw [hs1] at k
      refine ⟨hI A C h.1 (k.mono (fun x _ e => ?_)), ?_⟩
      · rcases e with e | e
        · exact .inl e
        · exact .inr (by omega)
      · have hl := h.2.lt
        refine ⟨(k.block _ (by omega) ?_).trans h.2.1, (k.block _ (by omega) ?_).trans h.2.2⟩
        all_goals
          rintro (e | e)
          · have := hT _ e
            omega
          · omega
    refine (hseq (w.heap.size + 1) (fun A => (I A ∧ w.heap.size ≤ A.heap.size) ∧ Books w.heap.size (rec .ready none) A) (fun A => Ix A ∧ Books w.heap.size (rec .done (some .ret)) A) (fun ch A => Ip ch A ∧ A.heap[w.heap.size]? = some (.deferred (some []))) W1 hk1 rfl hs1 (fun A C h k => by obtain ⟨h1, h2⟩ := hLow A C ⟨h.1.1, h.2⟩ k; exact ⟨⟨h1, Nat.le_trans h.1.2 k.size⟩, h2⟩) ?_ ⟨⟨hI _ _ h0 (below_keptT (below_kept hk1 (Nat.le_refl _))), hk1.size⟩, hb1⟩ (hs0 _ hk1)).mono ?_
    · rintro s x A ⟨⟨hi, hz⟩, hb⟩ hx
      have hy := run_yield (P := P) (args := encs x) hb.1 (by rw [hrec]; exact hps x)
      rw [hrec] at hy
      refine ⟨f, _, assign, body, hy, roundIn_pan hf (hassign _ x A _ ⟨_, run_beginRound hb.1 (by rw [hrec]), ?_⟩)⟩
      have hb2 := hb.put { rec .ready none with state := .busy }
      have hx2 := hX s x A _ _ (.loop { rec .ready none with state := .busy }) hx hb.1 rfl
      have hi2 := hI _ _ hi (below_keptT (low_put (W := A) (l := w.heap.size + 1) (.loop { rec .ready none with state := .busy }) (by omega)))
      have hk2 := kept_put A (w.heap.size + 1) (.loop { rec .ready none with state := .busy })
      have hz2 : w.heap.size ≤ (A.putObj (w.heap.size + 1) (.loop { rec .ready none with state := .busy })).heap.size := Nat.le_trans hz hk2.size
      have hb3 : ∀ (S : Nat → Prop) C, (∀ b, S b → b < w.heap.size) → Kept S (A.putObj (w.heap.size + 1) (.loop { rec .ready none with state := .busy })) C → Books w.heap.size (rec .busy none) C := fun S C hS k => by
        have := hb2.kept k hS
        rw [hrec] at this ⊢
        exact this
      refine wpIn_mono (hbody _ s x _ hz2 hi2 hx2) ?_
      generalize A.putObj (w.heap.size + 1) (.loop { rec .ready none with state := .busy }) = A2 at *
      rintro e a3 C hp
      cases e with
      | normal =>
        obtain ⟨k, s', hn', hst⟩ := hp
        have hbC := hb3 T C hT k
        obtain ⟨C', hr, hb4, hl4, hk4, o', rfl⟩ := turn none C hbC
        have kk := ((hk2.mono (fun _ _ e => .inr (.inl e))).next k (fun _ _ e => .inl e)).next hk4 (fun _ _ e => .inr (.inl e)) (S := fun b => T b ∨ b = w.heap.size + 1 ∨ b + 1 = w.heap.size + 1)
        refine ⟨_, _, hr, .inl ⟨rfl, ⟨⟨hI _ _ hi (kk.mono (fun x _ e => ?_)), Nat.le_trans hz kk.size⟩, hb4⟩, ⟨s', hn', hSt s' _ _ _ o' hst (by omega) hbC.1 rfl⟩, kk⟩⟩
        rcases e with e | e | e
        · exact .inl e
        · exact .inr (by omega)
        · exact .inr (by omega)
      | ret =>
        obtain ⟨k, hx'⟩ := hp
        have hbC := hb3 Sb C hSb k
        obtain ⟨C', hr, hb4, _, _, o', rfl⟩ := turn (some .ret) C hbC
        exact ⟨_, _, hr, .inr (.inl ⟨rfl, hIx _ _ _ o' hx' (by omega) hbC.1 rfl, hb4⟩)⟩
      | exit i => exact hp.elim
      | goto t => exact hp.elim
      | panic ch =>
        obtain ⟨hd, k, hp'⟩ := hp
        exact ⟨hd, .inr (.inr ⟨ch, rfl, hp', (hb3 Sb C hSb k).2⟩)⟩
      | outgrown => exact hp.elim
    · rintro e C (⟨⟨v, rfl⟩, hi, hb⟩ | ⟨ch, rfl, hh⟩)
      · refine ⟨_, _, run_endLoop (P := P) hb.1 (by rw [hrec]; simp), ?_⟩
        rw [hrec] at hb ⊢
        refine wpIn_ret ?_
        exact hstop _ _ (Nat.le_refl _) (hIx _ _ _ _ hi (by omega) hb.1 rfl) ((World.putObj_heap_other (by omega)).trans hb.2)
      · refine hpan _ ch C (Nat.le_refl _) ?_ ?_
        · rcases hh with hh | ⟨s, h1, h2⟩
          · exact .inl hh.1
          · exact .inr ⟨s, h1, h2.1.1⟩
        · rcases hh with hh | ⟨s, h1, h2⟩
          · exact hh.2
          · exact h2.2.2

end Go.Proofs.YtcjaafmlflonhaaGreatDoor

