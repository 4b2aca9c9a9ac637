/- Package pad: notBelow0, Find, Equal, of any trace. -/
import Derived.Test.YtegjdjfnpphipaaFnd0
import Derived.Test.YtegjdjfnpphipaaPad0
import Derived.Test.YtegjdjfnpphipaaWor1
import Derived.Test.YtegjdjfnpphipaaTra2
namespace Go.Proofs.Ytegjdjfnpphipaa
open Go.RowKit

/-- 1 or 0. -/
def bN (b : Bool) : Nat := if b = true then 1 else 0

theorem bor_bN (i f : Nat) : bor (i : Int) (f : Int) = ((bN (decide (i < f)) : Nat) : Int) := by
  unfold bor bN
  by_cases h : i < f
  · rw [if_pos (by omega), decide_eq_true h]
    rfl
  · rw [if_neg (by omega), decide_eq_false h]
    rfl

theorem eqw_bN (i f : Nat) : eqw (i : Int) (f : Int) = ((bN (decide (i = f)) : Nat) : Int) := by
  unfold eqw bN
  by_cases h : i = f
  · rw [if_pos (by omega), decide_eq_true h]
    rfl
  · rw [if_neg (by omega), decide_eq_false h]
    rfl

theorem zer_bN (i : Nat) : zer (i : Int) = ((bN (decide (i = 0)) : Nat) : Int) := by
  unfold zer bN
  by_cases h : i = 0
  · rw [if_pos (by omega), decide_eq_true h]
    rfl
  · rw [if_neg (by omega), decide_eq_false h]
    rfl

theorem xor_bN (b : Bool) : bits .xor .u64 ((bN b : Nat) : Int) 1 = ((bN (!b) : Nat) : Int) := by cases b <;> decide +kernel

theorem and_bN (b c : Bool) : bits .and .u64 ((bN b : Nat) : Int) ((bN c : Nat) : Int) = ((bN (b && c) : Nat) : Int) := by cases b <;> cases c <;> decide +kernel

theorem or_bN (b c : Bool) : bits .or .u64 ((bN b : Nat) : Int) ((bN c : Nat) : Int) = ((bN (b || c) : Nat) : Int) := by cases b <;> cases c <;> decide +kernel

theorem sel_bN (b : Bool) (x y : Nat) : sel ((bN b : Nat) : Int) (x : Int) (y : Int) = ((if b = true then x else y : Nat) : Int) := by
  cases b
  · unfold sel bN
    rw [if_neg (by decide), if_neg (by decide)]
  · unfold sel bN
    rw [if_pos (by decide), if_pos rfl]

theorem bN_lt (b : Bool) : bN b < 2 := by cases b <;> decide

/-- Bytes that lie apart from a trace. -/
def RowB (w : World) (o : Tr) (v : Value) (xs : List Nat) : Prop := Row .u8 w v xs ∧ (xs ≠ [] → ∀ b, v.ownBlock = some b → ¬ trFoot o b)

theorem RowB.none {w : World} {v : Value} {xs : List Nat} (h : Row .u8 w v xs) : RowB w none v xs := ⟨h, fun _ _ _ f => f⟩

theorem RowB.did {w w' : World} {o o' : Tr} {m : List Ev} {v : Value} {xs : List Nat} (h : RowB w o v xs) (d : Did w o m w' o') : Row .u8 w' v xs := h.1.kept' d.kept (fun hne x hx => h.2 hne x hx)

set_option maxHeartbeats 1000000 in
/-- notBelow0. -/
theorem kNb0 (fr : Int) (h0 : -9223372036854775808 ≤ fr) (h1 : fr ≤ 9223372036854775807) (f : Nat) (hf : (f : Int) = if fr < 0 then 0 else fr) (w : World) :
    Calls Try.prog 30 #[.int .i64 fr] w fun e w' => e = .returned (.int .u64 (f : Int)) ∧ w' = w := by
  by_cases h : fr < 0
  · rw [if_pos h] at hf
    obtain ⟨U, hU⟩ : ∃ U : Nat, (U : Int) = fr + 18446744073709551616 := ⟨(fr + 18446744073709551616).toNat, by omega⟩
    have gw : IntKind.u64.wrap fr = (U : Int) := by rw [IntKind.wrap_u64]; omega
    have gd : (U : Int) / 9223372036854775808 = 1 := by omega
    have JM := wMask 1 (by omega) (by omega) w
    rw [show msk 1 = 18446744073709551615 from by decide] at JM
    have ga : bits .andNot .u64 (U : Int) 18446744073709551615 = 0 := by
      have := u64_andNot_nat U 18446744073709551615 (by omega) (by omega)
      rw [Nat.sub_self, Nat.and_zero] at this
      exact this
    clear hU
    go_enter Try.func30, Try.ntmps30
    go_wp2_with fail
    refine JM.mono ?_
    rintro e w' ⟨rfl, rfl⟩
    go_wp2_with fail
    go_ret
    exact ⟨by rw [hf]; first | rfl | (rw [ga]), rfl⟩
  · rw [if_neg h] at hf
    obtain rfl : fr = (f : Int) := hf.symm
    have gw : IntKind.u64.wrap (f : Int) = (f : Int) := by rw [IntKind.wrap_u64]; omega
    have gd : (f : Int) / 9223372036854775808 = 0 := by omega
    have JM := wMask 0 (by omega) (by omega) w
    rw [show msk 0 = 0 from by decide] at JM
    have ga : bits .andNot .u64 (f : Int) 0 = (f : Int) := by
      have := u64_andNot_nat f 0 (by omega) (by omega)
      rw [Nat.sub_zero, show (18446744073709551615 : Nat) = 2 ^ 64 - 1 from rfl, Nat.and_two_pow_sub_one_of_lt_two_pow (by omega)] at this
      exact this
    clear hf
    go_enter Try.func30, Try.ntmps30
    go_wp2_with fail
    refine JM.mono ?_
    rintro e w' ⟨rfl, rfl⟩
    go_wp2_with fail
    go_ret
    exact ⟨by first | rfl | (rw [ga]), rfl⟩

/-- While Find goes on: what is found in the first i bytes. -/
def FndF (bs : List Nat) (c f i a : Nat) (F : Bool) : Prop :=
  (F = true ∧ a < i ∧ i ≤ bs.length ∧ f ≤ a ∧ bs.getD a 0 = c ∧ ∀ j : Nat, f ≤ j → j < a → bs.getD j 0 ≠ c) ∨
  (F = false ∧ a = bs.length ∧ ∀ j : Nat, f ≤ j → j < i → bs.getD j 0 ≠ c)

theorem FndF.next {bs : List Nat} {c f i a : Nat} {F : Bool} (h : FndF bs c f i a F) (hi : i < bs.length) :
    FndF bs c f (i + 1) (if (decide (bs.getD i 0 = c) && !decide (i < f) && !F) = true then i else a) (F || (decide (bs.getD i 0 = c) && !decide (i < f) && !F)) := by
  rcases h with ⟨rfl, h1, h2, h3, h4, h5⟩ | ⟨rfl, rfl, h5⟩
  · refine .inl ⟨rfl, ?_⟩
    simp only [Bool.not_true, Bool.and_false, Bool.false_eq_true, if_false]
    exact ⟨by omega, by omega, h3, h4, h5⟩
  · by_cases hh : bs.getD i 0 = c ∧ ¬ i < f
    · have e : (decide (bs.getD i 0 = c) && !decide (i < f) && !false) = true := by rw [decide_eq_true hh.1, decide_eq_false hh.2]; rfl
      rw [e, if_pos rfl]
      exact .inl ⟨rfl, by omega, by omega, by omega, hh.1, fun j g1 g2 => h5 j g1 g2⟩
    · have e : (decide (bs.getD i 0 = c) && !decide (i < f) && !false) = false := by
        by_cases h1 : bs.getD i 0 = c
        · rw [decide_eq_true (show i < f from Decidable.byContradiction fun h2 => hh ⟨h1, h2⟩), Bool.not_true, Bool.and_false, Bool.false_and]
        · rw [decide_eq_false h1, Bool.false_and, Bool.false_and]
      rw [e, if_neg (by decide)]
      refine .inr ⟨rfl, rfl, fun j g1 g2 => ?_⟩
      by_cases ej : j = i
      · subst ej
        exact fun e => hh ⟨e, by omega⟩
      · exact h5 j g1 (by omega)

theorem FndF.done {bs : List Nat} {c f a : Nat} {fr : Int} {F : Bool} (h : FndF bs c f bs.length a F) (hf : (f : Int) = if fr < 0 then 0 else fr) : FndR bs c fr (-1) a (bN F) := by
  have key : ∀ j : Nat, fr ≤ (j : Int) ↔ f ≤ j := fun j => by split at hf <;> omega
  rcases h with ⟨rfl, h1, h2, h3, h4, h5⟩ | ⟨rfl, rfl, h5⟩
  · exact .inl ⟨rfl, by omega, by omega, (key _).2 h3, h4, fun j _ g1 g2 => h5 j ((key _).1 g1) g2⟩
  · exact .inr ⟨rfl, rfl, fun j _ g1 g2 => h5 j ((key _).1 g1) g2⟩

set_option maxRecDepth 20000 in
set_option maxHeartbeats 2000000 in
/-- Find. -/
theorem kFind (o : Tr) (bo : Option Addr) (M dap : Nat) (bs : List Nat) (c : Nat) (fr : Int) (w : World) (ht : TrIn w o) (h : RowB w o (.slice bo M dap) bs) (hd : Digs 256 bs) (hc : c < 256) (hM : M ≤ 10000) (hf0 : -9223372036854775808 ≤ fr) (hf1 : fr ≤ 9223372036854775807) :
    Calls Try.prog 17 #[trPtr o, .slice bo M dap, .int .u8 ((c : Nat) : Int), .int .i64 fr] w fun e w' => ∃ a s, e = .returned (.tuple #[.int .i64 ((a : Nat) : Int), .int .u64 ((s : Nat) : Int)]) ∧ FndR bs c fr (-1) a s ∧ ∃ o', Did w o [(1, (M : Int), 0)] w' o' := by
  obtain ⟨_, _, _, e1, hML, -, -, -, -⟩ := h.1.open
  cases e1
  have J0 := tSpanDid o (M : Int) w ht
  have HB := toHid h
  have HD := toHid hd
  obtain ⟨f, hf⟩ : ∃ f : Nat, (f : Int) = if fr < 0 then 0 else fr := ⟨(if fr < 0 then 0 else fr).toNat, by split <;> omega⟩
  have hf2 : f < 9223372036854775808 := by split at hf <;> omega
  have JN := toHid fun W => kNb0 fr hf0 hf1 f hf W
  have HF := toHid hf
  have HML := toHid hML.out
  have gM : IntKind.u64.wrap (M : Int) = (M : Int) := by rw [IntKind.wrap_u64]; omega
  have gc : IntKind.u64.wrap (c : Int) = (c : Int) := by rw [IntKind.wrap_u64]; omega
  clear h hd hf hf0 hf1 hML
  generalize trPtr o = tp at *
  go_enter Try.func17, Try.ntmps17
  go_wp2_with fail
  refine J0.mono ?_
  rintro e w1 ⟨rfl, o1, d1⟩
  have HR1 := toHid (HB.out.did d1)
  have HD1 := toHid d1
  have J1 := JN.out w1
  clear J0 d1
  go_wp2_with fail
  refine J1.mono ?_
  rintro e w2 ⟨rfl, rfl⟩
  clear J1
  go_wp2_with fail
  go_loop [11, 12, 27] (fun av sv iv => ∃ (a i : Nat) (F : Bool), i ≤ M ∧ a ≤ M ∧ av = .int .u64 (a : Int) ∧ sv = .int .u64 ((bN F : Nat) : Int) ∧ iv = .int .i64 (i : Int) ∧ Hid (FndF bs c f i a F)) (fun _ _ iv => M - (intOf iv).toNat)
  case atStart => exact ⟨M, 0, false, by omega, by omega, by first | rfl | rw [gM], rfl, rfl, .inr ⟨rfl, HML.out.symm, fun j _ g => by omega⟩⟩
  case round =>
    obtain ⟨a, i, F, hi, ha, rfl, rfl, rfl, HFN⟩ := hrel
    by_cases hiM : i < M
    · have g1 : (i : Int) < (M : Int) := by omega
      have g0 : (0 : Int) ≤ (i : Int) := by omega
      have gi : IntKind.u64.wrap (i : Int) = (i : Int) := by rw [IntKind.wrap_u64]; omega
      obtain ⟨_, _, _, e1, _, _, _, _, hnum⟩ := HR1.out.open
      cases e1
      obtain ⟨bb, off, rfl, hcell⟩ := hnum i hiM
      have hz : bs.getD i 0 < 256 := HD.out.getD (by omega) i
      have HN := toHid (HFN.out.next (by rw [HML.out]; exact hiM))
      have J2 := wLess (i : Int) (f : Int) (by omega) (by omega) (by omega) w2
      rw [bor_bN] at J2
      generalize bs.getD i 0 = z at *
      have gz : IntKind.u64.wrap (z : Int) = (z : Int) := by rw [IntKind.wrap_u64]; omega
      have J3 := wEqual (z : Int) (c : Int) (by omega) (by omega) (by omega) (by omega) w2
      rw [eqw_bN] at J3
      generalize decide (z = c) = Q at *
      generalize decide (i < f) = X at *
      have x1 := xor_bN X
      have x2 := xor_bN F
      have x3 := and_bN Q (!X)
      have x4 := and_bN (Q && !X) (!F)
      have x5 := or_bN F (Q && !X && !F)
      obtain ⟨H, hH⟩ : ∃ H, H = (Q && !X && !F) := ⟨_, rfl⟩
      rw [← hH] at x4 x5 HN
      have hHb := bN_lt H
      have J4 := wSelect ((bN H : Nat) : Int) (i : Int) (a : Int) (by omega) (by omega) (by omega) (by omega) (by omega) (by omega) w2
      rw [sel_bN] at J4
      obtain ⟨a2, ha2⟩ : ∃ a2, a2 = (if H = true then i else a) := ⟨_, rfl⟩
      rw [← ha2] at HN J4
      have ha2b : a2 ≤ M := by rw [ha2]; split <;> omega
      clear hnum hH ha2
      go_wp2_with fail
      refine J2.mono ?_
      rintro e w3 ⟨rfl, rfl⟩
      clear J2
      go_wp2_with fail
      refine J3.mono ?_
      rintro e w3 ⟨rfl, rfl⟩
      clear J3
      go_wp2_with fail
      refine J4.mono ?_
      rintro e w3 ⟨rfl, rfl⟩
      clear J4
      go_wp2_with fail
      go_round
      case rel => exact ⟨a2, i + 1, F || H, by omega, ha2b, rfl, by first | rfl | rw [x5], by go_num, HN⟩
      case measure => simp [intOf]; omega
    · obtain rfl : i = M := by omega
      have g1 : ¬ (i : Int) < (i : Int) := by omega
      have ga : IntKind.i64.wrap (a : Int) = (a : Int) := by rw [IntKind.wrap_i64]; omega
      have hfin : FndR bs c fr (-1) a (bN F) := FndF.done (by rw [HML.out]; exact HFN.out) HF.out
      have HFIN := toHid hfin
      clear hfin HFN
      go_wp2_with fail
      go_ret2
      exact ⟨a, bN F, by first | rfl | (rw [ga]), HFIN.out, o1, HD1.out⟩

end Go.Proofs.Ytegjdjfnpphipaa
