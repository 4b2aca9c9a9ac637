/- Put together of: Pad3 Pad4. -/
import Derived.Test.YtnhkfdbeacmepaaDoorPk24
import Derived.Test.YtnhkfdbeacmepaaDoorPk28
import Derived.Test.YtnhkfdbeacmepaaDoorPk29
import Derived.Deep.RegionHeld3

/- Package pad: notBelow0, Find, Equal, of any trace. -/
namespace Go.Proofs.YtnhkfdbeacmepaaDoor
open Go.RowKit

/-- 1 or 0. -/
def bN (b : Bool) : Nat := if b = true then 1 else 0

theorem bor_bN (i f : Nat) : bor (i : Int) (f : Int) = ((bN (decide (i < f)) : Nat) : Int) := by
  unfold bor bN
  by_cases h : i < f
  · rw [if_pos (by omega), decide_eq_true h]
    rfl
  · rw [if_neg (by omega), decide_eq_false h]
    rfl

theorem eqw_bN (i f : Nat) : eqw (i : Int) (f : Int) = ((bN (decide (i = f)) : Nat) : Int) := by
  unfold eqw bN
  by_cases h : i = f
  · rw [if_pos (by omega), decide_eq_true h]
    rfl
  · rw [if_neg (by omega), decide_eq_false h]
    rfl

theorem zer_bN (i : Nat) : zer (i : Int) = ((bN (decide (i = 0)) : Nat) : Int) := by
  unfold zer bN
  by_cases h : i = 0
  · rw [if_pos (by omega), decide_eq_true h]
    rfl
  · rw [if_neg (by omega), decide_eq_false h]
    rfl

theorem xor_bN (b : Bool) : bits .xor .u64 ((bN b : Nat) : Int) 1 = ((bN (!b) : Nat) : Int) := by cases b <;> decide +kernel

theorem and_bN (b c : Bool) : bits .and .u64 ((bN b : Nat) : Int) ((bN c : Nat) : Int) = ((bN (b && c) : Nat) : Int) := by cases b <;> cases c <;> decide +kernel

theorem or_bN (b c : Bool) : bits .or .u64 ((bN b : Nat) : Int) ((bN c : Nat) : Int) = ((bN (b || c) : Nat) : Int) := by cases b <;> cases c <;> decide +kernel

theorem sel_bN (b : Bool) (x y : Nat) : sel ((bN b : Nat) : Int) (x : Int) (y : Int) = ((if b = true then x else y : Nat) : Int) := by
  cases b
  · unfold sel bN
    rw [if_neg (by decide), if_neg (by decide)]
  · unfold sel bN
    rw [if_pos (by decide), if_pos rfl]

theorem bN_lt (b : Bool) : bN b < 2 := by cases b <;> decide

set_option maxHeartbeats 1000000 in
/-- notBelow0. -/
theorem kNb0 (fr : Int) (h0 : -9223372036854775808 ≤ fr) (h1 : fr ≤ 9223372036854775807) (f : Nat) (hf : (f : Int) = if fr < 0 then 0 else fr) (w : World) :
    Calls Tryd.prog 71 #[.int .i64 fr] w fun e w' => e = .returned (.int .u64 (f : Int)) ∧ w' = w := by
  by_cases h : fr < 0
  · rw [if_pos h] at hf
    obtain ⟨U, hU⟩ : ∃ U : Nat, (U : Int) = fr + 18446744073709551616 := ⟨(fr + 18446744073709551616).toNat, by omega⟩
    have gw : IntKind.u64.wrap fr = (U : Int) := by rw [IntKind.wrap_u64]; omega
    have gd : (U : Int) / 9223372036854775808 = 1 := by omega
    have JM := wMask 1 (by omega) (by omega) w
    rw [show msk 1 = 18446744073709551615 from by decide] at JM
    have ga : bits .andNot .u64 (U : Int) 18446744073709551615 = 0 := by
      have := u64_andNot_nat U 18446744073709551615 (by omega) (by omega)
      rw [Nat.sub_self, Nat.and_zero] at this
      exact this
    clear hU
    go_enter Tryd.func71, Tryd.ntmps71
    go_wp2_with fail
    refine JM.mono ?_
    rintro e w' ⟨rfl, rfl⟩
    go_wp2_with fail
    go_ret
    exact ⟨by rw [hf]; first | rfl | (rw [ga]), rfl⟩
  · rw [if_neg h] at hf
    obtain rfl : fr = (f : Int) := hf.symm
    have gw : IntKind.u64.wrap (f : Int) = (f : Int) := by rw [IntKind.wrap_u64]; omega
    have gd : (f : Int) / 9223372036854775808 = 0 := by omega
    have JM := wMask 0 (by omega) (by omega) w
    rw [show msk 0 = 0 from by decide] at JM
    have ga : bits .andNot .u64 (f : Int) 0 = (f : Int) := by
      have := u64_andNot_nat f 0 (by omega) (by omega)
      rw [Nat.sub_zero, show (18446744073709551615 : Nat) = 2 ^ 64 - 1 from rfl, Nat.and_two_pow_sub_one_of_lt_two_pow (by omega)] at this
      exact this
    clear hf
    go_enter Tryd.func71, Tryd.ntmps71
    go_wp2_with fail
    refine JM.mono ?_
    rintro e w' ⟨rfl, rfl⟩
    go_wp2_with fail
    go_ret
    exact ⟨by first | rfl | (rw [ga]), rfl⟩

/-- While Find goes on: what is found in the first i bytes. -/
def FndF (bs : List Nat) (c f i a : Nat) (F : Bool) : Prop :=
  (F = true ∧ a < i ∧ i ≤ bs.length ∧ f ≤ a ∧ bs.getD a 0 = c ∧ ∀ j : Nat, f ≤ j → j < a → bs.getD j 0 ≠ c) ∨
  (F = false ∧ a = bs.length ∧ ∀ j : Nat, f ≤ j → j < i → bs.getD j 0 ≠ c)

theorem FndF.next {bs : List Nat} {c f i a : Nat} {F : Bool} (h : FndF bs c f i a F) (hi : i < bs.length) :
    FndF bs c f (i + 1) (if (decide (bs.getD i 0 = c) && !decide (i < f) && !F) = true then i else a) (F || (decide (bs.getD i 0 = c) && !decide (i < f) && !F)) := by
  rcases h with ⟨rfl, h1, h2, h3, h4, h5⟩ | ⟨rfl, rfl, h5⟩
  · refine .inl ⟨rfl, ?_⟩
    simp only [Bool.not_true, Bool.and_false, Bool.false_eq_true, if_false]
    exact ⟨by omega, by omega, h3, h4, h5⟩
  · by_cases hh : bs.getD i 0 = c ∧ ¬ i < f
    · have e : (decide (bs.getD i 0 = c) && !decide (i < f) && !false) = true := by rw [decide_eq_true hh.1, decide_eq_false hh.2]; rfl
      rw [e, if_pos rfl]
      exact .inl ⟨rfl, by omega, by omega, by omega, hh.1, fun j g1 g2 => h5 j g1 g2⟩
    · have e : (decide (bs.getD i 0 = c) && !decide (i < f) && !false) = false := by
        by_cases h1 : bs.getD i 0 = c
        · rw [decide_eq_true (show i < f from Decidable.byContradiction fun h2 => hh ⟨h1, h2⟩), Bool.not_true, Bool.and_false, Bool.false_and]
        · rw [decide_eq_false h1, Bool.false_and, Bool.false_and]
      rw [e, if_neg (by decide)]
      refine .inr ⟨rfl, rfl, fun j g1 g2 => ?_⟩
      by_cases ej : j = i
      · subst ej
        exact fun e => hh ⟨e, by omega⟩
      · exact h5 j g1 (by omega)

theorem FndF.done {bs : List Nat} {c f a : Nat} {fr : Int} {F : Bool} (h : FndF bs c f bs.length a F) (hf : (f : Int) = if fr < 0 then 0 else fr) : FndR bs c fr (-1) a (bN F) := by
  have key : ∀ j : Nat, fr ≤ (j : Int) ↔ f ≤ j := fun j => by split at hf <;> omega
  rcases h with ⟨rfl, h1, h2, h3, h4, h5⟩ | ⟨rfl, rfl, h5⟩
  · exact .inl ⟨rfl, by omega, by omega, (key _).2 h3, h4, fun j _ g1 g2 => h5 j ((key _).1 g1) g2⟩
  · exact .inr ⟨rfl, rfl, fun j _ g1 g2 => h5 j ((key _).1 g1) g2⟩

set_option maxRecDepth 20000 in
set_option maxHeartbeats 2000000 in
/-- Find. -/
theorem kFind (o : Tr) (bo : Option Addr) (M dap : Nat) (bs : List Nat) (c : Nat) (fr : Int) (w : World) (ht : TrIn w o) (h : RowB w o (.slice bo M dap) bs) (hd : Digs 256 bs) (hc : c < 256) (hM : M ≤ 10000) (hf0 : -9223372036854775808 ≤ fr) (hf1 : fr ≤ 9223372036854775807) :
    Calls Tryd.prog 53 #[trPtr o, .slice bo M dap, .int .u8 ((c : Nat) : Int), .int .i64 fr] w fun e w' => ∃ a s, e = .returned (.tuple #[.int .i64 ((a : Nat) : Int), .int .u64 ((s : Nat) : Int)]) ∧ FndR bs c fr (-1) a s ∧ ∃ o', Did w o [(1, (M : Int), 0)] w' o' := by
  obtain ⟨_, _, _, e1, hML, -, -, -, -⟩ := h.1.open
  cases e1
  have J0 := tSpanDid o (M : Int) w ht
  have HB := toHid h
  have HD := toHid hd
  obtain ⟨f, hf⟩ : ∃ f : Nat, (f : Int) = if fr < 0 then 0 else fr := ⟨(if fr < 0 then 0 else fr).toNat, by split <;> omega⟩
  have hf2 : f < 9223372036854775808 := by split at hf <;> omega
  have JN := toHid fun W => kNb0 fr hf0 hf1 f hf W
  have HF := toHid hf
  have HML := toHid hML.out
  have gM : IntKind.u64.wrap (M : Int) = (M : Int) := by rw [IntKind.wrap_u64]; omega
  have gc : IntKind.u64.wrap (c : Int) = (c : Int) := by rw [IntKind.wrap_u64]; omega
  clear h hd hf hf0 hf1 hML
  generalize trPtr o = tp at *
  go_enter Tryd.func53, Tryd.ntmps53
  go_wp2_with fail
  refine J0.mono ?_
  rintro e w1 ⟨rfl, o1, d1⟩
  have HR1 := toHid (HB.out.did d1)
  have HD1 := toHid d1
  have J1 := JN.out w1
  clear J0 d1
  go_wp2_with fail
  refine J1.mono ?_
  rintro e w2 ⟨rfl, rfl⟩
  clear J1
  go_wp2_with fail
  go_loop [11, 12, 27] (fun av sv iv => ∃ (a i : Nat) (F : Bool), i ≤ M ∧ a ≤ M ∧ av = .int .u64 (a : Int) ∧ sv = .int .u64 ((bN F : Nat) : Int) ∧ iv = .int .i64 (i : Int) ∧ Hid (FndF bs c f i a F)) (fun _ _ iv => M - (intOf iv).toNat)
  case atStart => exact ⟨M, 0, false, by omega, by omega, by first | rfl | rw [gM], rfl, rfl, .inr ⟨rfl, HML.out.symm, fun j _ g => by omega⟩⟩
  case round =>
    obtain ⟨a, i, F, hi, ha, rfl, rfl, rfl, HFN⟩ := hrel
    by_cases hiM : i < M
    · have g1 : (i : Int) < (M : Int) := by omega
      have g0 : (0 : Int) ≤ (i : Int) := by omega
      have gi : IntKind.u64.wrap (i : Int) = (i : Int) := by rw [IntKind.wrap_u64]; omega
      obtain ⟨_, _, _, e1, _, _, _, _, hnum⟩ := HR1.out.open
      cases e1
      obtain ⟨bb, off, rfl, hcell⟩ := hnum i hiM
      have hz : bs.getD i 0 < 256 := HD.out.getD (by omega) i
      have HN := toHid (HFN.out.next (by rw [HML.out]; exact hiM))
      have J2 := wLess (i : Int) (f : Int) (by omega) (by omega) (by omega) w2
      rw [bor_bN] at J2
      generalize bs.getD i 0 = z at *
      have gz : IntKind.u64.wrap (z : Int) = (z : Int) := by rw [IntKind.wrap_u64]; omega
      have J3 := wEqual (z : Int) (c : Int) (by omega) (by omega) (by omega) (by omega) w2
      rw [eqw_bN] at J3
      generalize decide (z = c) = Q at *
      generalize decide (i < f) = X at *
      have x1 := xor_bN X
      have x2 := xor_bN F
      have x3 := and_bN Q (!X)
      have x4 := and_bN (Q && !X) (!F)
      have x5 := or_bN F (Q && !X && !F)
      obtain ⟨H, hH⟩ : ∃ H, H = (Q && !X && !F) := ⟨_, rfl⟩
      rw [← hH] at x4 x5 HN
      have hHb := bN_lt H
      have J4 := wSelect ((bN H : Nat) : Int) (i : Int) (a : Int) (by omega) (by omega) (by omega) (by omega) (by omega) (by omega) w2
      rw [sel_bN] at J4
      obtain ⟨a2, ha2⟩ : ∃ a2, a2 = (if H = true then i else a) := ⟨_, rfl⟩
      rw [← ha2] at HN J4
      have ha2b : a2 ≤ M := by rw [ha2]; split <;> omega
      clear hnum hH ha2
      go_wp2_with fail
      refine J2.mono ?_
      rintro e w3 ⟨rfl, rfl⟩
      clear J2
      go_wp2_with fail
      refine J3.mono ?_
      rintro e w3 ⟨rfl, rfl⟩
      clear J3
      go_wp2_with fail
      refine J4.mono ?_
      rintro e w3 ⟨rfl, rfl⟩
      clear J4
      go_wp2_with fail
      go_round
      case rel => exact ⟨a2, i + 1, F || H, by omega, ha2b, rfl, by first | rfl | rw [x5], by go_num, HN⟩
      case measure => simp [intOf]; omega
    · obtain rfl : i = M := by omega
      have g1 : ¬ (i : Int) < (i : Int) := by omega
      have ga : IntKind.i64.wrap (a : Int) = (a : Int) := by rw [IntKind.wrap_i64]; omega
      have hfin : FndR bs c fr (-1) a (bN F) := FndF.done (by rw [HML.out]; exact HFN.out) HF.out
      have HFIN := toHid hfin
      clear hfin HFN
      go_wp2_with fail
      go_ret2
      exact ⟨a, bN F, by first | rfl | (rw [ga]), HFIN.out, o1, HD1.out⟩

end Go.Proofs.YtnhkfdbeacmepaaDoor


/- Package pad: Equal, message, Decode, of any trace. -/
namespace Go.Proofs.YtnhkfdbeacmepaaDoor
open Go.RowKit

theorem xor_i64 (a b : Nat) (ha : a < 1048576) (hb : b < 1048576) : bits .xor .i64 (a : Int) (b : Int) = ((a ^^^ b : Nat) : Int) := by
  have hx : a ^^^ b < 2 ^ 20 := Nat.xor_lt_two_pow (by omega) (by omega)
  have e : ∀ z : Nat, z < 1048576 → (BitVec.ofInt 64 (z : Int)).toNat = z := fun z hz => by
    rw [BitVec.toNat_ofInt]
    omega
  show IntKind.i64.wrap ((BitVec.ofInt 64 (a : Int) ^^^ BitVec.ofInt 64 (b : Int)).toNat : Int) = _
  rw [BitVec.toNat_xor, e a ha, e b hb, IntKind.wrap_i64]
  omega

theorem xor_zero_iff {a b : Nat} : a ^^^ b = 0 ↔ a = b := by
  constructor
  · intro h
    have : a ^^^ (a ^^^ b) = a := by rw [h, Nat.xor_zero]
    rw [← Nat.xor_assoc, Nat.xor_self, Nat.zero_xor] at this
    exact this.symm
  · rintro rfl
    exact Nat.xor_self a

theorem or_zero_iff {a b : Nat} : a ||| b = 0 ↔ a = 0 ∧ b = 0 := by
  have h1 : a ≤ a ||| b := Nat.left_le_or
  have h2 : b ≤ a ||| b := Nat.right_le_or
  constructor
  · intro h
    omega
  · rintro ⟨rfl, rfl⟩
    rfl

theorem getD_zeros (xs : List Nat) (k j : Nat) : (xs ++ List.replicate k 0).getD j 0 = xs.getD j 0 := by
  rw [List.getD_eq_getElem?_getD, List.getD_eq_getElem?_getD]
  by_cases h : j < xs.length
  · rw [List.getElem?_append_left h]
  · rw [List.getElem?_append_right (by omega), List.getElem?_eq_none (l := xs) (by omega), List.getElem?_replicate]
    split <;> rfl

theorem alike_iff {xs bs : List Nat} {N : Nat} (hN : xs.length ≤ N) : (xs.length = bs.length ∧ ∀ j, j < N → xs.getD j 0 = bs.getD j 0) ↔ xs = bs := by
  constructor
  · rintro ⟨h1, h2⟩
    refine List.ext_getElem h1 fun i hi hj => ?_
    have := h2 i (by omega)
    rw [List.getD_eq_getElem?_getD, List.getD_eq_getElem?_getD, List.getElem?_eq_getElem hi, List.getElem?_eq_getElem hj] at this
    exact this
  · rintro rfl
    exact ⟨rfl, fun _ _ => rfl⟩

set_option maxRecDepth 20000 in
set_option maxHeartbeats 2000000 in
/-- Equal. -/
theorem kEqual (o : Tr) (ao bo : Option Addr) (L cap M dap : Nat) (xs bs : List Nat) (R : Nat) (w : World) (hR : R = if xs = bs then 1 else 0) (ht : TrIn w o) (hx : RowB w o (.slice ao L cap) xs) (hb : RowB w o (.slice bo M dap) bs) (dx : Digs 256 xs) (db : Digs 256 bs) (hL : L ≤ 10000) (hM : M ≤ 10000) :
    Calls Tryd.prog 52 #[trPtr o, .slice ao L cap, .slice bo M dap] w fun e w' => e = .returned (.int .u64 ((R : Nat) : Int)) ∧ ∃ o', Did w o [(1, ((max L M : Nat) : Int), 0)] w' o' := by
  obtain ⟨_, _, _, e1, hXL, -, -, -, -⟩ := hx.1.open
  cases e1
  obtain ⟨_, _, _, e1, hBL, -, -, -, -⟩ := hb.1.open
  cases e1
  obtain ⟨N, hN⟩ : ∃ N, N = max L M := ⟨_, rfl⟩
  rw [← hN]
  have hNL : L ≤ N := by omega
  have hNM : M ≤ N := by omega
  have hNb : N ≤ 10000 := by omega
  have gmax : max (L : Int) (M : Int) = (N : Int) := by omega
  have J0 := tSpanDid o (N : Int) w ht
  have HX := toHid hx
  have HB := toHid hb
  have HXL := toHid hXL.out
  have HBL := toHid hBL.out
  have HDX := toHid dx
  have HDB := toHid db
  have gx : bits .xor .i64 (L : Int) (M : Int) = ((L ^^^ M : Nat) : Int) := xor_i64 L M (by omega) (by omega)
  obtain ⟨U0, hU0⟩ : ∃ U0, U0 = L ^^^ M := ⟨_, rfl⟩
  have hU0b : U0 < 16384 := by rw [hU0]; exact Nat.xor_lt_two_pow (n := 14) (by omega) (by omega)
  rw [← hU0] at gx
  have gu : IntKind.u64.wrap (U0 : Int) = (U0 : Int) := by rw [IntKind.wrap_u64]; omega
  have HU0 : Hid (U0 = 0 ↔ L = M) := by unfold Hid; rw [hU0]; exact xor_zero_iff
  have HR : Hid (((L = M ∧ ∀ j, j < N → xs.getD j 0 = bs.getD j 0) → R = 1) ∧ (¬ (L = M ∧ ∀ j, j < N → xs.getD j 0 = bs.getD j 0) → R = 0)) := by
    unfold Hid
    rw [← hXL.out, ← hBL.out, alike_iff (by rw [hXL.out]; exact hNL), hR]
    exact ⟨fun h => if_pos h, fun h => if_neg h⟩
  have hRb : R = 0 ∨ R = 1 := by rw [hR]; split <;> simp
  clear hx hb dx db hR hXL hBL hU0 hN hL hM
  generalize trPtr o = tp at *
  go_enter Tryd.func52, Tryd.ntmps52
  go_wp2_with fail
  refine J0.mono ?_
  rintro e w1 ⟨rfl, o1, d1⟩
  have J1 := kLen (.slice ao L cap) xs N w1 (HX.out.did d1) (by rw [HXL.out]; exact hNL) (by omega)
  have HB1 := toHid (HB.out.did d1)
  have HD1 := toHid d1
  clear J0 d1
  go_wp2_with fail
  refine J1.mono ?_
  rintro e w2 ⟨u, rfl, hu, k2⟩
  have J2 := kLen (.slice bo M dap) bs N w2 (HB1.out.grew k2) (by rw [HBL.out]; exact hNM) (by omega)
  have HU := toHid hu.row
  have HK2 := toHid k2
  clear J1 hu k2
  go_wp2_with fail
  refine J2.mono ?_
  rintro e w3 ⟨v, rfl, hv, k3⟩
  have HU3 := toHid (HU.out.grew k3)
  have HV3 := toHid hv.row
  have HD3 := toHid (HD1.out.grew (HK2.out.trans k3))
  have HLU : Hid ((xs ++ List.replicate (N - xs.length) 0).length = N) := by unfold Hid; rw [List.length_append, List.length_replicate, HXL.out]; omega
  have HLV : Hid ((bs ++ List.replicate (N - bs.length) 0).length = N) := by unfold Hid; rw [List.length_append, List.length_replicate, HBL.out]; omega
  have HGU : Hid (∀ j, (xs ++ List.replicate (N - xs.length) 0).getD j 0 = xs.getD j 0) := fun j => getD_zeros _ _ _
  have HGV : Hid (∀ j, (bs ++ List.replicate (N - bs.length) 0).getD j 0 = bs.getD j 0) := fun j => getD_zeros _ _ _
  generalize xs ++ List.replicate (N - xs.length) 0 = XU at *
  generalize bs ++ List.replicate (N - bs.length) 0 = BV at *
  obtain ⟨uo, un, uc, rfl, hun, -, -, -, -⟩ := HU3.out.open
  obtain ⟨vo, vn, vc, rfl, hvn, -, -, -, -⟩ := HV3.out.open
  obtain rfl : un = N := by have := hun.out; have := HLU.out; omega
  obtain rfl : vn = un := by have := hvn.out; have := HLV.out; omega
  clear J2 hv k3 hun hvn HU HB1 HX HB HK2 HD1
  go_wp2_with fail
  go_loopw [10, 33] (fun av iv wr => ∃ (i U : Nat), i ≤ vn ∧ U < 18446744073709551616 ∧ av = .int .u64 (U : Int) ∧ iv = .int .i64 (i : Int) ∧ Hid (U = 0 ↔ L = M ∧ ∀ j, j < i → xs.getD j 0 = bs.getD j 0) ∧ Hid (Kept Nought w3 wr)) (fun _ iv _ => vn - (intOf iv).toNat)
  case atStart => exact ⟨0, U0, by omega, by omega, by first | rfl | (rw [gx, gu]) | (rw [gx]; rw [gu]), rfl, HU0.out.trans ⟨fun h => ⟨h, fun j hj => by omega⟩, fun h => h.1⟩, Kept.refl _ _⟩
  case round =>
    obtain ⟨i, U, hi, hU, rfl, rfl, HI, HK⟩ := hrel
    by_cases hiN : i < vn
    · have g1 : (i : Int) < (vn : Int) := by omega
      have g0 : (0 : Int) ≤ (i : Int) := by omega
      obtain ⟨_, _, _, e1, _, _, _, _, hnu⟩ := (HU3.out.grew HK.out).open
      cases e1
      obtain ⟨_, _, _, e1, _, _, _, _, hnv⟩ := (HV3.out.grew HK.out).open
      cases e1
      obtain ⟨ub, uoff, rfl, hcu⟩ := hnu i hiN
      obtain ⟨vb, voff, rfl, hcv⟩ := hnv i hiN
      have lx : xs.getD i 0 < 256 := HDX.out.getD (by omega) i
      have ly : bs.getD i 0 < 256 := HDB.out.getD (by omega) i
      rw [HGU.out] at hcu
      rw [HGV.out] at hcv
      have HNext : Hid (∀ z, z = xs.getD i 0 ^^^ bs.getD i 0 → (U ||| z = 0 ↔ L = M ∧ ∀ j, j < i + 1 → xs.getD j 0 = bs.getD j 0)) := fun z hz => by
        rw [or_zero_iff, HI.out, hz, xor_zero_iff]
        constructor
        · rintro ⟨⟨h1, h2⟩, h3⟩
          refine ⟨h1, fun j hj => ?_⟩
          by_cases e : j = i
          · subst e; exact h3
          · exact h2 j (by omega)
        · rintro ⟨h1, h2⟩
          exact ⟨⟨h1, fun j hj => h2 j (by omega)⟩, h2 i (by omega)⟩
      generalize xs.getD i 0 = X at *
      generalize bs.getD i 0 = Y at *
      have e6 := u8_xor_nat X Y (by omega) (by omega)
      obtain ⟨Z, hZ⟩ : ∃ Z, Z = X ^^^ Y := ⟨_, rfl⟩
      have hZb : Z < 256 := by rw [hZ]; exact Nat.xor_lt_two_pow (n := 8) lx ly
      rw [← hZ] at e6
      have HN := toHid (HNext.out Z hZ)
      have gz : IntKind.u64.wrap (Z : Int) = (Z : Int) := by rw [IntKind.wrap_u64]; omega
      have e7 := u64_or_nat U Z hU (by omega)
      have hU2 : U ||| Z < 18446744073709551616 := Nat.or_lt_two_pow (n := 64) (by omega) (by omega)
      generalize U ||| Z = U2 at *
      clear hnu hnv hZ HNext HI
      go_wp2_with fail
      go_quiet (fail)
      go_wp2_with fail
      go_roundw
      case rel => exact ⟨i + 1, U2, by omega, hU2, by first | rfl | (rw [e6, gz, e7]), by go_num, HN.out, HK.out.drewN _⟩
      case measure => simp [intOf]; omega
    · obtain rfl : i = vn := by omega
      have g1 : ¬ (i : Int) < (i : Int) := by omega
      have J4 := wZero (U : Int) (by omega) (by omega) wr
      rw [zer_bN] at J4
      have HF : Hid (bN (decide (U = 0)) = R) := by
        unfold Hid
        by_cases h : U = 0
        · rw [decide_eq_true h, HR.out.1 (HI.out.1 h)]
          rfl
        · rw [decide_eq_false h, HR.out.2 (fun e => h (HI.out.2 e))]
          rfl
      have HDF := toHid (HD3.out.grew HK.out)
      rw [HF.out] at J4
      clear HI HK HF
      go_wp2_with fail
      refine J4.mono ?_
      rintro e w4 ⟨rfl, rfl⟩
      go_wp2_with fail
      go_ret
      exact ⟨rfl, _, HDF.out⟩

end Go.Proofs.YtnhkfdbeacmepaaDoor

