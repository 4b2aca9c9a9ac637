/- Package pad: Equal, message, Decode, of any trace. -/
import Derived.Test.YtegjdjfnpphipaaPad3
import Derived.Test.YtegjdjfnpphipaaPad1
import Derived.Deep.RegionHeld3
namespace Go.Proofs.Ytegjdjfnpphipaa
open Go.RowKit

theorem xor_i64 (a b : Nat) (ha : a < 1048576) (hb : b < 1048576) : bits .xor .i64 (a : Int) (b : Int) = ((a ^^^ b : Nat) : Int) := by
  have hx : a ^^^ b < 2 ^ 20 := Nat.xor_lt_two_pow (by omega) (by omega)
  have e : ∀ z : Nat, z < 1048576 → (BitVec.ofInt 64 (z : Int)).toNat = z := fun z hz => by
    rw [BitVec.toNat_ofInt]
    omega
  show IntKind.i64.wrap ((BitVec.ofInt 64 (a : Int) ^^^ BitVec.ofInt 64 (b : Int)).toNat : Int) = _
  rw [BitVec.toNat_xor, e a ha, e b hb, IntKind.wrap_i64]
  omega

theorem xor_zero_iff {a b : Nat} : a ^^^ b = 0 ↔ a = b := by
  constructor
  · intro h
    have : a ^^^ (a ^^^ b) = a := by rw [h, Nat.xor_zero]
    rw [← Nat.xor_assoc, Nat.xor_self, Nat.zero_xor] at this
    exact this.symm
  · rintro rfl
    exact Nat.xor_self a

theorem or_zero_iff {a b : Nat} : a ||| b = 0 ↔ a = 0 ∧ b = 0 := by
  have h1 : a ≤ a ||| b := Nat.left_le_or
  have h2 : b ≤ a ||| b := Nat.right_le_or
  constructor
  · intro h
    omega
  · rintro ⟨rfl, rfl⟩
    rfl

theorem getD_zeros (xs : List Nat) (k j : Nat) : (xs ++ List.replicate k 0).getD j 0 = xs.getD j 0 := by
  rw [List.getD_eq_getElem?_getD, List.getD_eq_getElem?_getD]
  by_cases h : j < xs.length
  · rw [List.getElem?_append_left h]
  · rw [List.getElem?_append_right (by omega), List.getElem?_eq_none (l := xs) (by omega), List.getElem?_replicate]
    split <;> rfl

theorem alike_iff {xs bs : List Nat} {N : Nat} (hN : xs.length ≤ N) : (xs.length = bs.length ∧ ∀ j, j < N → xs.getD j 0 = bs.getD j 0) ↔ xs = bs := by
  constructor
  · rintro ⟨h1, h2⟩
    refine List.ext_getElem h1 fun i hi hj => ?_
    have := h2 i (by omega)
    rw [List.getD_eq_getElem?_getD, List.getD_eq_getElem?_getD, List.getElem?_eq_getElem hi, List.getElem?_eq_getElem hj] at this
    exact this
  · rintro rfl
    exact ⟨rfl, fun _ _ => rfl⟩

set_option maxRecDepth 20000 in
set_option maxHeartbeats 2000000 in
/-- Equal. -/
theorem kEqual (o : Tr) (ao bo : Option Addr) (L cap M dap : Nat) (xs bs : List Nat) (R : Nat) (w : World) (hR : R = if xs = bs then 1 else 0) (ht : TrIn w o) (hx : RowB w o (.slice ao L cap) xs) (hb : RowB w o (.slice bo M dap) bs) (dx : Digs 256 xs) (db : Digs 256 bs) (hL : L ≤ 10000) (hM : M ≤ 10000) :
    Calls Try.prog 18 #[trPtr o, .slice ao L cap, .slice bo M dap] w fun e w' => e = .returned (.int .u64 ((R : Nat) : Int)) ∧ ∃ o', Did w o [(1, ((max L M : Nat) : Int), 0)] w' o' := by
  obtain ⟨_, _, _, e1, hXL, -, -, -, -⟩ := hx.1.open
  cases e1
  obtain ⟨_, _, _, e1, hBL, -, -, -, -⟩ := hb.1.open
  cases e1
  obtain ⟨N, hN⟩ : ∃ N, N = max L M := ⟨_, rfl⟩
  rw [← hN]
  have hNL : L ≤ N := by omega
  have hNM : M ≤ N := by omega
  have hNb : N ≤ 10000 := by omega
  have gmax : max (L : Int) (M : Int) = (N : Int) := by omega
  have J0 := tSpanDid o (N : Int) w ht
  have HX := toHid hx
  have HB := toHid hb
  have HXL := toHid hXL.out
  have HBL := toHid hBL.out
  have HDX := toHid dx
  have HDB := toHid db
  have gx : bits .xor .i64 (L : Int) (M : Int) = ((L ^^^ M : Nat) : Int) := xor_i64 L M (by omega) (by omega)
  obtain ⟨U0, hU0⟩ : ∃ U0, U0 = L ^^^ M := ⟨_, rfl⟩
  have hU0b : U0 < 16384 := by rw [hU0]; exact Nat.xor_lt_two_pow (n := 14) (by omega) (by omega)
  rw [← hU0] at gx
  have gu : IntKind.u64.wrap (U0 : Int) = (U0 : Int) := by rw [IntKind.wrap_u64]; omega
  have HU0 : Hid (U0 = 0 ↔ L = M) := by unfold Hid; rw [hU0]; exact xor_zero_iff
  have HR : Hid (((L = M ∧ ∀ j, j < N → xs.getD j 0 = bs.getD j 0) → R = 1) ∧ (¬ (L = M ∧ ∀ j, j < N → xs.getD j 0 = bs.getD j 0) → R = 0)) := by
    unfold Hid
    rw [← hXL.out, ← hBL.out, alike_iff (by rw [hXL.out]; exact hNL), hR]
    exact ⟨fun h => if_pos h, fun h => if_neg h⟩
  have hRb : R = 0 ∨ R = 1 := by rw [hR]; split <;> simp
  clear hx hb dx db hR hXL hBL hU0 hN hL hM
  generalize trPtr o = tp at *
  go_enter Try.func18, Try.ntmps18
  go_wp2_with fail
  refine J0.mono ?_
  rintro e w1 ⟨rfl, o1, d1⟩
  have J1 := kLen (.slice ao L cap) xs N w1 (HX.out.did d1) (by rw [HXL.out]; exact hNL) (by omega)
  have HB1 := toHid (HB.out.did d1)
  have HD1 := toHid d1
  clear J0 d1
  go_wp2_with fail
  refine J1.mono ?_
  rintro e w2 ⟨u, rfl, hu, k2⟩
  have J2 := kLen (.slice bo M dap) bs N w2 (HB1.out.grew k2) (by rw [HBL.out]; exact hNM) (by omega)
  have HU := toHid hu.row
  have HK2 := toHid k2
  clear J1 hu k2
  go_wp2_with fail
  refine J2.mono ?_
  rintro e w3 ⟨v, rfl, hv, k3⟩
  have HU3 := toHid (HU.out.grew k3)
  have HV3 := toHid hv.row
  have HD3 := toHid (HD1.out.grew (HK2.out.trans k3))
  have HLU : Hid ((xs ++ List.replicate (N - xs.length) 0).length = N) := by unfold Hid; rw [List.length_append, List.length_replicate, HXL.out]; omega
  have HLV : Hid ((bs ++ List.replicate (N - bs.length) 0).length = N) := by unfold Hid; rw [List.length_append, List.length_replicate, HBL.out]; omega
  have HGU : Hid (∀ j, (xs ++ List.replicate (N - xs.length) 0).getD j 0 = xs.getD j 0) := fun j => getD_zeros _ _ _
  have HGV : Hid (∀ j, (bs ++ List.replicate (N - bs.length) 0).getD j 0 = bs.getD j 0) := fun j => getD_zeros _ _ _
  generalize xs ++ List.replicate (N - xs.length) 0 = XU at *
  generalize bs ++ List.replicate (N - bs.length) 0 = BV at *
  obtain ⟨uo, un, uc, rfl, hun, -, -, -, -⟩ := HU3.out.open
  obtain ⟨vo, vn, vc, rfl, hvn, -, -, -, -⟩ := HV3.out.open
  obtain rfl : un = N := by have := hun.out; have := HLU.out; omega
  obtain rfl : vn = un := by have := hvn.out; have := HLV.out; omega
  clear J2 hv k3 hun hvn HU HB1 HX HB HK2 HD1
  go_wp2_with fail
  go_loopw [10, 33] (fun av iv wr => ∃ (i U : Nat), i ≤ vn ∧ U < 18446744073709551616 ∧ av = .int .u64 (U : Int) ∧ iv = .int .i64 (i : Int) ∧ Hid (U = 0 ↔ L = M ∧ ∀ j, j < i → xs.getD j 0 = bs.getD j 0) ∧ Hid (Kept Nought w3 wr)) (fun _ iv _ => vn - (intOf iv).toNat)
  case atStart => exact ⟨0, U0, by omega, by omega, by first | rfl | (rw [gx, gu]) | (rw [gx]; rw [gu]), rfl, HU0.out.trans ⟨fun h => ⟨h, fun j hj => by omega⟩, fun h => h.1⟩, Kept.refl _ _⟩
  case round =>
    obtain ⟨i, U, hi, hU, rfl, rfl, HI, HK⟩ := hrel
    by_cases hiN : i < vn
    · have g1 : (i : Int) < (vn : Int) := by omega
      have g0 : (0 : Int) ≤ (i : Int) := by omega
      obtain ⟨_, _, _, e1, _, _, _, _, hnu⟩ := (HU3.out.grew HK.out).open
      cases e1
      obtain ⟨_, _, _, e1, _, _, _, _, hnv⟩ := (HV3.out.grew HK.out).open
      cases e1
      obtain ⟨ub, uoff, rfl, hcu⟩ := hnu i hiN
      obtain ⟨vb, voff, rfl, hcv⟩ := hnv i hiN
      have lx : xs.getD i 0 < 256 := HDX.out.getD (by omega) i
      have ly : bs.getD i 0 < 256 := HDB.out.getD (by omega) i
      rw [HGU.out] at hcu
      rw [HGV.out] at hcv
      have HNext : Hid (∀ z, z = xs.getD i 0 ^^^ bs.getD i 0 → (U ||| z = 0 ↔ L = M ∧ ∀ j, j < i + 1 → xs.getD j 0 = bs.getD j 0)) := fun z hz => by
        rw [or_zero_iff, HI.out, hz, xor_zero_iff]
        constructor
        · rintro ⟨⟨h1, h2⟩, h3⟩
          refine ⟨h1, fun j hj => ?_⟩
          by_cases e : j = i
          · subst e; exact h3
          · exact h2 j (by omega)
        · rintro ⟨h1, h2⟩
          exact ⟨⟨h1, fun j hj => h2 j (by omega)⟩, h2 i (by omega)⟩
      generalize xs.getD i 0 = X at *
      generalize bs.getD i 0 = Y at *
      have e6 := u8_xor_nat X Y (by omega) (by omega)
      obtain ⟨Z, hZ⟩ : ∃ Z, Z = X ^^^ Y := ⟨_, rfl⟩
      have hZb : Z < 256 := by rw [hZ]; exact Nat.xor_lt_two_pow (n := 8) lx ly
      rw [← hZ] at e6
      have HN := toHid (HNext.out Z hZ)
      have gz : IntKind.u64.wrap (Z : Int) = (Z : Int) := by rw [IntKind.wrap_u64]; omega
      have e7 := u64_or_nat U Z hU (by omega)
      have hU2 : U ||| Z < 18446744073709551616 := Nat.or_lt_two_pow (n := 64) (by omega) (by omega)
      generalize U ||| Z = U2 at *
      clear hnu hnv hZ HNext HI
      go_wp2_with fail
      go_quiet (fail)
      go_wp2_with fail
      go_roundw
      case rel => exact ⟨i + 1, U2, by omega, hU2, by first | rfl | (rw [e6, gz, e7]), by go_num, HN.out, HK.out.drewN _⟩
      case measure => simp [intOf]; omega
    · obtain rfl : i = vn := by omega
      have g1 : ¬ (i : Int) < (i : Int) := by omega
      have J4 := wZero (U : Int) (by omega) (by omega) wr
      rw [zer_bN] at J4
      have HF : Hid (bN (decide (U = 0)) = R) := by
        unfold Hid
        by_cases h : U = 0
        · rw [decide_eq_true h, HR.out.1 (HI.out.1 h)]
          rfl
        · rw [decide_eq_false h, HR.out.2 (fun e => h (HI.out.2 e))]
          rfl
      have HDF := toHid (HD3.out.grew HK.out)
      rw [HF.out] at J4
      clear HI HK HF
      go_wp2_with fail
      refine J4.mono ?_
      rintro e w4 ⟨rfl, rfl⟩
      go_wp2_with fail
      go_ret
      exact ⟨rfl, _, HDF.out⟩

end Go.Proofs.Ytegjdjfnpphipaa
