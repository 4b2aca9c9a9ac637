/- Put together of: Lim2. -/
import Derived.Test.YtldbfcifoijliaaGreatDoorPk7

/- Melted of: LimC LimD LimE. -/

/- Package limbs: AddIf, and with it Add: what they answer and write down, for any numbers. -/
namespace Go.Proofs.YtldbfcifoijliaaGreatDoor
open Go.RowKit

theorem val_lt_le {xs : List Nat} {n : Nat} (hd : Digs 18446744073709551616 xs) (hl : xs.length ≤ n) : val 18446744073709551616 xs < 18446744073709551616 ^ n :=
  Nat.lt_of_lt_of_le (val_lt (by omega) hd) (Nat.pow_le_pow_right (by omega) hl)

/-- Place k of a number that was brought to a length. -/
theorem digs_at {k : IntKind} {w : World} {ao : Option Addr} {X n i : Nat} (h : NumAt k w ao (digs 18446744073709551616 X n) i) (hi : i < n) : ∃ b off, ao = some ⟨b, off, none⟩ ∧ w.cell? ⟨b, off + i, none⟩ = some (.int k (dig 18446744073709551616 X i : Nat)) := by
  obtain ⟨b, off, e, hc⟩ := h
  rw [digs_getD _ _ _ _ hi] at hc
  exact ⟨b, off, e, hc⟩

end Go.Proofs.YtldbfcifoijliaaGreatDoor

/- Package limbs: SubIf, Add, Sub: what they answer and write down, for any numbers. -/
namespace Go.Proofs.YtldbfcifoijliaaGreatDoor
open Go.RowKit

theorem subIf_end {n X Y bit c : Nat} {os : List Nat} (hl : os.length = n) (hd : Digs 18446744073709551616 os) (hX : X < 18446744073709551616 ^ n) (hY : Y < 18446744073709551616 ^ n) (h : val 18446744073709551616 os + (Y * (bit % 2)) % 18446744073709551616 ^ n = X % 18446744073709551616 ^ n + 18446744073709551616 ^ n * c) :
    os = digs 18446744073709551616 (selN bit (subN X Y n) X) n ∧ c = selN bit (oneN (decide (X < Y))) 0 := by
  have hv := val_lt (by omega) hd
  rw [hl] at hv
  unfold subN
  rw [← B64]
  have hsel : bit % 2 = 0 ∨ bit % 2 = 1 := by omega
  have hc3 : c = 0 ∨ c = 1 ∨ 18446744073709551616 ^ n * 2 ≤ 18446744073709551616 ^ n * c := by
    have hc : c = 0 ∨ c = 1 ∨ 2 ≤ c := by omega
    rcases hc with h | h | h
    · exact .inl h
    · exact .inr (.inl h)
    · exact .inr (.inr (Nat.mul_le_mul_left _ h))
  rw [Nat.mod_eq_of_lt hX] at h
  rcases hsel with hb | hb
  · rw [hb, Nat.mul_zero, Nat.zero_mod, Nat.add_zero] at h
    unfold selN
    rw [if_neg (by omega), if_neg (by omega)]
    rcases hc3 with rfl | rfl | hc
    · refine ⟨digs_val (by omega) hd hl ?_, rfl⟩
      rw [Nat.mod_eq_of_lt hX]; omega
    · omega
    · omega
  · rw [hb, Nat.mul_one, Nat.mod_eq_of_lt hY] at h
    unfold selN oneN
    rw [if_pos hb, if_pos hb]
    rcases hc3 with rfl | rfl | hc
    · have hn : ¬ X < Y := by omega
      rw [if_neg hn]
      refine ⟨digs_val (by omega) hd hl ?_, by rw [if_neg]; simpa using hn⟩
      rw [Nat.mod_eq_of_lt (by omega)]; omega
    · have hn : X < Y := by omega
      rw [if_pos hn]
      refine ⟨digs_val (by omega) hd hl ?_, by rw [if_pos]; simpa using hn⟩
      rw [Nat.mod_eq_of_lt (by omega)]; omega
    · omega

set_option maxRecDepth 20000 in
set_option maxHeartbeats 2000000 in
/-- SubIf. -/
theorem lSubIf (o : Tr) (bit : Nat) (hbit : bit < 18446744073709551616) (u v : Value) (xs ys : List Nat) (w : World) (ht : TrRoom w o 1) (hu : RowT w o u xs) (hv : RowT w o v ys) (hdx : Digs 18446744073709551616 xs) (hdy : Digs 18446744073709551616 ys) (hL : xs.length ≤ 100000000) (hM : ys.length ≤ 100000000) :
    Calls Tryz.prog 120 #[trPtr o, .int .u64 (bit : Nat), u, v] w fun e w' => ∃ v', e = .returned (.tuple #[v', .int .u64 (selN bit (oneN (decide (val 18446744073709551616 xs < val 18446744073709551616 ys))) 0 : Nat)]) ∧
      OwnN .u64 24 w' w.heap.size v' (max xs.length ys.length) (digs 18446744073709551616 (selN bit (subN (val 18446744073709551616 xs) (val 18446744073709551616 ys) (max xs.length ys.length)) (val 18446744073709551616 xs)) (max xs.length ys.length)) ∧ ∃ o', Did w o [(1, (max xs.length ys.length : Nat), 0)] w' o' := by
  obtain ⟨i0, hi0, hz0, hz1, hz2⟩ := info_parts Tryz.info24
  obtain ⟨ao, L, cap, rfl, hLx, _, _, _, _⟩ := hu.1.open
  obtain ⟨bo, M, dap, rfl, hLy, _, _, _, _⟩ := hv.1.open
  have eL := hLx.out
  have eM := hLy.out
  have hX : Hid (val 18446744073709551616 xs < 18446744073709551616 ^ max L M) := val_lt_le hdx (by omega)
  have hY : Hid (val 18446744073709551616 ys < 18446744073709551616 ^ max L M) := val_lt_le hdy (by omega)
  have hC := common2 ao bo L M cap dap w
  have hF1 := fun o' W g (t : TrIn W o') (r : RowT W o' (.slice ao L cap) xs) hg => lFit o' _ xs (max L M) g W t r hdx (by omega) (by omega) hg
  have hF2 := fun o' W g (t : TrIn W o') (r : RowT W o' (.slice bo M dap) ys) hg => lFit o' _ ys (max L M) g W t r hdy (by omega) (by omega) hg
  have hnb : max L M ≤ 100000000 := by omega
  rw [eL, eM] at *
  have hmk := fun W => wMask (bit : Int) (by omega) (by omega) W
  have HU : Hid (RowT w o (.slice ao L cap) xs) := hu
  have HV : Hid (RowT w o (.slice bo M dap) ys) := hv
  have HT : Hid (TrRoom w o 1) := ht
  obtain ⟨tp, htp⟩ : ∃ tp, tp = trPtr o := ⟨_, rfl⟩
  rw [← htp]
  have HTP : Hid (tp = trPtr o) := htp
  clear hu hv ht hLx hLy eL eM hdx hdy hL hM htp
  generalize val 18446744073709551616 xs = X at *
  generalize val 18446744073709551616 ys = Y at *
  generalize max L M = n at *
  go_enter Tryz.func120, Tryz.ntmps120
  go_wp2_with fail
  refine hC.mono ?_
  rintro e w1 ⟨g, rfl, hg1, hgw, k1⟩
  have hS := tSpanDid o n w1 (HT.out.1.grew k1)
  rw [← HTP.out] at hS
  clear hC
  go_wp2_with fail
  refine hS.mono ?_
  rintro e w2 ⟨rfl, o2, d2⟩
  have hg2 : w2.heap[g]? = _ := (d2.kept.block g (lt_of_block hg1) (fun f => by have := HT.out.1.foot g f; omega)).trans hg1
  have d2' := Did.after k1 d2
  have ht2 : TrIn w2 o2 := (d2'.room (k := 0) HT.out).1
  have hu2 := HU.out.did d2'
  have hv2 := HV.out.did d2'
  clear hS d2 k1 hg1
  go_wp2_with fail
  refine (hF1 o2 w2 g ht2 hu2 hg2).mono ?_
  rintro e w3 ⟨v1, rfl, hr1, k3⟩
  have hg3 := (k3.block g (lt_of_block hg2) (fun f => f)).trans hg2
  go_wp2_with fail
  refine (hF2 o2 w3 g (ht2.grew k3) (hv2.grew k3) hg3).mono ?_
  rintro e w4 ⟨v2, rfl, hr2, k4⟩
  have hr1' := hr1.1.grew k4
  have d4 := toHid ((d2'.grew k3).grew k4)
  have ht4 := toHid ((ht2.grew k3).grew k4)
  obtain ⟨a1, n1, c1, rfl, hN1, _, _, _, hn1⟩ := hr1'.open
  obtain ⟨a2, n2, c2, rfl, hN2, _, _, _, hn2⟩ := hr2.1.open
  obtain rfl : n1 = n := by rw [← hN1.out, digs_length]
  obtain rfl : n2 = n1 := by rw [← hN2.out, digs_length]
  have hw4 : Hid (w.heap.size ≤ w4.heap.size) := d4.out.size
  clear hF1 hF2 ht2 hu2 hv2 hg2 hg3 hr1 hr1' hr2 k3 k4 d2' hN1 hN2 hgw
  go_wp2_with (at_make; refine wpList_make_full _ rfl _ _ 23 rfl w4.heap.size 24 i0 _ 1 Tryz.underlying23 hi0 hz0 hz1 _ _ _ _ n2 rfl rfl rfl rfl (by rw [hz2]; omega) (by unfold maxLen; omega) (Nat.le_refl _) ?_; intro w5 ho5 hg5)
  rw [zeros_map] at ho5
  have k5 := grown_kept hg5
  clear hg5
  refine (hmk _).mono ?_
  rintro e w6 ⟨rfl, rfl⟩
  clear hmk
  go_wp2_with fail
  go_loopw [14, 37] (fun c i wr => ∃ (k c' : Nat) (os : List Nat), k ≤ n2 ∧ c' ≤ 1 ∧ i = .int .i64 (k : Int) ∧ c = .int .u64 (c' : Int) ∧ Hid (os.length = k) ∧ Digs 18446744073709551616 os ∧ OwnN .u64 24 wr w4.heap.size (.slice (some ⟨w4.heap.size, 0, none⟩) n2 n2) n2 (os ++ List.replicate (n2 - k) 0) ∧ Kept Nought w4 wr ∧
      Hid (val 18446744073709551616 os + (Y * (bit % 2)) % 18446744073709551616 ^ k = X % 18446744073709551616 ^ k + 18446744073709551616 ^ k * c')) (fun _ i _ => n2 - (intOf i).toNat)
  case atStart => exact ⟨0, 0, [], Nat.zero_le _, by omega, rfl, rfl, rfl, Digs.nil _, by rw [List.nil_append, Nat.sub_zero]; exact ho5, k5, by unfold Hid; simp [val, Nat.mod_one]⟩
  case round =>
    obtain ⟨k, c, os, hk, hc, rfl, rfl, HL, hod, ho, hkp, HV2⟩ := hrel
    by_cases hkn : k < n2
    · have hk0 : (0 : Int) ≤ (k : Int) := Int.natCast_nonneg _
      have hk1 : (k : Int) < (n2 : Int) := by omega
      obtain ⟨b1, off1, rfl, hc1⟩ := digs_at ((hn1 k hkn).grew hkp) hkn
      obtain ⟨b2, off2, rfl, hc2⟩ := digs_at ((hn2 k hkn).grew hkp) hkn
      have hc0 := fill_cell ho HL.out hkn
      have hf := World.ownsRow.frozenAt ho k
      have hst := fun u => (World.ownsRow.stored ho k u).1
      have hx : dig 18446744073709551616 X k < 18446744073709551616 := Nat.mod_lt _ (by omega)
      have hy : dig 18446744073709551616 Y k < 18446744073709551616 := Nat.mod_lt _ (by omega)
      have HS : Hid (∀ z c', z + dig 18446744073709551616 Y k * (bit % 2) + c = dig 18446744073709551616 X k + 18446744073709551616 * c' → val 18446744073709551616 (os ++ [z]) + (Y * (bit % 2)) % 18446744073709551616 ^ (k + 1) = X % 18446744073709551616 ^ (k + 1) + 18446744073709551616 ^ (k + 1) * c') := fun z c' h => subT_step HL.out HV2.out (by rw [dig_bit]; exact h)
      have hand := and_msk (dig 18446744073709551616 Y k) bit hy
      have hyb : dig 18446744073709551616 Y k * (bit % 2) < 18446744073709551616 := by
        have : bit % 2 = 0 ∨ bit % 2 = 1 := by omega
        rcases this with h | h <;> rw [h] <;> omega
      have HST : Hid (∀ u : Nat, OwnN .u64 24 (wr.setCell ⟨w4.heap.size, k, none⟩ (.int .u64 (u : Int))) w4.heap.size (.slice (some ⟨w4.heap.size, 0, none⟩) n2 n2) n2 ((os ++ [u]) ++ List.replicate (n2 - (k + 1)) 0)) := fun u => by
        have := hst (.int .u64 (u : Int))
        unfold OwnN
        rw [← set_snoc os n2 k u HL.out hkn, List.map_set]
        exact this
      clear hn1 hn2 HV2 hst ho5 k5
      generalize dig 18446744073709551616 X k = x at *
      generalize dig 18446744073709551616 Y k = y at *
      generalize y * (bit % 2) = y' at *
      go_wp2_with fail
      go_region_with (go_at_call 122; refine (wSubN x y' c hx hyb hc _).mono ?_; rintro e w7 ⟨z, c', rfl, hz, hc', hzz, rfl⟩)
      all_goals
        go_wp2_with fail
        go_roundw
        case rel => exact ⟨k + 1, c', os ++ [z], by omega, hc', by go_num, rfl, by unfold Hid; rw [List.length_append, HL.out]; rfl, hod.append (Digs.one hz), HST.out z, (hkp.setCell _ (fun h => by simp at h) _).drew, HS.out z c' hzz⟩
        case measure => simp [intOf]; omega
    · have hk1 : ¬ (k : Int) < (n2 : Int) := by omega
      have e : k = n2 := by omega
      subst e
      rw [Nat.sub_self, List.replicate_zero, List.append_nil] at ho
      obtain ⟨e1, e2⟩ := subIf_end HL.out hod hX.out hY.out HV2.out
      have E1 := toHid e1
      have E2 := toHid e2
      clear e1 e2 hn1 hn2 HV2 ho5 k5
      go_wp2_with fail
      go_ret2
      rw [← E1.out, ← E2.out]
      exact ⟨_, rfl, own_base ho (fun b hb => Nat.le_trans hw4.out (ho.lt b hb).1), o2, d4.out.grew hkp⟩

end Go.Proofs.YtldbfcifoijliaaGreatDoor

/- Package limbs: Less, Equal, Zero: what they answer and write down, for any numbers. -/
namespace Go.Proofs.YtldbfcifoijliaaGreatDoor
open Go.RowKit

theorem less_step {B X Y k c z c' D : Nat} (hD : D < B ^ k) (h : D + Y % B ^ k = X % B ^ k + B ^ k * c) (hz0 : z < B) (hz : z + dig B Y k + c = dig B X k + B * c') :
    D + B ^ k * z < B ^ (k + 1) ∧ D + B ^ k * z + Y % B ^ (k + 1) = X % B ^ (k + 1) + B ^ (k + 1) * c' := by
  rw [mod_succ, mod_succ, Nat.pow_succ, Nat.mul_assoc]
  have e : B ^ k * (z + dig B Y k + c) = B ^ k * (dig B X k + B * c') := by rw [hz]
  rw [Nat.mul_add, Nat.mul_add, Nat.mul_add] at e
  have h1 : B ^ k * (z + 1) ≤ B ^ k * B := Nat.mul_le_mul_left _ hz0
  rw [Nat.mul_add, Nat.mul_one] at h1
  constructor <;> omega

theorem less_end {n X Y c D : Nat} (hX : X < 18446744073709551616 ^ n) (hY : Y < 18446744073709551616 ^ n) (hD : D < 18446744073709551616 ^ n) (h : D + Y % 18446744073709551616 ^ n = X % 18446744073709551616 ^ n + 18446744073709551616 ^ n * c) : c = oneN (decide (X < Y)) := by
  rw [Nat.mod_eq_of_lt hX, Nat.mod_eq_of_lt hY] at h
  have hc : c = 0 ∨ c = 1 ∨ 2 ≤ c := by omega
  unfold oneN
  rcases hc with rfl | rfl | hc
  · rw [if_neg]; simp; omega
  · rw [if_pos]; simp; omega
  · have : 18446744073709551616 ^ n * 2 ≤ 18446744073709551616 ^ n * c := Nat.mul_le_mul_left _ hc
    omega

theorem or_zero_iff (a b : Nat) : a ||| b = 0 ↔ a = 0 ∧ b = 0 := by
  constructor
  · intro h
    have h1 : a ≤ a ||| b := Nat.left_le_or
    have h2 : b ≤ a ||| b := Nat.right_le_or
    omega
  · rintro ⟨rfl, rfl⟩; rfl

theorem xor_zero_iff (a b : Nat) : a ^^^ b = 0 ↔ a = b := by
  constructor
  · intro e
    have e2 : a ^^^ (a ^^^ b) = a ^^^ 0 := by rw [e]
    rw [← Nat.xor_assoc, Nat.xor_self, Nat.zero_xor, Nat.xor_zero] at e2
    exact e2.symm
  · rintro rfl; exact Nat.xor_self _

theorem equal_step {t X Y k : Nat} (h : t = 0 ↔ X % 18446744073709551616 ^ k = Y % 18446744073709551616 ^ k) : (t ||| (dig 18446744073709551616 X k ^^^ dig 18446744073709551616 Y k)) = 0 ↔ X % 18446744073709551616 ^ (k + 1) = Y % 18446744073709551616 ^ (k + 1) := by
  have hp : 0 < 18446744073709551616 ^ k := Nat.pow_pos (by omega)
  have hX : X % 18446744073709551616 ^ k < 18446744073709551616 ^ k := Nat.mod_lt _ hp
  have hY : Y % 18446744073709551616 ^ k < 18446744073709551616 ^ k := Nat.mod_lt _ hp
  rw [or_zero_iff, xor_zero_iff, h, mod_succ, mod_succ]
  generalize 18446744073709551616 ^ k = p at *
  generalize dig 18446744073709551616 X k = x at *
  generalize dig 18446744073709551616 Y k = y at *
  constructor
  · rintro ⟨h1, rfl⟩; rw [h1]
  · intro e
    have e1 : (X % p + p * x) % p = (Y % p + p * y) % p := by rw [e]
    rw [Nat.add_mul_mod_self_left, Nat.add_mul_mod_self_left, Nat.mod_mod, Nat.mod_mod] at e1
    refine ⟨e1, ?_⟩
    rw [e1] at e
    exact Nat.eq_of_mul_eq_mul_left hp (by omega)

set_option maxRecDepth 20000 in
set_option maxHeartbeats 2000000 in
/-- Less. -/
theorem lLess (o : Tr) (u v : Value) (xs ys : List Nat) (w : World) (ht : TrRoom w o 1) (hu : RowT w o u xs) (hv : RowT w o v ys) (hdx : Digs 18446744073709551616 xs) (hdy : Digs 18446744073709551616 ys) (hL : xs.length ≤ 100000000) (hM : ys.length ≤ 100000000) :
    Calls Tryz.prog 110 #[trPtr o, u, v] w fun e w' => e = .returned (.int .u64 (oneN (decide (val 18446744073709551616 xs < val 18446744073709551616 ys)) : Nat)) ∧ ∃ o', Did w o [(1, (max xs.length ys.length : Nat), 0)] w' o' := by
  obtain ⟨ao, L, cap, rfl, hLx, _, _, _, _⟩ := hu.1.open
  obtain ⟨bo, M, dap, rfl, hLy, _, _, _, _⟩ := hv.1.open
  have eL := hLx.out
  have eM := hLy.out
  have hX : Hid (val 18446744073709551616 xs < 18446744073709551616 ^ max L M) := val_lt_le hdx (by omega)
  have hY : Hid (val 18446744073709551616 ys < 18446744073709551616 ^ max L M) := val_lt_le hdy (by omega)
  have hC := common2 ao bo L M cap dap w
  have hF1 := fun o' W g (t : TrIn W o') (r : RowT W o' (.slice ao L cap) xs) hg => lFit o' _ xs (max L M) g W t r hdx (by omega) (by omega) hg
  have hF2 := fun o' W g (t : TrIn W o') (r : RowT W o' (.slice bo M dap) ys) hg => lFit o' _ ys (max L M) g W t r hdy (by omega) (by omega) hg
  have hnb : max L M ≤ 100000000 := by omega
  rw [eL, eM] at *
  have HU : Hid (RowT w o (.slice ao L cap) xs) := hu
  have HV : Hid (RowT w o (.slice bo M dap) ys) := hv
  have HT : Hid (TrRoom w o 1) := ht
  obtain ⟨tp, htp⟩ : ∃ tp, tp = trPtr o := ⟨_, rfl⟩
  rw [← htp]
  have HTP : Hid (tp = trPtr o) := htp
  clear hu hv ht hLx hLy eL eM hdx hdy hL hM htp
  generalize val 18446744073709551616 xs = X at *
  generalize val 18446744073709551616 ys = Y at *
  generalize max L M = n at *
  go_enter Tryz.func110, Tryz.ntmps110
  go_wp2_with fail
  refine hC.mono ?_
  rintro e w1 ⟨g, rfl, hg1, hgw, k1⟩
  have hS := tSpanDid o n w1 (HT.out.1.grew k1)
  rw [← HTP.out] at hS
  clear hC
  go_wp2_with fail
  refine hS.mono ?_
  rintro e w2 ⟨rfl, o2, d2⟩
  have hg2 : w2.heap[g]? = _ := (d2.kept.block g (lt_of_block hg1) (fun f => by have := HT.out.1.foot g f; omega)).trans hg1
  have d2' := Did.after k1 d2
  have ht2 : TrIn w2 o2 := (d2'.room (k := 0) HT.out).1
  have hu2 := HU.out.did d2'
  have hv2 := HV.out.did d2'
  clear hS d2 k1 hg1
  go_wp2_with fail
  refine (hF1 o2 w2 g ht2 hu2 hg2).mono ?_
  rintro e w3 ⟨v1, rfl, hr1, k3⟩
  have hg3 := (k3.block g (lt_of_block hg2) (fun f => f)).trans hg2
  go_wp2_with fail
  refine (hF2 o2 w3 g (ht2.grew k3) (hv2.grew k3) hg3).mono ?_
  rintro e w4 ⟨v2, rfl, hr2, k4⟩
  have hr1' := hr1.1.grew k4
  have d4 := toHid ((d2'.grew k3).grew k4)
  have ht4 := toHid ((ht2.grew k3).grew k4)
  obtain ⟨a1, n1, c1, rfl, hN1, _, _, _, hn1⟩ := hr1'.open
  obtain ⟨a2, n2, c2, rfl, hN2, _, _, _, hn2⟩ := hr2.1.open
  obtain rfl : n1 = n := by rw [← hN1.out, digs_length]
  obtain rfl : n2 = n1 := by rw [← hN2.out, digs_length]
  clear hF1 hF2 ht2 hu2 hv2 hg2 hg3 hr1 hr1' hr2 k3 k4 d2' hN1 hN2 hgw
  go_wp2_with fail
  go_loopw [9, 28] (fun c i wr => ∃ (k c' D : Nat), k ≤ n2 ∧ c' ≤ 1 ∧ i = .int .i64 (k : Int) ∧ c = .int .u64 (c' : Int) ∧ Kept Nought w4 wr ∧
      Hid (D < 18446744073709551616 ^ k ∧ D + Y % 18446744073709551616 ^ k = X % 18446744073709551616 ^ k + 18446744073709551616 ^ k * c')) (fun _ i _ => n2 - (intOf i).toNat)
  case atStart => exact ⟨0, 0, 0, Nat.zero_le _, by omega, rfl, rfl, Kept.refl _ _, by unfold Hid; simp [Nat.mod_one]⟩
  case round =>
    obtain ⟨k, c, D, hk, hc, rfl, rfl, hkp, HD⟩ := hrel
    by_cases hkn : k < n2
    · have hk0 : (0 : Int) ≤ (k : Int) := Int.natCast_nonneg _
      have hk1 : (k : Int) < (n2 : Int) := by omega
      obtain ⟨b1, off1, rfl, hc1⟩ := digs_at ((hn1 k hkn).grew hkp) hkn
      obtain ⟨b2, off2, rfl, hc2⟩ := digs_at ((hn2 k hkn).grew hkp) hkn
      have hx : dig 18446744073709551616 X k < 18446744073709551616 := Nat.mod_lt _ (by omega)
      have hy : dig 18446744073709551616 Y k < 18446744073709551616 := Nat.mod_lt _ (by omega)
      have HS : Hid (∀ z c', z < 18446744073709551616 → z + dig 18446744073709551616 Y k + c = dig 18446744073709551616 X k + 18446744073709551616 * c' → D + 18446744073709551616 ^ k * z < 18446744073709551616 ^ (k + 1) ∧ D + 18446744073709551616 ^ k * z + Y % 18446744073709551616 ^ (k + 1) = X % 18446744073709551616 ^ (k + 1) + 18446744073709551616 ^ (k + 1) * c') := fun z c' hz h => less_step HD.out.1 HD.out.2 hz h
      clear hn1 hn2 HD
      generalize dig 18446744073709551616 X k = x at *
      generalize dig 18446744073709551616 Y k = y at *
      go_wp2_with fail
      go_region_with (go_at_call 122; refine (wSubN x y c hx hy hc _).mono ?_; rintro e w7 ⟨z, c', rfl, hz, hc', hzz, rfl⟩)
      all_goals
        go_wp2_with fail
        go_roundw
        case rel => exact ⟨k + 1, c', _, by omega, hc', by go_num, rfl, hkp.drew, HS.out z c' hz hzz⟩
        case measure => simp [intOf]; omega
    · have hk1 : ¬ (k : Int) < (n2 : Int) := by omega
      have e : k = n2 := by omega
      subst e
      have E := toHid (less_end hX.out hY.out HD.out.1 HD.out.2)
      clear hn1 hn2 HD
      go_wp2_with fail
      go_ret
      rw [← E.out]
      exact ⟨rfl, o2, d4.out.grew hkp⟩

set_option maxRecDepth 20000 in
set_option maxHeartbeats 2000000 in
/-- Equal. -/
theorem lEqual (o : Tr) (u v : Value) (xs ys : List Nat) (w : World) (ht : TrRoom w o 1) (hu : RowT w o u xs) (hv : RowT w o v ys) (hdx : Digs 18446744073709551616 xs) (hdy : Digs 18446744073709551616 ys) (hL : xs.length ≤ 100000000) (hM : ys.length ≤ 100000000) :
    Calls Tryz.prog 124 #[trPtr o, u, v] w fun e w' => e = .returned (.int .u64 (oneN (decide (val 18446744073709551616 xs = val 18446744073709551616 ys)) : Nat)) ∧ ∃ o', Did w o [(1, (max xs.length ys.length : Nat), 0)] w' o' := by
  obtain ⟨ao, L, cap, rfl, hLx, _, _, _, _⟩ := hu.1.open
  obtain ⟨bo, M, dap, rfl, hLy, _, _, _, _⟩ := hv.1.open
  have eL := hLx.out
  have eM := hLy.out
  have hX : Hid (val 18446744073709551616 xs < 18446744073709551616 ^ max L M) := val_lt_le hdx (by omega)
  have hY : Hid (val 18446744073709551616 ys < 18446744073709551616 ^ max L M) := val_lt_le hdy (by omega)
  have hC := common2 ao bo L M cap dap w
  have hF1 := fun o' W g (t : TrIn W o') (r : RowT W o' (.slice ao L cap) xs) hg => lFit o' _ xs (max L M) g W t r hdx (by omega) (by omega) hg
  have hF2 := fun o' W g (t : TrIn W o') (r : RowT W o' (.slice bo M dap) ys) hg => lFit o' _ ys (max L M) g W t r hdy (by omega) (by omega) hg
  have hnb : max L M ≤ 100000000 := by omega
  rw [eL, eM] at *
  have HU : Hid (RowT w o (.slice ao L cap) xs) := hu
  have HV : Hid (RowT w o (.slice bo M dap) ys) := hv
  have HT : Hid (TrRoom w o 1) := ht
  obtain ⟨tp, htp⟩ : ∃ tp, tp = trPtr o := ⟨_, rfl⟩
  rw [← htp]
  have HTP : Hid (tp = trPtr o) := htp
  clear hu hv ht hLx hLy eL eM hdx hdy hL hM htp
  generalize val 18446744073709551616 xs = X at *
  generalize val 18446744073709551616 ys = Y at *
  generalize max L M = n at *
  go_enter Tryz.func124, Tryz.ntmps124
  go_wp2_with fail
  refine hC.mono ?_
  rintro e w1 ⟨g, rfl, hg1, hgw, k1⟩
  have hS := tSpanDid o n w1 (HT.out.1.grew k1)
  rw [← HTP.out] at hS
  clear hC
  go_wp2_with fail
  refine hS.mono ?_
  rintro e w2 ⟨rfl, o2, d2⟩
  have hg2 : w2.heap[g]? = _ := (d2.kept.block g (lt_of_block hg1) (fun f => by have := HT.out.1.foot g f; omega)).trans hg1
  have d2' := Did.after k1 d2
  have ht2 : TrIn w2 o2 := (d2'.room (k := 0) HT.out).1
  have hu2 := HU.out.did d2'
  have hv2 := HV.out.did d2'
  clear hS d2 k1 hg1
  go_wp2_with fail
  refine (hF1 o2 w2 g ht2 hu2 hg2).mono ?_
  rintro e w3 ⟨v1, rfl, hr1, k3⟩
  have hg3 := (k3.block g (lt_of_block hg2) (fun f => f)).trans hg2
  go_wp2_with fail
  refine (hF2 o2 w3 g (ht2.grew k3) (hv2.grew k3) hg3).mono ?_
  rintro e w4 ⟨v2, rfl, hr2, k4⟩
  have hr1' := hr1.1.grew k4
  have d4 := toHid ((d2'.grew k3).grew k4)
  have ht4 := toHid ((ht2.grew k3).grew k4)
  obtain ⟨a1, n1, c1, rfl, hN1, _, _, _, hn1⟩ := hr1'.open
  obtain ⟨a2, n2, c2, rfl, hN2, _, _, _, hn2⟩ := hr2.1.open
  obtain rfl : n1 = n := by rw [← hN1.out, digs_length]
  obtain rfl : n2 = n1 := by rw [← hN2.out, digs_length]
  clear hF1 hF2 ht2 hu2 hv2 hg2 hg3 hr1 hr1' hr2 k3 k4 d2' hN1 hN2 hgw
  go_wp2_with fail
  go_loopw [9, 28] (fun c i wr => ∃ (k t : Nat), k ≤ n2 ∧ t < 18446744073709551616 ∧ i = .int .i64 (k : Int) ∧ c = .int .u64 (t : Int) ∧ Kept Nought w4 wr ∧
      Hid (t = 0 ↔ X % 18446744073709551616 ^ k = Y % 18446744073709551616 ^ k)) (fun _ i _ => n2 - (intOf i).toNat)
  case atStart => exact ⟨0, 0, Nat.zero_le _, by omega, rfl, rfl, Kept.refl _ _, by unfold Hid; simp [Nat.mod_one]⟩
  case round =>
    obtain ⟨k, t, hk, htt, rfl, rfl, hkp, HE⟩ := hrel
    by_cases hkn : k < n2
    · have hk0 : (0 : Int) ≤ (k : Int) := Int.natCast_nonneg _
      have hk1 : (k : Int) < (n2 : Int) := by omega
      obtain ⟨b1, off1, rfl, hc1⟩ := digs_at ((hn1 k hkn).grew hkp) hkn
      obtain ⟨b2, off2, rfl, hc2⟩ := digs_at ((hn2 k hkn).grew hkp) hkn
      have hx : dig 18446744073709551616 X k < 18446744073709551616 := Nat.mod_lt _ (by omega)
      have hy : dig 18446744073709551616 Y k < 18446744073709551616 := Nat.mod_lt _ (by omega)
      have HS := toHid (equal_step (t := t) (X := X) (Y := Y) (k := k) HE.out)
      clear hn1 hn2 HE
      generalize dig 18446744073709551616 X k = x at *
      generalize dig 18446744073709551616 Y k = y at *
      have hxo := u64_xor_nat x y hx hy
      have hxl : x ^^^ y < 18446744073709551616 := Nat.xor_lt_two_pow (n := 64) hx hy
      generalize x ^^^ y = s at *
      have hor := u64_or_nat t s htt hxl
      have hol : t ||| s < 18446744073709551616 := Nat.or_lt_two_pow (n := 64) htt hxl
      generalize t ||| s = r at *
      go_wp2_with fail
      go_region
      all_goals
        go_wp2_with fail
        go_roundw
        case rel => exact ⟨k + 1, r, by omega, hol, by go_num, rfl, hkp.drew, HS.out⟩
        case measure => simp [intOf]; omega
    · have hk1 : ¬ (k : Int) < (n2 : Int) := by omega
      have e : k = n2 := by omega
      subst e
      have E : Hid (((t : Int) = 0) ↔ X = Y) := by
        have := HE.out
        rw [Nat.mod_eq_of_lt hX.out, Nat.mod_eq_of_lt hY.out] at this
        unfold Hid
        rw [← this]; omega
      have hZ := fun W => wZero (t : Int) (by omega) (by omega) W
      have E2 : Hid (zer (t : Int) = (oneN (decide (X = Y)) : Nat)) := by
        unfold Hid zer oneN
        by_cases h : X = Y
        · rw [if_pos (E.out.2 h), if_pos (by simpa using h)]; rfl
        · rw [if_neg (fun q => h (E.out.1 q)), if_neg (by simpa using h)]; rfl
      clear hn1 hn2 HE
      go_wp2_with fail
      refine (hZ _).mono ?_
      rintro e w7 ⟨rfl, rfl⟩
      go_wp2_with fail
      go_ret
      rw [← E2.out]
      exact ⟨rfl, o2, d4.out.grew hkp⟩

end Go.Proofs.YtldbfcifoijliaaGreatDoor

