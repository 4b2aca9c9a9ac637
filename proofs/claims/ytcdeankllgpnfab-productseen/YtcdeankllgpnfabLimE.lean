/- Package limbs: Less, Equal, Zero: what they answer and write down, for any numbers. -/
import Derived.Test.YtcdeankllgpnfabLimC
namespace Go.Proofs.Ytcdeankllgpnfab
open Go.RowKit

theorem less_step {B X Y k c z c' D : Nat} (hD : D < B ^ k) (h : D + Y % B ^ k = X % B ^ k + B ^ k * c) (hz0 : z < B) (hz : z + dig B Y k + c = dig B X k + B * c') :
    D + B ^ k * z < B ^ (k + 1) ∧ D + B ^ k * z + Y % B ^ (k + 1) = X % B ^ (k + 1) + B ^ (k + 1) * c' := by
  rw [mod_succ, mod_succ, Nat.pow_succ, Nat.mul_assoc]
  have e : B ^ k * (z + dig B Y k + c) = B ^ k * (dig B X k + B * c') := by rw [hz]
  rw [Nat.mul_add, Nat.mul_add, Nat.mul_add] at e
  have h1 : B ^ k * (z + 1) ≤ B ^ k * B := Nat.mul_le_mul_left _ hz0
  rw [Nat.mul_add, Nat.mul_one] at h1
  constructor <;> omega

theorem less_end {n X Y c D : Nat} (hX : X < 18446744073709551616 ^ n) (hY : Y < 18446744073709551616 ^ n) (hD : D < 18446744073709551616 ^ n) (h : D + Y % 18446744073709551616 ^ n = X % 18446744073709551616 ^ n + 18446744073709551616 ^ n * c) : c = oneN (decide (X < Y)) := by
  rw [Nat.mod_eq_of_lt hX, Nat.mod_eq_of_lt hY] at h
  have hc : c = 0 ∨ c = 1 ∨ 2 ≤ c := by omega
  unfold oneN
  rcases hc with rfl | rfl | hc
  · rw [if_neg]; simp; omega
  · rw [if_pos]; simp; omega
  · have : 18446744073709551616 ^ n * 2 ≤ 18446744073709551616 ^ n * c := Nat.mul_le_mul_left _ hc
    omega

theorem or_zero_iff (a b : Nat) : a ||| b = 0 ↔ a = 0 ∧ b = 0 := by
  constructor
  · intro h
    have h1 : a ≤ a ||| b := Nat.left_le_or
    have h2 : b ≤ a ||| b := Nat.right_le_or
    omega
  · rintro ⟨rfl, rfl⟩; rfl

theorem xor_zero_iff (a b : Nat) : a ^^^ b = 0 ↔ a = b := by
  constructor
  · intro e
    have e2 : a ^^^ (a ^^^ b) = a ^^^ 0 := by rw [e]
    rw [← Nat.xor_assoc, Nat.xor_self, Nat.zero_xor, Nat.xor_zero] at e2
    exact e2.symm
  · rintro rfl; exact Nat.xor_self _

theorem equal_step {t X Y k : Nat} (h : t = 0 ↔ X % 18446744073709551616 ^ k = Y % 18446744073709551616 ^ k) : (t ||| (dig 18446744073709551616 X k ^^^ dig 18446744073709551616 Y k)) = 0 ↔ X % 18446744073709551616 ^ (k + 1) = Y % 18446744073709551616 ^ (k + 1) := by
  have hp : 0 < 18446744073709551616 ^ k := Nat.pow_pos (by omega)
  have hX : X % 18446744073709551616 ^ k < 18446744073709551616 ^ k := Nat.mod_lt _ hp
  have hY : Y % 18446744073709551616 ^ k < 18446744073709551616 ^ k := Nat.mod_lt _ hp
  rw [or_zero_iff, xor_zero_iff, h, mod_succ, mod_succ]
  generalize 18446744073709551616 ^ k = p at *
  generalize dig 18446744073709551616 X k = x at *
  generalize dig 18446744073709551616 Y k = y at *
  constructor
  · rintro ⟨h1, rfl⟩; rw [h1]
  · intro e
    have e1 : (X % p + p * x) % p = (Y % p + p * y) % p := by rw [e]
    rw [Nat.add_mul_mod_self_left, Nat.add_mul_mod_self_left, Nat.mod_mod, Nat.mod_mod] at e1
    refine ⟨e1, ?_⟩
    rw [e1] at e
    exact Nat.eq_of_mul_eq_mul_left hp (by omega)

set_option maxRecDepth 20000 in
set_option maxHeartbeats 2000000 in
/-- Equal. -/
theorem lEqual (o : Tr) (u v : Value) (xs ys : List Nat) (w : World) (ht : TrRoom w o 1) (hu : RowT w o u xs) (hv : RowT w o v ys) (hdx : Digs 18446744073709551616 xs) (hdy : Digs 18446744073709551616 ys) (hL : xs.length ≤ 100000000) (hM : ys.length ≤ 100000000) :
    Calls Try.prog 38 #[trPtr o, u, v] w fun e w' => e = .returned (.int .u64 (oneN (decide (val 18446744073709551616 xs = val 18446744073709551616 ys)) : Nat)) ∧ ∃ o', Did w o [(1, (max xs.length ys.length : Nat), 0)] w' o' := by
  obtain ⟨ao, L, cap, rfl, hLx, _, _, _, _⟩ := hu.1.open
  obtain ⟨bo, M, dap, rfl, hLy, _, _, _, _⟩ := hv.1.open
  have eL := hLx.out
  have eM := hLy.out
  have hX : Hid (val 18446744073709551616 xs < 18446744073709551616 ^ max L M) := val_lt_le hdx (by omega)
  have hY : Hid (val 18446744073709551616 ys < 18446744073709551616 ^ max L M) := val_lt_le hdy (by omega)
  have hC := common2 ao bo L M cap dap w
  have hF1 := fun o' W g (t : TrIn W o') (r : RowT W o' (.slice ao L cap) xs) hg => lFit o' _ xs (max L M) g W t r hdx (by omega) (by omega) hg
  have hF2 := fun o' W g (t : TrIn W o') (r : RowT W o' (.slice bo M dap) ys) hg => lFit o' _ ys (max L M) g W t r hdy (by omega) (by omega) hg
  have hnb : max L M ≤ 100000000 := by omega
  rw [eL, eM] at *
  have HU : Hid (RowT w o (.slice ao L cap) xs) := hu
  have HV : Hid (RowT w o (.slice bo M dap) ys) := hv
  have HT : Hid (TrRoom w o 1) := ht
  obtain ⟨tp, htp⟩ : ∃ tp, tp = trPtr o := ⟨_, rfl⟩
  rw [← htp]
  have HTP : Hid (tp = trPtr o) := htp
  clear hu hv ht hLx hLy eL eM hdx hdy hL hM htp
  generalize val 18446744073709551616 xs = X at *
  generalize val 18446744073709551616 ys = Y at *
  generalize max L M = n at *
  go_enter Try.func38, Try.ntmps38
  go_wp2_with fail
  refine hC.mono ?_
  rintro e w1 ⟨g, rfl, hg1, hgw, k1⟩
  have hS := tSpanDid o n w1 (HT.out.1.grew k1)
  rw [← HTP.out] at hS
  clear hC
  go_wp2_with fail
  refine hS.mono ?_
  rintro e w2 ⟨rfl, o2, d2⟩
  have hg2 : w2.heap[g]? = _ := (d2.kept.block g (lt_of_block hg1) (fun f => by have := HT.out.1.foot g f; omega)).trans hg1
  have d2' := Did.after k1 d2
  have ht2 : TrIn w2 o2 := (d2'.room (k := 0) HT.out).1
  have hu2 := HU.out.did d2'
  have hv2 := HV.out.did d2'
  clear hS d2 k1 hg1
  go_wp2_with fail
  refine (hF1 o2 w2 g ht2 hu2 hg2).mono ?_
  rintro e w3 ⟨v1, rfl, hr1, k3⟩
  have hg3 := (k3.block g (lt_of_block hg2) (fun f => f)).trans hg2
  go_wp2_with fail
  refine (hF2 o2 w3 g (ht2.grew k3) (hv2.grew k3) hg3).mono ?_
  rintro e w4 ⟨v2, rfl, hr2, k4⟩
  have hr1' := hr1.1.grew k4
  have d4 := toHid ((d2'.grew k3).grew k4)
  have ht4 := toHid ((ht2.grew k3).grew k4)
  obtain ⟨a1, n1, c1, rfl, hN1, _, _, _, hn1⟩ := hr1'.open
  obtain ⟨a2, n2, c2, rfl, hN2, _, _, _, hn2⟩ := hr2.1.open
  obtain rfl : n1 = n := by rw [← hN1.out, digs_length]
  obtain rfl : n2 = n1 := by rw [← hN2.out, digs_length]
  clear hF1 hF2 ht2 hu2 hv2 hg2 hg3 hr1 hr1' hr2 k3 k4 d2' hN1 hN2 hgw
  go_wp2_with fail
  go_loopw [9, 28] (fun c i wr => ∃ (k t : Nat), k ≤ n2 ∧ t < 18446744073709551616 ∧ i = .int .i64 (k : Int) ∧ c = .int .u64 (t : Int) ∧ Kept Nought w4 wr ∧
      Hid (t = 0 ↔ X % 18446744073709551616 ^ k = Y % 18446744073709551616 ^ k)) (fun _ i _ => n2 - (intOf i).toNat)
  case atStart => exact ⟨0, 0, Nat.zero_le _, by omega, rfl, rfl, Kept.refl _ _, by unfold Hid; simp [Nat.mod_one]⟩
  case round =>
    obtain ⟨k, t, hk, htt, rfl, rfl, hkp, HE⟩ := hrel
    by_cases hkn : k < n2
    · have hk0 : (0 : Int) ≤ (k : Int) := Int.natCast_nonneg _
      have hk1 : (k : Int) < (n2 : Int) := by omega
      obtain ⟨b1, off1, rfl, hc1⟩ := digs_at ((hn1 k hkn).grew hkp) hkn
      obtain ⟨b2, off2, rfl, hc2⟩ := digs_at ((hn2 k hkn).grew hkp) hkn
      have hx : dig 18446744073709551616 X k < 18446744073709551616 := Nat.mod_lt _ (by omega)
      have hy : dig 18446744073709551616 Y k < 18446744073709551616 := Nat.mod_lt _ (by omega)
      have HS := toHid (equal_step (t := t) (X := X) (Y := Y) (k := k) HE.out)
      clear hn1 hn2 HE
      generalize dig 18446744073709551616 X k = x at *
      generalize dig 18446744073709551616 Y k = y at *
      have hxo := u64_xor_nat x y hx hy
      have hxl : x ^^^ y < 18446744073709551616 := Nat.xor_lt_two_pow (n := 64) hx hy
      generalize x ^^^ y = s at *
      have hor := u64_or_nat t s htt hxl
      have hol : t ||| s < 18446744073709551616 := Nat.or_lt_two_pow (n := 64) htt hxl
      generalize t ||| s = r at *
      go_wp2_with fail
      go_region
      all_goals
        go_wp2_with fail
        go_roundw
        case rel => exact ⟨k + 1, r, by omega, hol, by go_num, rfl, hkp.drew, HS.out⟩
        case measure => simp [intOf]; omega
    · have hk1 : ¬ (k : Int) < (n2 : Int) := by omega
      have e : k = n2 := by omega
      subst e
      have E : Hid (((t : Int) = 0) ↔ X = Y) := by
        have := HE.out
        rw [Nat.mod_eq_of_lt hX.out, Nat.mod_eq_of_lt hY.out] at this
        unfold Hid
        rw [← this]; omega
      have hZ := fun W => wZero (t : Int) (by omega) (by omega) W
      have E2 : Hid (zer (t : Int) = (oneN (decide (X = Y)) : Nat)) := by
        unfold Hid zer oneN
        by_cases h : X = Y
        · rw [if_pos (E.out.2 h), if_pos (by simpa using h)]; rfl
        · rw [if_neg (fun q => h (E.out.1 q)), if_neg (by simpa using h)]; rfl
      clear hn1 hn2 HE
      go_wp2_with fail
      refine (hZ _).mono ?_
      rintro e w7 ⟨rfl, rfl⟩
      go_wp2_with fail
      go_ret
      rw [← E2.out]
      exact ⟨rfl, o2, d4.out.grew hkp⟩

set_option maxHeartbeats 400000 in
/-- Zero. -/
theorem lZero (o : Tr) (u : Value) (xs : List Nat) (w : World) (ht : TrRoom w o 1) (hu : RowT w o u xs) (hdx : Digs 18446744073709551616 xs) (hL : xs.length ≤ 100000000) :
    Calls Try.prog 30 #[trPtr o, u] w fun e w' => e = .returned (.int .u64 (oneN (decide (val 18446744073709551616 xs = 0)) : Nat)) ∧ ∃ o', Did w o [(1, (xs.length : Nat), 0)] w' o' := by
  have h := lEqual o u (.slice none 0 0) xs [] w ht hu ⟨Row.nil _ _, fun h => absurd rfl h⟩ hdx (Digs.nil _) hL (by simp)
  rw [show val 18446744073709551616 [] = 0 from rfl, List.length_nil, Nat.max_zero] at h
  clear ht hu
  generalize trPtr o = tp at *
  generalize oneN (decide (val 18446744073709551616 xs = 0)) = c at *
  go_enter Try.func30, Try.ntmps30
  go_wp2_with fail
  refine h.mono ?_
  rintro e w' ⟨rfl, o', hd⟩
  go_wp2
  go_ret
  exact ⟨rfl, o', hd⟩

end Go.Proofs.Ytcdeankllgpnfab
