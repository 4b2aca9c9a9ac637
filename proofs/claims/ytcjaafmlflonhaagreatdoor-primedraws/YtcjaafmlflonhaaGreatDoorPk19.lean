/- Put together of: Lim3 WInv. -/
import Derived.Test.YtcjaafmlflonhaaGreatDoorPk4
import Derived.Test.YtcjaafmlflonhaaGreatDoorPk11
import Derived.Test.YtcjaafmlflonhaaGreatDoorPk15

/- Melted of: LimF LimG. -/

/- Package limbs: Select: what it answers and writes down, for any numbers. -/
namespace Go.Proofs.YtcjaafmlflonhaaGreatDoor
open Go.RowKit

end Go.Proofs.YtcjaafmlflonhaaGreatDoor

/- Package limbs: Left: what it answers and writes down, for any number. -/
namespace Go.Proofs.YtcjaafmlflonhaaGreatDoor
open Go.RowKit

theorem shl_or (x c : Nat) (hc : c ≤ 1) : bits .or .u64 (((2 * x) % 18446744073709551616 : Nat) : Int) (c : Int) = (((2 * x) % 18446744073709551616 + c : Nat) : Int) := by
  rw [u64_or_nat _ _ (by omega) (by omega)]
  congr 1
  have h0 : c = 0 ∨ c = 1 := by omega
  rcases h0 with rfl | rfl
  · rw [Nat.or_zero, Nat.add_zero]
  · have e : (2 * x) % 18446744073709551616 = 2 ^ 1 * (x % 9223372036854775808) := by omega
    rw [e, ← Nat.two_pow_add_eq_or_of_lt (by omega : 1 < 2 ^ 1)]

theorem left_step {X k c z c' t : Nat} {os : List Nat} (hl : os.length = k) (h : val 18446744073709551616 os + 18446744073709551616 ^ k * c = 2 * (X % 18446744073709551616 ^ k) + t) (hz : z + 18446744073709551616 * c' = 2 * dig 18446744073709551616 X k + c) :
    val 18446744073709551616 (os ++ [z]) + 18446744073709551616 ^ (k + 1) * c' = 2 * (X % 18446744073709551616 ^ (k + 1)) + t := by
  rw [val_snoc, hl, mod_succ, Nat.pow_succ, Nat.mul_assoc]
  have e : 18446744073709551616 ^ k * (z + 18446744073709551616 * c') = 18446744073709551616 ^ k * (2 * dig 18446744073709551616 X k + c) := by rw [hz]
  rw [Nat.mul_add, Nat.mul_add, Nat.mul_left_comm (18446744073709551616 ^ k) 2] at e
  omega

theorem left_end {n X c t : Nat} {os : List Nat} (hl : os.length = n) (hd : Digs 18446744073709551616 os) (hX : X < 18446744073709551616 ^ n) (h : val 18446744073709551616 os + 18446744073709551616 ^ n * c = 2 * (X % 18446744073709551616 ^ n) + t) :
    os = digs 18446744073709551616 (2 * X + t) n ∧ c = (2 * X + t) / 18446744073709551616 ^ n := by
  have hv := val_lt (by omega) hd
  rw [hl] at hv
  rw [Nat.mod_eq_of_lt hX] at h
  have hp : 0 < 18446744073709551616 ^ n := Nat.pow_pos (by omega)
  rw [← h]
  refine ⟨digs_val (by omega) hd hl ?_, ?_⟩
  · rw [Nat.add_mul_mod_self_left, Nat.mod_eq_of_lt hv]
  · rw [Nat.add_mul_div_left _ _ hp, Nat.div_eq_of_lt hv, Nat.zero_add]

theorem digs_val_self {xs : List Nat} (hd : Digs 18446744073709551616 xs) : digs 18446744073709551616 (val 18446744073709551616 xs) xs.length = xs :=
  (digs_val (by omega) hd rfl (Nat.mod_eq_of_lt (val_lt (by omega) hd)).symm).symm

set_option maxRecDepth 20000 in
set_option maxHeartbeats 2000000 in
/-- Left. -/
theorem lLeft (o : Tr) (u : Value) (xs : List Nat) (bit : Nat) (hbit : bit < 18446744073709551616) (w : World) (ht : TrRoom w o 1) (hu : RowT w o u xs) (hdx : Digs 18446744073709551616 xs) (hL : xs.length ≤ 100000000) :
    Calls Tryz.prog 191 #[trPtr o, u, .int .u64 (bit : Nat)] w fun e w' => ∃ v', e = .returned (.tuple #[v', .int .u64 ((2 * val 18446744073709551616 xs + bit % 2) / 18446744073709551616 ^ xs.length : Nat)]) ∧
      OwnN .u64 23 w' w.heap.size v' xs.length (digs 18446744073709551616 (2 * val 18446744073709551616 xs + bit % 2) xs.length) ∧ ∃ o', Did w o [(1, (xs.length : Nat), 0)] w' o' := by
  obtain ⟨i0, hi0, hz0, hz1, hz2⟩ := info_parts Tryz.info23
  have hand := and_one_u64 (bit : Int) (by omega) (by omega)
  obtain ⟨bt, hbt⟩ : ∃ bt, bt = bit % 2 := ⟨_, rfl⟩
  rw [show (bit : Int) % 2 = (bt : Int) by omega] at hand
  rw [← hbt]
  have hb1 : bt ≤ 1 := by omega
  clear hbt
  have hself := toHid (digs_val_self hdx)
  have hX : Hid (val 18446744073709551616 xs < 18446744073709551616 ^ xs.length) := val_lt_le hdx (Nat.le_refl _)
  obtain ⟨ao, n, cap, rfl, hLx, _, _, _, _⟩ := hu.1.open
  have hnb : n ≤ 100000000 := by rw [← hLx.out]; exact hL
  rw [hLx.out] at hX hself ⊢
  have HU : Hid (RowT w o (.slice ao n cap) xs) := hu
  have HT : Hid (TrRoom w o 1) := ht
  have hS := tSpanDid o n w ht.1
  obtain ⟨tp, htp⟩ : ∃ tp, tp = trPtr o := ⟨_, rfl⟩
  rw [← htp] at hS ⊢
  clear hu ht hLx hdx htp hL
  generalize val 18446744073709551616 xs = X at *
  obtain ⟨C, hC⟩ : ∃ C, C = (2 * X + bt) / 18446744073709551616 ^ n := ⟨_, rfl⟩
  rw [← hC]
  have HC := toHid hC
  clear hC
  go_enter Tryz.func191, Tryz.ntmps191
  go_wp2_with fail
  refine hS.mono ?_
  rintro e w4 ⟨rfl, o2, d2⟩
  have d4 := toHid d2
  have hr1 := HU.out.did d2
  obtain ⟨a1, n1, c1, e1, hN1, _, _, _, hn1⟩ := hr1.1.open
  simp only [Value.slice.injEq] at e1
  obtain ⟨rfl, rfl, rfl⟩ := e1
  have hw4 : Hid (w.heap.size ≤ w4.heap.size) := d2.size
  rw [← hself.out] at hn1
  clear hS d2 hr1 hN1
  go_wp2_with (at_make; refine wpList_make_full _ rfl _ _ 31 rfl w4.heap.size 23 i0 _ 1 Tryz.underlying31 hi0 hz0 hz1 _ _ _ _ n rfl rfl rfl rfl (by rw [hz2]; omega) (by unfold maxLen; omega) (Nat.le_refl _) ?_; intro w5 ho5 hg5)
  rw [zeros_map] at ho5
  have k5 := grown_kept hg5
  clear hg5
  go_loopw [10, 22] (fun c i wr => ∃ (k c' : Nat) (os : List Nat), k ≤ n ∧ c' ≤ 1 ∧ i = .int .i64 (k : Int) ∧ c = .int .u64 (c' : Int) ∧ Hid (os.length = k) ∧ Digs 18446744073709551616 os ∧ OwnN .u64 23 wr w4.heap.size (.slice (some ⟨w4.heap.size, 0, none⟩) n n) n (os ++ List.replicate (n - k) 0) ∧ Kept Nought w4 wr ∧
      Hid (val 18446744073709551616 os + 18446744073709551616 ^ k * c' = 2 * (X % 18446744073709551616 ^ k) + bt)) (fun _ i _ => n - (intOf i).toNat)
  case atStart => exact ⟨0, bt, [], Nat.zero_le _, hb1, rfl, rfl, rfl, Digs.nil _, by rw [List.nil_append, Nat.sub_zero]; exact ho5, k5, by unfold Hid; simp [val, Nat.mod_one]⟩
  case round =>
    obtain ⟨k, c, os, hk, hc, rfl, rfl, HL, hod, ho, hkp, HV2⟩ := hrel
    by_cases hkn : k < n
    · have hk0 : (0 : Int) ≤ (k : Int) := Int.natCast_nonneg _
      have hk1 : (k : Int) < (n : Int) := by omega
      obtain ⟨b1, off1, rfl, hc1⟩ := digs_at ((hn1 k hkn).grew hkp) hkn
      have hc0 := fill_cell ho HL.out hkn
      have hf := World.ownsRow.frozenAt ho k
      have hst := fun u => (World.ownsRow.stored ho k u).1
      have hx : dig 18446744073709551616 X k < 18446744073709551616 := Nat.mod_lt _ (by omega)
      have HS : Hid (∀ z c', z + 18446744073709551616 * c' = 2 * dig 18446744073709551616 X k + c → val 18446744073709551616 (os ++ [z]) + 18446744073709551616 ^ (k + 1) * c' = 2 * (X % 18446744073709551616 ^ (k + 1)) + bt) := fun z c' h => left_step HL.out HV2.out h
      have HST : Hid (∀ u : Nat, OwnN .u64 23 (wr.setCell ⟨w4.heap.size, k, none⟩ (.int .u64 (u : Int))) w4.heap.size (.slice (some ⟨w4.heap.size, 0, none⟩) n n) n ((os ++ [u]) ++ List.replicate (n - (k + 1)) 0)) := fun u => by
        have := hst (.int .u64 (u : Int))
        unfold OwnN
        rw [← set_snoc os n k u HL.out hkn, List.map_set]
        exact this
      clear hn1 HV2 hst ho5 k5
      generalize dig 18446744073709551616 X k = x at *
      obtain ⟨z, hz⟩ : ∃ z : Nat, z = (2 * x) % 18446744073709551616 + c := ⟨_, rfl⟩
      have HOR : Hid (bits .or .u64 (IntKind.u64.wrap ((x : Int) * 2)) (c : Int) = (z : Int)) := by
        unfold Hid
        rw [IntKind.wrap_u64, show ((x : Int) * 2) % 18446744073709551616 = (((2 * x) % 18446744073709551616 : Nat) : Int) by omega, shl_or x c hc, hz]
      have HZ := toHid hz
      clear hz
      go_wp2_with fail
      go_region
      all_goals
        go_wp2_with fail
        rw [HOR.out]
        have hz := HZ.out
        go_roundw
        case rel => exact ⟨k + 1, x / 9223372036854775808, os ++ [z], by omega, by omega, by go_num, rfl, by unfold Hid; rw [List.length_append, HL.out]; rfl, hod.append (Digs.one (by omega)), HST.out _, (hkp.setCell _ (fun h => by simp at h) _).drew, HS.out _ _ (by omega)⟩
        case measure => simp [intOf]; omega
    · have hk1 : ¬ (k : Int) < (n : Int) := by omega
      have e : k = n := by omega
      subst e
      rw [Nat.sub_self, List.replicate_zero, List.append_nil] at ho
      obtain ⟨e1, e2⟩ := left_end HL.out hod hX.out HV2.out
      have E1 := toHid e1
      have E2 := toHid (HC.out.trans e2.symm)
      clear e1 e2 hn1 HV2 ho5 k5
      go_wp2_with fail
      go_ret2
      rw [← E1.out, E2.out]
      exact ⟨_, rfl, own_base ho (fun b hb => Nat.le_trans hw4.out (ho.lt b hb).1), o2, d4.out.grew hkp⟩

end Go.Proofs.YtcjaafmlflonhaaGreatDoor


/- What word.Inverse answers, for any word. -/
namespace Go.Proofs.YtcjaafmlflonhaaGreatDoor
open Go.RowKit

theorem and_mskI (x a : Int) (x0 : 0 ≤ x) (x1 : x < 18446744073709551616) : bits .and .u64 x (msk a) = if a % 2 = 1 then x else 0 := by
  obtain ⟨X, rfl⟩ := Int.eq_ofNat_of_zero_le x0
  unfold msk
  have : a % 2 = 0 ∨ a % 2 = 1 := by omega
  rcases this with h | h
  · rw [h, if_neg (by decide)]
    have e := u64_and_nat X 0 (by omega) (by omega)
    rw [Nat.and_zero] at e
    exact e
  · rw [h, if_pos rfl]
    have e := u64_and_nat X 18446744073709551615 (by omega) (by omega)
    rw [show (18446744073709551615 : Nat) = 2 ^ 64 - 1 from rfl, Nat.and_two_pow_sub_one_of_lt_two_pow (by omega)] at e
    exact e

set_option maxHeartbeats 1000000 in
/-- word.Inverse. -/
theorem wInverse (a : Int) (a0 : 0 ≤ a) (a1 : a < 18446744073709551616) (w : World) :
    Calls Tryz.prog 162 #[.int .u64 a] w fun e w' => (∃ x, e = .returned (.int .u64 x) ∧ isInv a x) ∧ w' = w := by
  go_enter Tryz.func162, Tryz.ntmps162
  go_wp2_with (fail)
  go_loop [3, 5] (fun x i => ∃ (X : Int) (k : Nat), k ≤ 5 ∧ x = .int .u64 X ∧ i = .int .i64 (k : Int) ∧ 0 ≤ X ∧ X < 18446744073709551616 ∧ Hid (a % 2 = 1 → (2 : Int) ^ (min 64 (3 * 2 ^ k)) ∣ 1 - a * X)) (fun _ i => (5 - intOf i).toNat)
  case atStart => exact ⟨a, 0, by omega, rfl, rfl, a0, a1, inv_start a⟩
  case round =>
    obtain ⟨X, k, hk, rfl, rfl, X0, X1, HX⟩ := hrel
    by_cases hp : k < 5
    · go_wp2_with (fail)
      go_round
      case rel =>
        refine ⟨_, k + 1, by omega, rfl, by go_num, ?_, ?_, ?_⟩
        · rw [IntKind.wrap_u64]; omega
        · rw [IntKind.wrap_u64]; omega
        · intro h
          have h1 := HX.out h
          simp only [IntKind.wrap_u64]
          exact inv_step a X _ _ h1 (wrap_step a X) _ (by rw [Nat.pow_succ]; omega) (by omega)
      case measure => simp [intOf]; omega
    · obtain rfl : k = 5 := by omega
      obtain ⟨Y, hY, hi⟩ : ∃ Y, bits .and .u64 X (msk a) = Y ∧ isInv a Y := by
        refine ⟨_, and_mskI X a X0 X1, ?_⟩
        have : a % 2 = 0 ∨ a % 2 = 1 := by omega
        rcases this with h | h
        · rw [if_neg (by omega)]
          exact ⟨by omega, by omega, by omega, fun _ => rfl⟩
        · rw [if_pos h]
          exact ⟨X0, X1, HX.out, by omega⟩
      have HI : Hid (isInv a Y) := hi
      clear hi
      go_wp2_with (go_at_call 90; refine (wMask a a0 a1 _).mono ?_; rintro e w' ⟨rfl, rfl⟩)
      go_ret
      exact ⟨⟨Y, rfl, HI.out⟩, rfl⟩

end Go.Proofs.YtcjaafmlflonhaaGreatDoor

