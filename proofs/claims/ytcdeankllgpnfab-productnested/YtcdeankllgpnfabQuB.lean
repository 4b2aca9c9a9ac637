/- Package product: shiftedUp. -/
import Derived.Test.YtcdeankllgpnfabQuA
namespace Go.Proofs.Ytcdeankllgpnfab
open Go.RowKit

theorem shift_digit {x c s : Nat} (hs : s ≤ 63) (hx : x < 18446744073709551616) (hc : c < 2 ^ s) :
    bits .or .u64 (IntKind.u64.wrap ((x : Int) * 2 ^ s)) (c : Int) = (((x * 2 ^ s) % 18446744073709551616 + c : Nat) : Int) ∧ (x * 2 ^ s) % 18446744073709551616 + c < 18446744073709551616 ∧ (x * 2 ^ s) % 18446744073709551616 + c + 18446744073709551616 * (x / 2 ^ (64 - s)) = x * 2 ^ s + c ∧ x / 2 ^ (64 - s) < 2 ^ s := by
  have hp : (18446744073709551616 : Nat) = 2 ^ (64 - s) * 2 ^ s := by rw [← Nat.pow_add, show 64 - s + s = 64 by omega]
  have h1 : (x * 2 ^ s) % 18446744073709551616 = 2 ^ s * (x % 2 ^ (64 - s)) := by
    rw [hp, Nat.mul_mod_mul_right, Nat.mul_comm]
  have h2 : x * 2 ^ s / 18446744073709551616 = x / 2 ^ (64 - s) := by
    rw [hp, Nat.mul_div_mul_right _ _ (Nat.pow_pos (by omega))]
  have h3 : x % 2 ^ (64 - s) + 1 ≤ 2 ^ (64 - s) := Nat.mod_lt _ (Nat.pow_pos (by omega))
  have h4 : 2 ^ s * (x % 2 ^ (64 - s) + 1) ≤ 18446744073709551616 := by
    rw [hp, Nat.mul_comm (2 ^ (64 - s))]
    exact Nat.mul_le_mul_left _ h3
  rw [Nat.mul_add, Nat.mul_one] at h4
  have hsum : (x * 2 ^ s) % 18446744073709551616 + c < 18446744073709551616 := by rw [h1]; omega
  refine ⟨?_, hsum, ?_, ?_⟩
  · rw [show (x : Int) * 2 ^ s = ((x * 2 ^ s : Nat) : Int) by simp, IntKind.wrap_u64, show ((x * 2 ^ s : Nat) : Int) % 18446744073709551616 = (((x * 2 ^ s) % 18446744073709551616 : Nat) : Int) by omega, u64_or_nat _ _ (by omega) (by omega), h1, ← Nat.two_pow_add_eq_or_of_lt hc]
  · rw [← h2]
    generalize x * 2 ^ s = y
    omega
  · rw [Nat.div_lt_iff_lt_mul (Nat.pow_pos (by omega)), ← Nat.pow_add, show s + (64 - s) = 64 by omega]
    exact hx

set_option maxRecDepth 20000 in
set_option maxHeartbeats 2000000 in
/-- shiftedUp. -/
theorem pShift (ao : Option Addr) (L cap : Nat) (xs : List Nat) (X s n : Nat) (hX : X = val 18446744073709551616 xs) (hs : s ≤ 63) (w : World) (hu : Row .u64 w (.slice ao L cap) xs) (hdx : Digs 18446744073709551616 xs) (hn : n ≤ 1000000) (hLn : L ≤ n) :
    Calls Try.prog 43 #[.slice ao L cap, .int .i64 (s : Nat), .int .i64 (n : Nat)] w fun e w' => e = .returned (.slice (some ⟨w.heap.size, 0, none⟩) n n) ∧ OwnN .u64 24 w' w.heap.size (.slice (some ⟨w.heap.size, 0, none⟩) n n) n (digs 18446744073709551616 (X * 2 ^ s) n) ∧ Kept Nought w w' := by
  obtain ⟨i0, hi0, hz0, hz1, hz2⟩ := info_parts Try.info24
  obtain ⟨_, _, _, e1, hLx, _, _, _, _⟩ := hu.open
  cases e1
  have hXb : Hid (X < 18446744073709551616 ^ n) := by unfold Hid; rw [hX]; exact val_lt_le hdx (by rw [hLx.out]; exact hLn)
  have hdig : Hid (∀ k, dig 18446744073709551616 X k = xs.getD k 0) := fun k => by rw [hX]; exact dig_val (by omega) hdx k
  have hxb : Hid (∀ k, xs.getD k 0 < 18446744073709551616) := fun k => hdx.getD (by omega) _
  have HU := toHid hu
  have eL := toHid hLx.out
  clear hX hu hdx hLx
  go_enter Try.func43, Try.ntmps43
  go_wp2_with (at_make; refine wpList_make_full _ rfl _ _ 23 rfl w.heap.size 24 i0 _ 1 Try.underlying23 hi0 hz0 hz1 _ _ _ _ n rfl rfl rfl rfl (by rw [hz2]; omega) (by unfold maxLen; omega) (Nat.le_refl _) ?_; intro w1 ho1 hg1)
  rw [zeros_map] at ho1
  have k1 := grown_kept hg1
  clear hg1
  obtain ⟨s2, hs2⟩ : ∃ s2, s2 = 64 - s := ⟨_, rfl⟩
  have gs1 : (s : Int) ≤ 64 := by omega
  have gs2 : IntKind.i64.wrap (64 - (s : Int)) = (s2 : Int) := by rw [IntKind.wrap_i64]; omega
  have gs3 : (s2 : Int) ≤ 64 := by omega
  have HS2 := toHid hs2
  clear hs2
  go_loopw [8, 14] (fun bl i wr => ∃ (k x' : Nat) (os : List Nat), k ≤ n ∧ x' < 18446744073709551616 ∧ i = .int .i64 (k : Int) ∧ bl = .int .u64 (x' : Int) ∧ Hid (os.length = k) ∧ Digs 18446744073709551616 os ∧ OwnN .u64 24 wr w.heap.size (.slice (some ⟨w.heap.size, 0, none⟩) n n) n (os ++ List.replicate (n - k) 0) ∧ Kept Nought w wr ∧
      Hid (val 18446744073709551616 os + 18446744073709551616 ^ k * (x' / 2 ^ s2) = 0 % 18446744073709551616 ^ k + X % 18446744073709551616 ^ k * 2 ^ s)) (fun _ i _ => n - (intOf i).toNat)
  case atStart => exact ⟨0, 0, [], Nat.zero_le _, by omega, rfl, rfl, rfl, Digs.nil _, by rw [List.nil_append, Nat.sub_zero]; exact ho1, k1, by unfold Hid; simp [val, Nat.mod_one]⟩
  case round =>
    clear ho1 k1
    obtain ⟨k, x', os, hk, hx', rfl, rfl, HL, hod, ho, hkp, HV⟩ := hrel
    by_cases hkn : k < n
    · have hk0 : (0 : Int) ≤ (k : Int) := Int.natCast_nonneg _
      have hk1 : (k : Int) < (n : Int) := by omega
      have hc0 := fill_cell ho HL.out hkn
      have hf := World.ownsRow.frozenAt ho k
      have HST : Hid (∀ u : Nat, OwnN .u64 24 (wr.setCell ⟨w.heap.size, k, none⟩ (.int .u64 (u : Int))) w.heap.size (.slice (some ⟨w.heap.size, 0, none⟩) n n) n ((os ++ [u]) ++ List.replicate (n - (k + 1)) 0)) := fun u => by
        have := (World.ownsRow.stored ho k (.int .u64 (u : Int))).1
        unfold OwnN
        rw [← set_snoc os n k u HL.out hkn, List.map_set]
        exact this
      obtain ⟨c, hc⟩ : ∃ c, c = x' / 2 ^ s2 := ⟨_, rfl⟩
      have ec : (x' : Int) / 2 ^ s2 = (c : Int) := by rw [hc]; simp
      have hcb : c < 2 ^ s := by rw [hc, HS2.out]; exact (shift_digit hs hx' (c := 0) (Nat.pow_pos (by omega))).2.2.2
      obtain ⟨x, hxx⟩ : ∃ x, x = xs.getD k 0 := ⟨_, rfl⟩
      have hx : x < 18446744073709551616 := by rw [hxx]; exact hxb.out k
      obtain ⟨s1, s3, s4, _⟩ := shift_digit hs hx hcb
      obtain ⟨z, hzz⟩ : ∃ z, z = (x * 2 ^ s) % 18446744073709551616 + c := ⟨_, rfl⟩
      rw [← hzz] at s1 s3 s4
      have hz := s3
      have HS : Hid (val 18446744073709551616 (os ++ [z]) + 18446744073709551616 ^ (k + 1) * (x / 2 ^ s2) = 0 % 18446744073709551616 ^ (k + 1) + X % 18446744073709551616 ^ (k + 1) * 2 ^ s) := mulT_step (c := c) HL.out (by rw [hc]; exact HV.out) (by rw [hdig.out k, ← hxx, show dig 18446744073709551616 0 k = 0 by simp [dig], HS2.out, s4, Nat.add_zero])
      clear hc hzz s3 s4 HV
      by_cases hkL : k < L
      · have hk2 : (k : Int) < (L : Int) := by omega
        obtain ⟨_, _, _, e2, _, _, _, _, hnum⟩ := (HU.out.grew hkp).open
        cases e2
        obtain ⟨b2, off2, rfl, hc2⟩ := hnum k hkL
        rw [← hxx] at hc2
        clear hnum hxx hxb hdig
        go_wp2_with fail
        go_region
        all_goals
          go_wp2_with fail
          go_roundw
          case rel => exact ⟨k + 1, x, os ++ [z], by omega, hx, by go_num, rfl, by unfold Hid; rw [List.length_append, HL.out]; rfl, hod.append (Digs.one hz), HST.out z, (hkp.setCell _ (fun h => by simp at h) _).drew, HS.out⟩
          case measure => simp [intOf]; omega
      · have hk2 : ¬ (k : Int) < (L : Int) := by omega
        have hx0 : x = 0 := by rw [hxx, List.getD_eq_getElem?_getD, List.getElem?_eq_none (by rw [eL.out]; omega)]; rfl
        subst hx0
        have s5 : bits .or .u64 0 (c : Int) = (z : Int) := by rw [← s1]; simp [IntKind.wrap_u64]
        clear hxx hxb hdig
        go_wp2_with fail
        go_region
        all_goals
          go_wp2_with fail
          go_roundw
          case rel => exact ⟨k + 1, 0, os ++ [z], by omega, hx, by go_num, rfl, by unfold Hid; rw [List.length_append, HL.out]; rfl, hod.append (Digs.one hz), HST.out z, (hkp.setCell _ (fun h => by simp at h) _).drew, HS.out⟩
          case measure => simp [intOf]; omega
    · have hk1 : ¬ (k : Int) < (n : Int) := by omega
      obtain rfl : k = n := by omega
      have e := HV.out
      rw [Nat.zero_mod, Nat.zero_add, Nat.mod_eq_of_lt hXb.out] at e
      rw [Nat.sub_self, List.replicate_zero, List.append_nil] at ho
      obtain ⟨e1, _⟩ := row_end (by omega) HL.out hod e
      have E1 := toHid e1
      clear e e1 hxb hdig HV
      go_wp2_with fail
      go_ret
      rw [← E1.out]
      exact ⟨rfl, ho, hkp⟩

end Go.Proofs.Ytcdeankllgpnfab
