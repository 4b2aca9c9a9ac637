/- The plain shift down. -/
import Derived.Test.YtnjmckfkfkalgaaBigShift
namespace Go.Proofs.Ytnjmckfkfkalgaa
open Go.RowKit

theorem shr_digit (V q s k : Nat) (hs : s < 32) : dig 4294967296 (V / (4294967296 ^ q * 2 ^ s)) k = (dig 4294967296 V (q + k) + 4294967296 * dig 4294967296 V (q + k + 1)) / 2 ^ s % 4294967296 := by
  unfold dig
  have e1 : V / (4294967296 ^ q * 2 ^ s) / 4294967296 ^ k = V / 4294967296 ^ (q + k) / 2 ^ s := by
    rw [Nat.div_div_eq_div_mul, Nat.div_div_eq_div_mul, Nat.pow_add]
    congr 1
    rw [Nat.mul_assoc, Nat.mul_assoc, Nat.mul_comm (2 ^ s)]
  have e2 : V / 4294967296 ^ (q + k + 1) = V / 4294967296 ^ (q + k) / 4294967296 := by rw [Nat.div_div_eq_div_mul, ← Nat.pow_succ]
  rw [e1, e2]
  generalize V / 4294967296 ^ (q + k) = z
  have hp : 0 < 2 ^ s := Nat.pow_pos (by omega)
  obtain ⟨c, hc⟩ : ∃ c, (4294967296 : Nat) = 2 ^ s * c := ⟨2 ^ (32 - s), by rw [← Nat.pow_add, show s + (32 - s) = 32 by omega]⟩
  have hz : z = (z % 4294967296 + 4294967296 * (z / 4294967296 % 4294967296)) + 2 ^ s * (4294967296 * (c * (z / 4294967296 / 4294967296))) := by
    have : 2 ^ s * (4294967296 * (c * (z / 4294967296 / 4294967296))) = 4294967296 * (4294967296 * (z / 4294967296 / 4294967296)) := by
      calc 2 ^ s * (4294967296 * (c * (z / 4294967296 / 4294967296))) = (2 ^ s * c) * (4294967296 * (z / 4294967296 / 4294967296)) := by
            rw [Nat.mul_left_comm 4294967296 c, ← Nat.mul_assoc]
        _ = 4294967296 * (4294967296 * (z / 4294967296 / 4294967296)) := by rw [← hc]
    omega
  conv => lhs; rw [hz]
  rw [Nat.add_mul_div_left _ _ hp, Nat.add_mul_mod_self_left]

theorem shr_lt {V q s m : Nat} (h : V < 4294967296 ^ m) (hq : q ≤ m) : V / (4294967296 ^ q * 2 ^ s) < 4294967296 ^ (m - q) := by
  have hp : 0 < 4294967296 ^ q * 2 ^ s := Nat.mul_pos (Nat.pow_pos (by omega)) (Nat.pow_pos (by omega))
  rw [Nat.div_lt_iff_lt_mul hp]
  have e : 4294967296 ^ m = 4294967296 ^ (m - q) * 4294967296 ^ q := by rw [← Nat.pow_add, Nat.sub_add_cancel hq]
  have h2 : 4294967296 ^ (m - q) * 4294967296 ^ q * 1 ≤ 4294967296 ^ (m - q) * 4294967296 ^ q * 2 ^ s := Nat.mul_le_mul_left _ (Nat.pow_pos (by omega))
  rw [← Nat.mul_assoc]
  omega

set_option maxRecDepth 100000 in
set_option maxHeartbeats 800000 in
theorem rShr (v : Value) (A n : Nat) (w : World) (hv : IsBig w v A) (hn : n ≤ 1000000000000) :
    Calls Try.prog 52 #[v, .int .i64 n] w fun r w' => ∃ v', r = .returned v' ∧ IsBig w' v' (A / 2 ^ n) ∧ (∀ b, v'.ownBlock = some b → w.heap.size ≤ b) ∧ Kept Nought w w' := by
  obtain ⟨i0, hi0, hz0, hz1, hz2⟩ := info_parts Try.info70
  obtain ⟨a, ra, da, ta, rfl, la⟩ := hv
  have hlt := val_lt (by omega) da
  have hV : ∀ i, a.getD i 0 = dig 4294967296 (val 4294967296 a) i := fun i => (dig_val (by omega) da i).symm
  have HD := fun i W (hk : Kept Nought w W) => rDigit v a i W (ra.grew hk)
  obtain ⟨ao, m, ac, rfl, hM, _, _, _, h4⟩ := ra.open
  rw [hM.out] at la hlt
  unfold NumAt at h4
  simp only [hV] at HD h4
  have xa : ∀ i, dig 4294967296 (val 4294967296 a) i < 4294967296 := fun i => Nat.mod_lt _ (by omega)
  clear ra da ta hV
  generalize val 4294967296 a = V at *
  obtain ⟨q, hq⟩ : ∃ q, q = n / 32 := ⟨_, rfl⟩
  obtain ⟨s, hs⟩ : ∃ s, s = n % 32 := ⟨_, rfl⟩
  have hs32 : s < 32 := by omega
  have HE : 2 ^ n = 4294967296 ^ q * 2 ^ s := by
    rw [show (4294967296 : Nat) ^ q = 2 ^ (32 * q) from by rw [Nat.pow_mul], ← Nat.pow_add]
    congr 1; omega
  rw [HE]
  have hdig := fun k => shr_digit V q s k hs32
  have hfin : Hid (q ≤ m → V / (4294967296 ^ q * 2 ^ s) < 4294967296 ^ (m - q)) := fun h => shr_lt hlt h
  have hfin2 : Hid (m < q → V / (4294967296 ^ q * 2 ^ s) = 0) := fun h => by
    apply Nat.div_eq_of_lt
    have h1 : (4294967296 : Nat) ^ m ≤ 4294967296 ^ q := Nat.pow_le_pow_right (by omega) (by omega)
    have h2 : 4294967296 ^ q * 1 ≤ 4294967296 ^ q * 2 ^ s := Nat.mul_le_mul_left _ (Nat.pow_pos (by omega))
    omega
  have n0 : (n : Int) / 32 = (q : Int) := by omega
  have n1 : (n : Int) % 32 = (s : Int) := by omega
  have n2 : n % 32 = s := hs.symm
  have n3 : n / 32 = q := hq.symm
  have hq' : q ≤ 100000000000 := by omega
  clear hq hs HE hlt
  generalize V / (4294967296 ^ q * 2 ^ s) = R at *
  go_enter Try.func52, Try.ntmps52
  go_wp2_with fail
  go_loopw [5, 6] (fun o i wr => ∃ (k : Nat), (k = 0 ∨ q + k ≤ m) ∧ i = .int .i64 ((q + k : Nat) : Int) ∧ OwnN .u32 70 wr w.heap.size o k (digs 4294967296 R k) ∧ Kept Nought w wr) (fun _ i _ => m - (intOf i).toNat)
  case atStart => exact ⟨0, .inl rfl, rfl, World.ownsRow_nil _ _ _ _, Kept.refl _ _⟩
  case round =>
    obtain ⟨k, hk, rfl, ho, hkp⟩ := hrel
    by_cases hlt : q + k < m
    · obtain ⟨b, off, rfl, hcell⟩ := h4 (q + k) hlt
      have hcell := hkp.cellN hcell
      have hD := fun W (hk : Kept Nought w W) => HD (q + k + 1) W hk
      have hx := xa (q + k)
      have hy := xa (q + k + 1)
      have HO := or_join32 _ _ hx hy
      have hdk := hdig k
      clear xa h4 hdig HD
      generalize dig 4294967296 V (q + k) = x at *
      generalize dig 4294967296 V (q + k + 1) = y at *
      have hT : x + 4294967296 * y < 18446744073709551616 := by omega
      generalize x + 4294967296 * y = T at *
      obtain ⟨j, hj⟩ : ∃ j, j = q + k := ⟨_, rfl⟩
      rw [← hj] at hcell hD ⊢
      have hj1 : (j : Int) < (m : Int) := by omega
      have hj0 : (0 : Int) ≤ (j : Int) := Int.natCast_nonneg _
      have HJ : Hid (j = q + k) := hj
      rw [show ((j + 1 : Nat) : Int) = (j : Int) + 1 by omega] at hD
      have hjw : IntKind.i64.wrap ((j : Int) + 1) = (j : Int) + 1 := by rw [IntKind.wrap_i64]; omega
      have hle : (T : Int) / 2 ^ s = ((T / 2 ^ s : Nat) : Int) := by simp
      have HDK : Hid (dig 4294967296 R k = T / 2 ^ s % 4294967296) := hdk
      have HLE : Hid ((T : Int) / 2 ^ s % 4294967296 = ((T / 2 ^ s % 4294967296 : Nat) : Int)) := by unfold Hid; rw [hle]; omega
      clear hj hdk hle
      go_wp2_with fail
      go_quiet ((go_at_call 54; exact Calls.quiet_of_same (hD _ (hkp.drewN _))))
      have ho2 : OwnN .u32 70 (wr.drewN nq) w.heap.size _ k (digs 4294967296 R k) := ho
      have hk2 : Kept Nought w (wr.drewN nq) := hkp.drewN nq
      clear hD hcell
      generalize wr.drewN nq = W2 at *
      go_wp2_with (at_builtin; refine wpList_append_lies _ rfl _ _ 51 rfl w.heap.size 70 i0 _ 1 4 Try.underlying51 hi0 hz0 hz1 hz2 rfl (by omega) _ _ _ rfl (ho2.alloc _) ⟨W2.heap.size, 0, none⟩ 1 1 [.int .u32 ((T : Int) / 2 ^ s % 4294967296)] rfl rfl (new1_cells W2 _ _) (by simp [Value.oneCell']) (by omega) (by unfold maxLen; omega) (by omega) (by have := hk2.size; simp; omega) (W2.heap.size + 1) (by simp) ?_; intro gg c' w4 ho4 hg hat hgl)
      have hk5 : Kept Nought w w4 := (hk2.alloc _).grown hg (fun b hb hlt => by have := (ho2.lt b hb).1; omega)
      rw [HLE.out, ← HDK.out] at ho4
      go_roundw
      case rel => exact ⟨k + 1, .inr (by have := HJ.out; omega), by have := HJ.out; go_num, by unfold OwnN; rw [digs, List.map_append]; exact ho4, hk5⟩
      case measure => simp [intOf]; have := HJ.out; omega
    · have hk1 : ¬ ((q + k : Nat) : Int) < (m : Int) := by omega
      have hval : Hid (val 4294967296 (digs 4294967296 R k) = R) := by
        unfold Hid
        rw [val_digs]
        apply Nat.mod_eq_of_lt
        rcases Nat.lt_or_ge m q with h | h
        · have h0 := hfin2.out h
          rw [h0]
          exact Nat.pow_pos (by omega)
        · have h1 := hfin.out h
          have e : k = m - q := by omega
          rw [e]
          exact h1
      have hlk : k ≤ 1000000000 := by omega
      have hr : Row .u32 wr _ (digs 4294967296 R k) := Row.of_own (base := w.heap.size) (e := 70) (by rw [digs_length]; exact ho)
      have ht := rTrimBig _ _ _ hr (digs_digs (by omega) _ _) (by rw [digs_length]; exact hlk)
      rw [hval.out] at ht
      clear xa h4 hdig HD hr
      generalize q + k = j at *
      go_wp2_with fail
      refine ht.mono ?_
      rintro e w' ⟨v', rfl, hb, ho', rfl⟩
      go_wp2
      go_ret
      exact ⟨v', rfl, hb, fun b hb' => by rw [ho'] at hb'; exact (ho.lt b hb').1, hkp⟩

end Go.Proofs.Ytnjmckfkfkalgaa
