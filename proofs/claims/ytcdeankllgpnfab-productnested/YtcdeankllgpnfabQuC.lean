/- Package product: subtractRow. -/
import Derived.Test.YtcdeankllgpnfabQuB
namespace Go.Proofs.Ytcdeankllgpnfab
open Go.RowKit

theorem subR_step {B U V Q k a b l a' z b' : Nat} {os : List Nat} (hl : os.length = k) (h : val B os + V % B ^ k * Q = U % B ^ k + B ^ k * (a + b)) (h1 : l + B * a' = dig B V k * Q + a) (h2 : z + l + b = dig B U k + B * b') :
    val B (os ++ [z]) + V % B ^ (k + 1) * Q = U % B ^ (k + 1) + B ^ (k + 1) * (a' + b') := by
  rw [val_snoc, hl, mod_succ, mod_succ, Nat.pow_succ, Nat.mul_assoc, Nat.add_mul, Nat.mul_assoc]
  have e1 : B ^ k * (l + B * a') = B ^ k * (dig B V k * Q + a) := by rw [h1]
  have e2 : B ^ k * (z + l + b) = B ^ k * (dig B U k + B * b') := by rw [h2]
  rw [Nat.mul_add] at h
  rw [Nat.mul_add, Nat.mul_add] at e1
  rw [Nat.mul_add, Nat.mul_add, Nat.mul_add] at e2
  rw [Nat.mul_add B, Nat.mul_add]
  omega

theorem subR_end {B U V Q n a b z b' : Nat} {os : List Nat} (hl : os.length = n) (hV : V < B ^ n) (hU : U < B ^ (n + 1)) (h : val B os + V % B ^ n * Q = U % B ^ n + B ^ n * (a + b)) (h2 : z + a + b = dig B U n + B * b') :
    val B (os ++ [z]) + V * Q = U + B ^ (n + 1) * b' := by
  have e3 : U % B ^ (n + 1) = U := Nat.mod_eq_of_lt hU
  rw [mod_succ] at e3
  rw [val_snoc, hl]
  rw [Nat.mod_eq_of_lt hV] at h
  have e2 : B ^ n * (z + a + b) = B ^ n * (dig B U n + B * b') := by rw [h2]
  rw [Nat.mul_add, Nat.mul_add, Nat.mul_add, ← Nat.mul_assoc, ← Nat.pow_succ] at e2
  simp only [Nat.succ_eq_add_one] at e2
  rw [Nat.mul_add] at h
  omega

set_option maxRecDepth 20000 in
set_option maxHeartbeats 2000000 in
/-- subtractRow. -/
theorem pSubRow (g base N cap j n c Q : Nat) (zs ys : List Nat) (v : Value) (w : World) (ho : OwnN .u64 24 w base (.slice (some ⟨g, 0, none⟩) N cap) N zs) (hzl : zs.length = N) (hzd : Digs 18446744073709551616 zs) (hj : j + (n + 1) ≤ N) (hN : N ≤ 100000000)
    (hv : Row .u64 w v ys) (hyl : ys.length = n) (hyd : Digs 18446744073709551616 ys) (hap : ys ≠ [] → ∀ b, v.ownBlock = some b → b ≠ g) (hQ : Q < 18446744073709551616) :
    Calls Try.prog 56 #[.slice (some ⟨g, j, none⟩) (n + 1) c, v, .int .u64 (Q : Nat)] w fun e w' => ∃ b : Nat, e = .returned (.int .u64 (b : Nat)) ∧ b ≤ 1 ∧ ∃ os : List Nat, os.length = n + 1 ∧ Digs 18446744073709551616 os ∧ val 18446744073709551616 os + val 18446744073709551616 ys * Q = val 18446744073709551616 ((zs.drop j).take (n + 1)) + 18446744073709551616 ^ (n + 1) * b ∧
      OwnN .u64 24 w' base (.slice (some ⟨g, 0, none⟩) N cap) N (zs.take j ++ (os ++ zs.drop (j + (n + 1)))) ∧ Kept (fun b => b = g) w w' := by
  have hX := part_lt (j := j) (n := n + 1) hzd
  have hY : val 18446744073709551616 ys < 18446744073709551616 ^ n := by rw [← hyl]; exact val_lt (by omega) hyd
  have hdx : Hid (∀ k, k < n + 1 → dig 18446744073709551616 (val 18446744073709551616 ((zs.drop j).take (n + 1))) k = zs.getD (j + k) 0) := fun k hk => part_dig hzd hk
  have hdy : Hid (∀ k, dig 18446744073709551616 (val 18446744073709551616 ys) k = ys.getD k 0) := fun k => dig_val (by omega) hyd k
  have hzb : Hid (∀ k, zs.getD (j + k) 0 < 18446744073709551616) := fun k => hzd.getD (by omega) _
  have hyb : Hid (∀ k, ys.getD k 0 < 18446744073709551616) := fun k => hyd.getD (by omega) _
  have HRow : Hid (∀ W', Kept (fun b => b = g) w W' → Row .u64 W' v ys) := fun W' k => hv.kept' k hap
  generalize val 18446744073709551616 ((zs.drop j).take (n + 1)) = X at *
  generalize val 18446744073709551616 ys = Y at *
  have HX := toHid hX
  have HY := toHid hY
  have HZL := toHid hzl
  have HO := toHid ho
  obtain ⟨bo, m, bc, rfl, hM, _, _, _, _⟩ := hv.open
  obtain rfl : m = n := hM.out.symm.trans hyl
  clear ho hzl hX hY hyl hyd hzd hap hv hM
  go_enter Try.func56, Try.ntmps56
  go_wp2_with fail
  go_loopw [7, 9, 13] (fun av bv i wr => ∃ (k a b : Nat) (os : List Nat), k ≤ m ∧ a < 18446744073709551616 ∧ b ≤ 1 ∧ i = .int .i64 (k : Int) ∧ av = .int .u64 (a : Int) ∧ bv = .int .u64 (b : Int) ∧ Hid (os.length = k) ∧ Digs 18446744073709551616 os ∧ OwnN .u64 24 wr base (.slice (some ⟨g, 0, none⟩) N cap) N (zs.take j ++ (os ++ zs.drop (j + k))) ∧ Kept (fun b => b = g) w wr ∧
      Hid (val 18446744073709551616 os + Y % 18446744073709551616 ^ k * Q = X % 18446744073709551616 ^ k + 18446744073709551616 ^ k * (a + b))) (fun _ _ i _ => m - (intOf i).toNat)
  case atStart => exact ⟨0, 0, 0, [], Nat.zero_le _, by omega, by omega, rfl, rfl, rfl, rfl, Digs.nil _, by rw [Nat.add_zero, List.nil_append, List.take_append_drop]; exact HO.out, Kept.refl _ _, by unfold Hid; simp [val, Nat.mod_one]⟩
  case round =>
    obtain ⟨k, a, b, os, hk, ha, hb, rfl, rfl, rfl, HL, hod, ho, hkp, HV⟩ := hrel
    have hc1 := part_cell ho HZL.out HL.out (by omega)
    have hf := World.ownsRow.frozenAt ho (j + k)
    have hx := hzb.out k
    have HST : Hid (∀ u : Nat, OwnN .u64 24 (wr.setCell ⟨g, j + k, none⟩ (.int .u64 (u : Int))) base (.slice (some ⟨g, 0, none⟩) N cap) N (zs.take j ++ ((os ++ [u]) ++ zs.drop (j + (k + 1))))) := fun u => by
      have := (World.ownsRow.stored ho (j + k) (.int .u64 (u : Int))).1
      unfold OwnN
      rw [← part_set zs os j k u HL.out (by have := HZL.out; omega), List.map_set]
      exact this
    by_cases hkn : k < m
    · have hk0 : (0 : Int) ≤ (k : Int) := Int.natCast_nonneg _
      have hk1 : (k : Int) < (m : Int) := by omega
      have hk2 : (k : Int) < (m : Int) + 1 := by omega
      obtain ⟨_, _, _, e2, _, _, _, _, hnum⟩ := (HRow.out wr hkp).open
      cases e2
      obtain ⟨b2, off2, rfl, hc2⟩ := hnum k hkn
      have hy := hyb.out k
      have HS2 : Hid (∀ l a' z b', l + 18446744073709551616 * a' = ys.getD k 0 * Q + a → z + l + b = zs.getD (j + k) 0 + 18446744073709551616 * b' → val 18446744073709551616 (os ++ [z]) + Y % 18446744073709551616 ^ (k + 1) * Q = X % 18446744073709551616 ^ (k + 1) + 18446744073709551616 ^ (k + 1) * (a' + b')) := fun l a' z b' h1 h2 => subR_step HL.out HV.out (by rw [hdy.out k]; exact h1) (by rw [hdx.out k (by omega)]; exact h2)
      clear HV HRow hnum hdx hdy hzb hyb HO HX HY
      generalize zs.getD (j + k) 0 = x at *
      generalize ys.getD k 0 = y at *
      go_wp2_with fail
      refine (wMulN y Q a 0 hy hQ ha (by omega) _).mono ?_
      rintro e w7 ⟨a', l, rfl, ha', hl, hzz, rfl⟩
      rw [Nat.add_zero] at hzz
      go_wp2_with fail
      refine (wSubN x l b hx hl hb _).mono ?_
      rintro e w8 ⟨z, b', rfl, hz, hb', hzz2, rfl⟩
      go_wp2_with fail
      go_roundw
      case rel => exact ⟨k + 1, a', b', os ++ [z], by omega, ha', hb', by go_num, rfl, rfl, by unfold Hid; rw [List.length_append, HL.out]; rfl, hod.append (Digs.one hz), HST.out z, hkp.setCell _ (fun _ => rfl) _, HS2.out l a' z b' hzz hzz2⟩
      case measure => simp [intOf]; omega
    · have hk1 : ¬ (k : Int) < (m : Int) := by omega
      obtain rfl : k = m := by omega
      have hk2 : (k : Int) < (k : Int) + 1 := by omega
      have HS2 : Hid (∀ z b', z + a + b = zs.getD (j + k) 0 + 18446744073709551616 * b' → val 18446744073709551616 (os ++ [z]) + Y * Q = X + 18446744073709551616 ^ (k + 1) * b') := fun z b' h2 => subR_end HL.out HY.out HX.out HV.out (by rw [hdx.out k (by omega)]; exact h2)
      clear HV HRow hdx hdy hzb hyb HO HX HY
      generalize zs.getD (j + k) 0 = x at *
      go_wp2_with fail
      refine (wSubN x a b hx ha hb _).mono ?_
      rintro e w8 ⟨z, b', rfl, hz, hb', hzz2, rfl⟩
      go_wp2_with fail
      go_ret
      exact ⟨b', rfl, hb', os ++ [z], by rw [List.length_append, HL.out]; rfl, hod.append (Digs.one hz), HS2.out z b' hzz2, HST.out z, hkp.setCell _ (fun _ => rfl) _⟩

end Go.Proofs.Ytcdeankllgpnfab
