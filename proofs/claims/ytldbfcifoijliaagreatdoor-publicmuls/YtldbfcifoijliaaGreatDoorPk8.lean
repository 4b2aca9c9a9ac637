/- Put together of: Pro1. -/
import Derived.Test.YtldbfcifoijliaaGreatDoorPk1
import Derived.Test.YtldbfcifoijliaaGreatDoorPk6
import Derived.Test.YtldbfcifoijliaaGreatDoorPk7

/- Melted of: PrA DigL PrB. -/

/- Package product: addRow: a row times a word is added to as many words of another one. -/
namespace Go.Proofs.YtldbfcifoijliaaGreatDoor
open Go.RowKit

theorem wMulN (a b c d : Nat) (ha : a < 18446744073709551616) (hb : b < 18446744073709551616) (hc : c < 18446744073709551616) (hd : d < 18446744073709551616) (w : World) :
    Calls Tryz.prog 129 #[.int .u64 (a : Nat), .int .u64 (b : Nat), .int .u64 (c : Nat), .int .u64 (d : Nat)] w fun e w' => ∃ h l : Nat, e = .returned (.tuple #[.int .u64 (h : Nat), .int .u64 (l : Nat)]) ∧ h < 18446744073709551616 ∧ l < 18446744073709551616 ∧ l + 18446744073709551616 * h = a * b + c + d ∧ w' = w := by
  refine (wMul (a : Int) (b : Int) (c : Int) (d : Int) (by omega) (by omega) (by omega) (by omega) (by omega) (by omega) (by omega) (by omega) w).mono ?_
  rintro e w' ⟨rfl, rfl⟩
  have hp : a * b ≤ 18446744073709551615 * 18446744073709551615 := Nat.mul_le_mul (by omega) (by omega)
  have e1 : (a : Int) * (b : Int) = ((a * b : Nat) : Int) := by simp
  rw [e1]
  generalize a * b = p at *
  refine ⟨(p + c + d) / 18446744073709551616, (p + c + d) % 18446744073709551616, ret_two ?_ ?_, by omega, Nat.mod_lt _ (by omega), by omega, rfl⟩ <;> omega

theorem mulT_step {B X Y W k c z c' : Nat} {os : List Nat} (hl : os.length = k) (h : val B os + B ^ k * c = X % B ^ k + Y % B ^ k * W) (hz : z + B * c' = dig B Y k * W + dig B X k + c) :
    val B (os ++ [z]) + B ^ (k + 1) * c' = X % B ^ (k + 1) + Y % B ^ (k + 1) * W := by
  rw [val_snoc, hl, mod_succ, mod_succ, Nat.pow_succ, Nat.mul_assoc, Nat.add_mul, Nat.mul_assoc]
  have e : B ^ k * (z + B * c') = B ^ k * (dig B Y k * W + dig B X k + c) := by rw [hz]
  rw [Nat.mul_add, Nat.mul_add, Nat.mul_add] at e
  omega

theorem row_end {B n S c : Nat} {os : List Nat} (hB : 0 < B) (hl : os.length = n) (hd : Digs B os) (h : val B os + B ^ n * c = S) : os = digs B S n ∧ c = S / B ^ n := by
  have hv := val_lt hB hd
  rw [hl] at hv
  refine ⟨digs_val hB hd hl ?_, ?_⟩
  · rw [← h, Nat.add_mul_mod_self_left, Nat.mod_eq_of_lt hv]
  · rw [← h, Nat.add_mul_div_left _ _ (Nat.pow_pos hB), Nat.div_eq_of_lt hv, Nat.zero_add]

/-- A part of a row that is being written. -/
theorem part_set (zs os : List Nat) (j k z : Nat) (hl : os.length = k) (hk : j + k < zs.length) : (zs.take j ++ (os ++ zs.drop (j + k))).set (j + k) z = zs.take j ++ ((os ++ [z]) ++ zs.drop (j + (k + 1))) := by
  have h1 : (zs.take j).length = j := by rw [List.length_take]; omega
  rw [List.set_append_right _ _ (by omega), h1, Nat.add_sub_cancel_left, List.set_append_right _ _ (by omega), hl, Nat.sub_self, List.drop_eq_getElem_cons hk, List.set_cons_zero, List.append_assoc]
  rfl

theorem part_cell {w : World} {base g N cap j k : Nat} {t : TypeId} {zs os : List Nat} (h : OwnN .u64 t w base (.slice (some ⟨g, 0, none⟩) N cap) N (zs.take j ++ (os ++ zs.drop (j + k)))) (hzl : zs.length = N) (hl : os.length = k) (hk : j + k < N) : w.cell? ⟨g, j + k, none⟩ = some (.int .u64 (zs.getD (j + k) 0 : Nat)) := by
  have h1 : (zs.take j).length = j := by rw [List.length_take]; omega
  rw [World.ownsRow.cellAt h (j + k) (by omega), List.getElem?_map, List.getElem?_append_right (by omega), h1, Nat.add_sub_cancel_left, List.getElem?_append_right (by omega), hl, Nat.sub_self, List.getElem?_drop, Nat.add_zero, List.getD_eq_getElem?_getD, List.getElem?_eq_getElem (by omega)]
  rfl

theorem part_dig {zs : List Nat} {j n k : Nat} (hd : Digs 18446744073709551616 zs) (hk : k < n) : dig 18446744073709551616 (val 18446744073709551616 ((zs.drop j).take n)) k = zs.getD (j + k) 0 := by
  rw [dig_val (by omega) ((hd.drop j).take n), List.getD_eq_getElem?_getD, List.getElem?_take, if_pos hk, List.getElem?_drop, ← List.getD_eq_getElem?_getD]

theorem part_lt {zs : List Nat} {j n : Nat} (hd : Digs 18446744073709551616 zs) : val 18446744073709551616 ((zs.drop j).take n) < 18446744073709551616 ^ n :=
  Nat.lt_of_lt_of_le (val_lt (by omega) ((hd.drop j).take n)) (Nat.pow_le_pow_right (by omega) (by rw [List.length_take]; omega))

theorem owns_lt {w : World} {base size g N cap n : Nat} {e : TypeId} {xs : List Value} (ho : w.ownsRow base e size (.slice (some ⟨g, 0, none⟩) N cap) n xs) : g < w.heap.size := by
  rcases ho.2 with ⟨h', _⟩ | ⟨g', cap', cur, h', _, hgg, _⟩
  · simp at h'
  · simp only [Value.slice.injEq, Option.some.injEq, Addr.mk.injEq, and_true] at h'
    obtain ⟨rfl, _, _⟩ := h'
    exact lt_of_block hgg

set_option maxRecDepth 20000 in
set_option maxHeartbeats 2000000 in
/-- addRow. -/
theorem pAddRow (g base N cap j n c W : Nat) (zs ys : List Nat) (v : Value) (w : World) (ho : OwnN .u64 24 w base (.slice (some ⟨g, 0, none⟩) N cap) N zs) (hzl : zs.length = N) (hzd : Digs 18446744073709551616 zs) (hj : j + n ≤ N)
    (hv : Row .u64 w v ys) (hyl : ys.length = n) (hyd : Digs 18446744073709551616 ys) (hap : ys ≠ [] → ∀ b, v.ownBlock = some b → b ≠ g) (hW : W < 18446744073709551616) (R S : Nat) (hS : S = val 18446744073709551616 ((zs.drop j).take n) + val 18446744073709551616 ys * W) (hR : R = S / 18446744073709551616 ^ n) :
    Calls Tryz.prog 127 #[.slice (some ⟨g, j, none⟩) n c, v, .int .u64 (W : Nat)] w fun e w' => e = .returned (.int .u64 (R : Nat)) ∧
      OwnN .u64 24 w' base (.slice (some ⟨g, 0, none⟩) N cap) N (zs.take j ++ (digs 18446744073709551616 S n ++ zs.drop (j + n))) ∧ Kept (fun b => b = g) w w' := by
  have hX := part_lt (j := j) (n := n) hzd
  have hY : val 18446744073709551616 ys < 18446744073709551616 ^ n := by rw [← hyl]; exact val_lt (by omega) hyd
  have hdx : Hid (∀ k, k < n → dig 18446744073709551616 (val 18446744073709551616 ((zs.drop j).take n)) k = zs.getD (j + k) 0) := fun k hk => part_dig hzd hk
  have hdy : Hid (∀ k, dig 18446744073709551616 (val 18446744073709551616 ys) k = ys.getD k 0) := fun k => dig_val (by omega) hyd k
  have hzb : Hid (∀ k, zs.getD (j + k) 0 < 18446744073709551616) := fun k => hzd.getD (by omega) _
  have hyb : Hid (∀ k, ys.getD k 0 < 18446744073709551616) := fun k => hyd.getD (by omega) _
  have HRow : Hid (∀ W', Kept (fun b => b = g) w W' → Row .u64 W' v ys) := fun W' k => hv.kept' k hap
  generalize val 18446744073709551616 ((zs.drop j).take n) = X at *
  generalize val 18446744073709551616 ys = Y at *
  have HX := toHid hX
  have HY := toHid hY
  have HS := toHid hS
  have HR := toHid hR
  have HZL := toHid hzl
  have HO := toHid ho
  have hlt := owns_lt ho
  obtain ⟨bo, m, bc, rfl, hM, _, _, _, _⟩ := hv.open
  obtain rfl : m = n := hM.out.symm.trans hyl
  clear ho hzl hX hY hS hR hyl hyd hzd hap hv hM
  go_enter Tryz.func127, Tryz.ntmps127
  go_wp2_with fail
  go_loopw [7, 11] (fun ab i wr => ∃ (k c' : Nat) (os : List Nat), k ≤ m ∧ c' < 18446744073709551616 ∧ i = .int .i64 (k : Int) ∧ ab = .int .u64 (c' : Int) ∧ Hid (os.length = k) ∧ Digs 18446744073709551616 os ∧ OwnN .u64 24 wr base (.slice (some ⟨g, 0, none⟩) N cap) N (zs.take j ++ (os ++ zs.drop (j + k))) ∧ Kept (fun b => b = g) w wr ∧
      Hid (val 18446744073709551616 os + 18446744073709551616 ^ k * c' = X % 18446744073709551616 ^ k + Y % 18446744073709551616 ^ k * W)) (fun _ i _ => m - (intOf i).toNat)
  case atStart => exact ⟨0, 0, [], Nat.zero_le _, by omega, rfl, rfl, rfl, Digs.nil _, by rw [Nat.add_zero, List.nil_append, List.take_append_drop]; exact HO.out, Kept.refl _ _, by unfold Hid; simp [val, Nat.mod_one]⟩
  case round =>
    obtain ⟨k, c', os, hk, hc, rfl, rfl, HL, hod, ho, hkp, HV⟩ := hrel
    by_cases hkn : k < m
    · have hk0 : (0 : Int) ≤ (k : Int) := Int.natCast_nonneg _
      have hk1 : (k : Int) < (m : Int) := by omega
      have hc1 := part_cell ho HZL.out HL.out (by omega)
      obtain ⟨_, _, _, e2, _, _, _, _, hnum⟩ := (HRow.out wr hkp).open
      cases e2
      obtain ⟨b2, off2, rfl, hc2⟩ := hnum k hkn
      have hf := World.ownsRow.frozenAt ho (j + k)
      have hx := hzb.out k
      have hy := hyb.out k
      have HS2 : Hid (∀ z c2, z + 18446744073709551616 * c2 = ys.getD k 0 * W + zs.getD (j + k) 0 + c' → val 18446744073709551616 (os ++ [z]) + 18446744073709551616 ^ (k + 1) * c2 = X % 18446744073709551616 ^ (k + 1) + Y % 18446744073709551616 ^ (k + 1) * W) := fun z c2 h => mulT_step HL.out HV.out (by rw [hdx.out k hkn, hdy.out k]; exact h)
      have HST : Hid (∀ u : Nat, OwnN .u64 24 (wr.setCell ⟨g, j + k, none⟩ (.int .u64 (u : Int))) base (.slice (some ⟨g, 0, none⟩) N cap) N (zs.take j ++ ((os ++ [u]) ++ zs.drop (j + (k + 1))))) := fun u => by
        have := (World.ownsRow.stored ho (j + k) (.int .u64 (u : Int))).1
        unfold OwnN
        rw [← part_set zs os j k u HL.out (by have := HZL.out; omega), List.map_set]
        exact this
      clear HV HRow hnum hdx hdy hzb hyb HO HX HY HS HR
      generalize zs.getD (j + k) 0 = x at *
      generalize ys.getD k 0 = y at *
      go_wp2_with fail
      go_region_with (go_at_call 129; refine (wMulN y W x c' hy hW hx hc _).mono ?_; rintro e w7 ⟨h2, l2, rfl, hh2, hl2, hzz, rfl⟩)
      all_goals
        go_wp2_with fail
        go_roundw
        case rel => exact ⟨k + 1, h2, os ++ [l2], by omega, hh2, by go_num, rfl, by unfold Hid; rw [List.length_append, HL.out]; rfl, hod.append (Digs.one hl2), HST.out l2, (hkp.setCell _ (fun _ => rfl) _).drew, HS2.out l2 h2 hzz⟩
        case measure => simp [intOf]; omega
    · have hk1 : ¬ (k : Int) < (m : Int) := by omega
      obtain rfl : k = m := by omega
      have e := HV.out
      rw [Nat.mod_eq_of_lt HX.out, Nat.mod_eq_of_lt HY.out, ← HS.out] at e
      obtain ⟨e1, e2⟩ := row_end (by omega) HL.out hod e
      have E1 := toHid e1
      have E2 := toHid (e2.trans HR.out.symm)
      clear e e1 e2 HV HRow hdx hdy hzb hyb HO HX HY HS HR
      go_wp2_with fail
      go_ret
      rw [← E1.out, ← E2.out]
      exact ⟨rfl, ho, hkp⟩

end Go.Proofs.YtldbfcifoijliaaGreatDoor

/- Parts of a list of digits: what number they are. Plain mathematics, over no program. -/
namespace Go.Proofs.YtldbfcifoijliaaGreatDoor

theorem val_takeB {B : Nat} (hB : 0 < B) {zs : List Nat} (hd : Digs B zs) (k : Nat) : val B (zs.take k) = val B zs % B ^ k := by
  by_cases h : k ≤ zs.length
  · have e := val_take_drop B zs k h
    have hlow : val B (zs.take k) < B ^ k := by
      have := val_lt hB (hd.take k)
      rwa [List.length_take, Nat.min_eq_left h] at this
    rw [e, Nat.add_mul_mod_self_left, Nat.mod_eq_of_lt hlow]
  · rw [List.take_of_length_le (by omega), Nat.mod_eq_of_lt]
    exact Nat.lt_of_lt_of_le (val_lt hB hd) (Nat.pow_le_pow_right hB (by omega))

theorem val_dropB {B : Nat} (hB : 0 < B) {zs : List Nat} (hd : Digs B zs) (k : Nat) : val B (zs.drop k) = val B zs / B ^ k := by
  by_cases h : k ≤ zs.length
  · have e := val_take_drop B zs k h
    have hlow : val B (zs.take k) < B ^ k := by
      have := val_lt hB (hd.take k)
      rwa [List.length_take, Nat.min_eq_left h] at this
    rw [e, Nat.add_mul_div_left _ _ (Nat.pow_pos hB), Nat.div_eq_of_lt hlow, Nat.zero_add]
  · rw [List.drop_of_length_le (by omega)]
    have h1 := val_lt hB hd
    have h2 : B ^ zs.length ≤ B ^ k := Nat.pow_le_pow_right hB (by omega)
    rw [Nat.div_eq_of_lt (by omega)]
    rfl

/-- A part of a number. -/
theorem val_part {B : Nat} (hB : 0 < B) {zs : List Nat} (hd : Digs B zs) (j n : Nat) : val B ((zs.drop j).take n) = val B zs / B ^ j % B ^ n := by
  rw [val_takeB hB (hd.drop j), val_dropB hB hd]

/-- A number whose part was written anew. -/
theorem val_putB {B : Nat} (hB : 0 < B) {zs os : List Nat} {j k : Nat} (hd : Digs B zs) (hl : os.length = k) (hj : j ≤ zs.length) : val B (zs.take j ++ (os ++ zs.drop (j + k))) = val B zs % B ^ j + B ^ j * (val B os + B ^ k * (val B zs / B ^ (j + k))) := by
  have h1 : (zs.take j).length = j := by rw [List.length_take]; omega
  rw [val_append, val_append, h1, hl, val_takeB hB hd, val_dropB hB hd]

theorem digs_take_put {B : Nat} {zs os : List Nat} {j k : Nat} (hd : Digs B zs) (ho : Digs B os) : Digs B (zs.take j ++ (os ++ zs.drop (j + k))) := (hd.take j).append (ho.append (hd.drop _))

theorem len_put {zs os : List Nat} {j k N : Nat} (hl : zs.length = N) (ho : os.length = k) (hj : j + k ≤ N) : (zs.take j ++ (os ++ zs.drop (j + k))).length = N := by
  simp [ho, hl]; omega

/-- One row of a product. -/
theorem rows_step {B X Y M N k S : Nat} {zs : List Nat} (hB : 0 < B) (hY : Y < B ^ M) (hk : k + M < N) (hz : zs = digs B (X % B ^ k * Y) N) (hS : S = val B ((zs.drop k).take M) + Y * dig B X k) :
    zs.take k ++ ((digs B S M ++ [S / B ^ M]) ++ zs.drop (k + (M + 1))) = digs B (X % B ^ (k + 1) * Y) N ∧ S / B ^ M < B := by
  have hpk : 0 < B ^ k := Nat.pow_pos hB
  have hP : X % B ^ k * Y < B ^ (k + M) := by
    rw [Nat.pow_add]
    exact Nat.mul_lt_mul_of_lt_of_le (Nat.mod_lt _ hpk) (Nat.le_of_lt hY) (Nat.pow_pos hB)
  have hPN : X % B ^ k * Y < B ^ N := Nat.lt_of_lt_of_le hP (Nat.pow_le_pow_right hB (by omega))
  have hzl : zs.length = N := by rw [hz, digs_length]
  have hzd : Digs B zs := by rw [hz]; exact digs_digs hB _ _
  have hzv : val B zs = X % B ^ k * Y := by rw [hz, val_digs, Nat.mod_eq_of_lt hPN]
  clear hz
  rw [val_part hB hzd, hzv] at hS
  have e2 : X % B ^ (k + 1) * Y = X % B ^ k * Y + B ^ k * (Y * dig B X k) := by
    rw [Nat.pow_succ, Nat.mod_mul, Nat.add_mul, dig, Nat.mul_assoc, Nat.mul_comm (X / B ^ k % B) Y]
  have hN1 : X % B ^ (k + 1) * Y < B ^ N := by
    have h1 : X % B ^ (k + 1) * Y < B ^ (k + 1) * B ^ M := Nat.mul_lt_mul_of_lt_of_le (Nat.mod_lt _ (Nat.pow_pos hB)) (Nat.le_of_lt hY) (Nat.pow_pos hB)
    rw [← Nat.pow_add] at h1
    exact Nat.lt_of_lt_of_le h1 (Nat.pow_le_pow_right hB (by omega))
  generalize hPP : X % B ^ k * Y = P at *
  have hPk : P / B ^ k < B ^ M := by rw [Nat.div_lt_iff_lt_mul hpk, Nat.mul_comm, ← Nat.pow_add]; exact hP
  rw [Nat.mod_eq_of_lt hPk] at hS
  have hx : dig B X k < B := Nat.mod_lt _ hB
  have hSB : S / B ^ M < B := by
    rw [Nat.div_lt_iff_lt_mul (Nat.pow_pos hB), hS]
    have h1 : Y * dig B X k ≤ B ^ M * dig B X k := Nat.mul_le_mul_right _ (Nat.le_of_lt hY)
    have h2 : B ^ M * (dig B X k + 1) ≤ B ^ M * B := Nat.mul_le_mul_left _ hx
    rw [Nat.mul_add, Nat.mul_one] at h2
    rw [Nat.mul_comm B]
    omega
  refine ⟨?_, hSB⟩
  have hl1 : (digs B S M ++ [S / B ^ M]).length = M + 1 := by simp [digs_length]
  refine digs_val hB (digs_take_put hzd ((digs_digs hB _ _).append (Digs.one hSB))) (len_put hzl hl1 (by omega)) ?_
  rw [val_putB hB hzd hl1 (by omega), val_snoc, digs_length, val_digs, hzv, Nat.mod_eq_of_lt hN1, e2]
  have e3 : P / B ^ (k + (M + 1)) = 0 := by
    apply Nat.div_eq_of_lt
    exact Nat.lt_of_lt_of_le hP (Nat.pow_le_pow_right hB (by omega))
  rw [e3, Nat.mul_zero, Nat.add_zero, Nat.mod_add_div, hS, Nat.mul_add, ← Nat.add_assoc, Nat.mod_add_div]

end Go.Proofs.YtldbfcifoijliaaGreatDoor

/- Package product: rows: a row of b for each word of a. -/
namespace Go.Proofs.YtldbfcifoijliaaGreatDoor
open Go.RowKit

theorem digs_zero (B : Nat) : ∀ n, digs B 0 n = List.replicate n 0
  | 0 => rfl
  | n + 1 => by rw [digs, digs_zero B n, List.replicate_succ', dig]; simp

theorem own_apart_row {w w' : World} {v : Value} {xs : List Nat} {g : Nat} (h : Row .u64 w v xs) (hg : w.heap.size ≤ g) (_ : w.heap.size ≤ w'.heap.size) : xs ≠ [] → ∀ b, v.ownBlock = some b → b ≠ g := fun hne b hb e => by
  have := h.lt hne b hb
  omega

set_option maxRecDepth 20000 in
set_option maxHeartbeats 2000000 in
/-- rows. -/
theorem pRows (o : Tr) (u v : Value) (xs ys : List Nat) (w : World) (ht : TrRoom w o xs.length) (hu : RowT w o u xs) (hv : RowT w o v ys) (hdx : Digs 18446744073709551616 xs) (hdy : Digs 18446744073709551616 ys) (hL : xs.length ≤ 100000) (hM : ys.length ≤ 100000) :
    Calls Tryz.prog 116 #[trPtr o, u, v] w fun e w' => ∃ v', e = .returned v' ∧ v' = .slice (some ⟨w.heap.size, 0, none⟩) (xs.length + ys.length) (xs.length + ys.length) ∧
      OwnN .u64 24 w' w.heap.size v' (xs.length + ys.length) (digs 18446744073709551616 (val 18446744073709551616 xs * val 18446744073709551616 ys) (xs.length + ys.length)) ∧ ∃ o', Did w o (List.replicate xs.length (1, (ys.length : Nat), 0)) w' o' := by
  obtain ⟨i0, hi0, hz0, hz1, hz2⟩ := info_parts Tryz.info24
  obtain ⟨ao, L, cap, rfl, hLx, _, _, _, _⟩ := hu.1.open
  obtain ⟨bo, M, dap, rfl, hLy, _, _, _, _⟩ := hv.1.open
  have eL := hLx.out
  have eM := hLy.out
  have hX : Hid (val 18446744073709551616 xs < 18446744073709551616 ^ L) := by have := val_lt (by omega) hdx; rw [eL] at this; exact this
  have hY : Hid (val 18446744073709551616 ys < 18446744073709551616 ^ M) := by have := val_lt (by omega) hdy; rw [eM] at this; exact this
  have hdigx : Hid (∀ k, dig 18446744073709551616 (val 18446744073709551616 xs) k = xs.getD k 0) := fun k => dig_val (by omega) hdx k
  have hxb : Hid (∀ k, xs.getD k 0 < 18446744073709551616) := fun k => hdx.getD (by omega) _
  rw [eL] at hL ht ⊢
  rw [eM] at hM ⊢
  have HU := toHid hu
  have HV := toHid hv
  have HT := toHid ht
  have HM := toHid eM
  have HDY := toHid hdy
  obtain ⟨Y, hYY⟩ : ∃ Y, Y = val 18446744073709551616 ys := ⟨_, rfl⟩
  rw [← hYY] at hY ⊢
  have HYY := toHid hYY
  obtain ⟨tp, htp⟩ : ∃ tp, tp = trPtr o := ⟨_, rfl⟩
  rw [← htp]
  have HTP := toHid htp
  clear hu hv ht hLx hLy eL eM hdx hdy htp hYY
  generalize val 18446744073709551616 xs = X at *
  obtain ⟨N, hN⟩ : ∃ N, N = L + M := ⟨_, rfl⟩
  have hLM : (L : Int) + (M : Int) = (N : Int) := by omega
  rw [← hN]
  have hNb : N ≤ 200000 := by omega
  have HN := toHid hN
  clear hN
  go_enter Tryz.func116, Tryz.ntmps116
  go_wp2_with (at_make; refine wpList_make_full _ rfl _ _ 23 rfl w.heap.size 24 i0 _ 1 Tryz.underlying23 hi0 hz0 hz1 _ _ _ _ N rfl rfl (by first | exact hLM | rfl) (by first | exact hLM | rfl) (by rw [hz2]; omega) (by unfold maxLen; omega) (Nat.le_refl _) ?_; intro w1 ho1 hg1)
  rw [zeros_map] at ho1
  have k1 := grown_kept hg1
  clear hg1
  rw [← digs_zero 18446744073709551616 N] at ho1
  go_loopw [18] (fun i wr => ∃ (k : Nat) (o' : Tr), k ≤ L ∧ i = .int .i64 (k : Int) ∧ Hid (Did w o (List.replicate k (1, (M : Int), 0)) wr o') ∧ OwnN .u64 24 wr w.heap.size (.slice (some ⟨w.heap.size, 0, none⟩) N N) N (digs 18446744073709551616 (X % 18446744073709551616 ^ k * Y) N)) (fun i _ => L - (intOf i).toNat)
  case atStart => exact ⟨0, o, Nat.zero_le _, rfl, Did.of_kept k1 (HT.out.1), by rw [Nat.pow_zero, Nat.mod_one, Nat.zero_mul]; exact ho1⟩
  case round =>
    obtain ⟨k, o1, hk, rfl, HD, ho⟩ := hrel
    clear ho1 k1
    by_cases hkn : k < L
    · have hk0 : (0 : Int) ≤ (k : Int) := Int.natCast_nonneg _
      have hk1 : (k : Int) < (L : Int) := by omega
      have hroom : TrRoom wr o1 (L - k) := HD.out.room (by rw [List.length_replicate, show k + (L - k) = L by omega]; exact HT.out)
      have hS := tSpanDid o1 (M : Int) wr hroom.1
      rw [HD.out.ptr, ← HTP.out] at hS
      go_wp2_with fail
      refine hS.mono ?_
      rintro e w2 ⟨rfl, o2, d2⟩
      have ho2 := d2.kept.own ho (own_apart ho hroom.1)
      have HD2 := toHid (HD.out.trans d2)
      have hu2 := HU.out.did HD2.out
      have hv2 := HV.out.did HD2.out
      clear hS ho d2 hroom HD
      obtain ⟨_, _, _, e2, _, _, _, _, hnum⟩ := hu2.1.open
      cases e2
      obtain ⟨b2, off2, rfl, hc2⟩ := hnum k hkn
      have hxk := hxb.out k
      obtain ⟨zs, hzs⟩ : ∃ zs, zs = digs 18446744073709551616 (X % 18446744073709551616 ^ k * Y) N := ⟨_, rfl⟩
      rw [← hzs] at ho2
      have hzl : zs.length = N := by rw [hzs, digs_length]
      have hzd : Digs 18446744073709551616 zs := by rw [hzs]; exact digs_digs (by omega) _ _
      obtain ⟨S, hS⟩ : ∃ S, S = val 18446744073709551616 ((zs.drop k).take M) + Y * xs.getD k 0 := ⟨_, rfl⟩
      obtain ⟨R, hR⟩ : ∃ R, R = S / 18446744073709551616 ^ M := ⟨_, rfl⟩
      have hkM : k + M < N := by have := HN.out; omega
      obtain ⟨st1, st2⟩ := rows_step (S := S) (by omega) hY.out hkM hzs (by rw [hdigx.out k]; exact hS)
      rw [← hR] at st1 st2
      have hSy : S = val 18446744073709551616 ((zs.drop k).take M) + val 18446744073709551616 ys * xs.getD k 0 := by rw [← HYY.out]; exact hS
      have hap := own_apart_row (w' := w2) (g := w.heap.size) HV.out.1 (Nat.le_refl _) HD2.out.size
      have HA := fun W' (kk : Kept Nought w2 W') => pAddRow w.heap.size w.heap.size N N k M (N - k) (xs.getD k 0) zs ys (.slice bo M dap) W' (kk.own ho2 (fun _ _ f => f)) hzl hzd (by omega) (hv2.1.grew kk) HM.out HDY.out hap hxk R S hSy hR
      have hST : Hid (∀ W', OwnN .u64 24 W' w.heap.size (.slice (some ⟨w.heap.size, 0, none⟩) N N) N (zs.take k ++ (digs 18446744073709551616 S M ++ zs.drop (k + M))) → OwnN .u64 24 (W'.setCell ⟨w.heap.size, k + M, none⟩ (.int .u64 (R : Int))) w.heap.size (.slice (some ⟨w.heap.size, 0, none⟩) N N) N (digs 18446744073709551616 (X % 18446744073709551616 ^ (k + 1) * Y) N)) := fun W' h => by
        have := (World.ownsRow.stored h (k + M) (.int .u64 (R : Int))).1
        unfold OwnN
        rw [← st1, ← part_set zs _ k M R (digs_length _ _ _) (by omega), List.map_set]
        exact this
      have hCell : ∀ W', OwnN .u64 24 W' w.heap.size (.slice (some ⟨w.heap.size, 0, none⟩) N N) N (zs.take k ++ (digs 18446744073709551616 S M ++ zs.drop (k + M))) → W'.cell? ⟨w.heap.size, k + M, none⟩ = some (.int .u64 (zs.getD (k + M) 0 : Nat)) := fun W' h => part_cell h hzl (digs_length _ _ _) hkM
      have hFr : ∀ W', OwnN .u64 24 W' w.heap.size (.slice (some ⟨w.heap.size, 0, none⟩) N N) N (zs.take k ++ (digs 18446744073709551616 S M ++ zs.drop (k + M))) → W'.frozen? ⟨w.heap.size, k + M, none⟩ = false := fun W' h => World.ownsRow.frozenAt h (k + M)
      have hF2 : ¬ trFoot o2 w.heap.size := own_apart ho2 (HD2.out.room (k := 0) (by rw [List.length_append, List.length_replicate]; exact HT.out.less (by simp; omega))).1 _ rfl
      clear hS hSy hR hzs hzd hzl hu2 hv2 hnum hxb hdigx HDY HYY hap st1 ho2
      generalize xs.getD k 0 = x at *
      generalize zs.getD (k + M) 0 = zz at *
      generalize zs.take k ++ (digs 18446744073709551616 S M ++ zs.drop (k + M)) = zs' at *
      have gkM : (k : Int) + (M : Int) < (N : Int) := by omega
      have gkM0 : (0 : Int) ≤ (k : Int) + (M : Int) := by omega
      have gkM1 : ((k : Int) + (M : Int)).toNat = k + M := by omega
      go_wp2_with fail
      go_region_with (go_at_call 127; refine (HA _ ((Kept.refl _ _).drew)).mono ?_; rintro e w3 ⟨rfl, ho3, k3⟩; have hc3 := hCell _ ho3; have hf3 := hFr _ ho3)
      all_goals
        go_wp2_with fail
        go_roundw
        case rel =>
          have k4 : Kept (fun b => b = w.heap.size) w2 (w3.setCell ⟨w.heap.size, k + M, none⟩ (.int .u64 (R : Int))) := (((Kept.refl _ _).drew).trans k3).setCell _ (fun _ => rfl) _
          exact ⟨k + 1, o2, by omega, by go_num, by unfold Hid; rw [List.replicate_succ']; exact HD2.out.wroteNew k4 (Nat.le_refl _) hF2, hST.out _ ho3⟩
        case measure => simp [intOf]; omega
    · have hk1 : ¬ (k : Int) < (L : Int) := by omega
      obtain rfl : k = L := by omega
      rw [Nat.mod_eq_of_lt hX.out] at ho
      clear hxb hdigx HDY HYY
      go_wp2_with fail
      go_ret
      exact ⟨_, rfl, by rw [HN.out]; rfl, ho, o1, HD.out⟩

end Go.Proofs.YtldbfcifoijliaaGreatDoor

