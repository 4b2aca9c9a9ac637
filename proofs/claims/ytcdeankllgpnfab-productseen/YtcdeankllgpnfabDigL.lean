/- Parts of a list of digits: what number they are. Plain mathematics, over no program. -/
import Derived.Test.YtcdeankllgpnfabBase1
namespace Go.Proofs.Ytcdeankllgpnfab

theorem val_takeB {B : Nat} (hB : 0 < B) {zs : List Nat} (hd : Digs B zs) (k : Nat) : val B (zs.take k) = val B zs % B ^ k := by
  by_cases h : k ≤ zs.length
  · have e := val_take_drop B zs k h
    have hlow : val B (zs.take k) < B ^ k := by
      have := val_lt hB (hd.take k)
      rwa [List.length_take, Nat.min_eq_left h] at this
    rw [e, Nat.add_mul_mod_self_left, Nat.mod_eq_of_lt hlow]
  · rw [List.take_of_length_le (by omega), Nat.mod_eq_of_lt]
    exact Nat.lt_of_lt_of_le (val_lt hB hd) (Nat.pow_le_pow_right hB (by omega))

theorem val_dropB {B : Nat} (hB : 0 < B) {zs : List Nat} (hd : Digs B zs) (k : Nat) : val B (zs.drop k) = val B zs / B ^ k := by
  by_cases h : k ≤ zs.length
  · have e := val_take_drop B zs k h
    have hlow : val B (zs.take k) < B ^ k := by
      have := val_lt hB (hd.take k)
      rwa [List.length_take, Nat.min_eq_left h] at this
    rw [e, Nat.add_mul_div_left _ _ (Nat.pow_pos hB), Nat.div_eq_of_lt hlow, Nat.zero_add]
  · rw [List.drop_of_length_le (by omega)]
    have h1 := val_lt hB hd
    have h2 : B ^ zs.length ≤ B ^ k := Nat.pow_le_pow_right hB (by omega)
    rw [Nat.div_eq_of_lt (by omega)]
    rfl

/-- A part of a number. -/
theorem val_part {B : Nat} (hB : 0 < B) {zs : List Nat} (hd : Digs B zs) (j n : Nat) : val B ((zs.drop j).take n) = val B zs / B ^ j % B ^ n := by
  rw [val_takeB hB (hd.drop j), val_dropB hB hd]

/-- A number whose part was written anew. -/
theorem val_putB {B : Nat} (hB : 0 < B) {zs os : List Nat} {j k : Nat} (hd : Digs B zs) (hl : os.length = k) (hj : j ≤ zs.length) : val B (zs.take j ++ (os ++ zs.drop (j + k))) = val B zs % B ^ j + B ^ j * (val B os + B ^ k * (val B zs / B ^ (j + k))) := by
  have h1 : (zs.take j).length = j := by rw [List.length_take]; omega
  rw [val_append, val_append, h1, hl, val_takeB hB hd, val_dropB hB hd]

theorem digs_take_put {B : Nat} {zs os : List Nat} {j k : Nat} (hd : Digs B zs) (ho : Digs B os) : Digs B (zs.take j ++ (os ++ zs.drop (j + k))) := (hd.take j).append (ho.append (hd.drop _))

theorem len_put {zs os : List Nat} {j k N : Nat} (hl : zs.length = N) (ho : os.length = k) (hj : j + k ≤ N) : (zs.take j ++ (os ++ zs.drop (j + k))).length = N := by
  simp [ho, hl]; omega

/-- One row of a product. -/
theorem rows_step {B X Y M N k S : Nat} {zs : List Nat} (hB : 0 < B) (hY : Y < B ^ M) (hk : k + M < N) (hz : zs = digs B (X % B ^ k * Y) N) (hS : S = val B ((zs.drop k).take M) + Y * dig B X k) :
    zs.take k ++ ((digs B S M ++ [S / B ^ M]) ++ zs.drop (k + (M + 1))) = digs B (X % B ^ (k + 1) * Y) N ∧ S / B ^ M < B := by
  have hpk : 0 < B ^ k := Nat.pow_pos hB
  have hP : X % B ^ k * Y < B ^ (k + M) := by
    rw [Nat.pow_add]
    exact Nat.mul_lt_mul_of_lt_of_le (Nat.mod_lt _ hpk) (Nat.le_of_lt hY) (Nat.pow_pos hB)
  have hPN : X % B ^ k * Y < B ^ N := Nat.lt_of_lt_of_le hP (Nat.pow_le_pow_right hB (by omega))
  have hzl : zs.length = N := by rw [hz, digs_length]
  have hzd : Digs B zs := by rw [hz]; exact digs_digs hB _ _
  have hzv : val B zs = X % B ^ k * Y := by rw [hz, val_digs, Nat.mod_eq_of_lt hPN]
  clear hz
  rw [val_part hB hzd, hzv] at hS
  have e2 : X % B ^ (k + 1) * Y = X % B ^ k * Y + B ^ k * (Y * dig B X k) := by
    rw [Nat.pow_succ, Nat.mod_mul, Nat.add_mul, dig, Nat.mul_assoc, Nat.mul_comm (X / B ^ k % B) Y]
  have hN1 : X % B ^ (k + 1) * Y < B ^ N := by
    have h1 : X % B ^ (k + 1) * Y < B ^ (k + 1) * B ^ M := Nat.mul_lt_mul_of_lt_of_le (Nat.mod_lt _ (Nat.pow_pos hB)) (Nat.le_of_lt hY) (Nat.pow_pos hB)
    rw [← Nat.pow_add] at h1
    exact Nat.lt_of_lt_of_le h1 (Nat.pow_le_pow_right hB (by omega))
  generalize hPP : X % B ^ k * Y = P at *
  have hPk : P / B ^ k < B ^ M := by rw [Nat.div_lt_iff_lt_mul hpk, Nat.mul_comm, ← Nat.pow_add]; exact hP
  rw [Nat.mod_eq_of_lt hPk] at hS
  have hx : dig B X k < B := Nat.mod_lt _ hB
  have hSB : S / B ^ M < B := by
    rw [Nat.div_lt_iff_lt_mul (Nat.pow_pos hB), hS]
    have h1 : Y * dig B X k ≤ B ^ M * dig B X k := Nat.mul_le_mul_right _ (Nat.le_of_lt hY)
    have h2 : B ^ M * (dig B X k + 1) ≤ B ^ M * B := Nat.mul_le_mul_left _ hx
    rw [Nat.mul_add, Nat.mul_one] at h2
    rw [Nat.mul_comm B]
    omega
  refine ⟨?_, hSB⟩
  have hl1 : (digs B S M ++ [S / B ^ M]).length = M + 1 := by simp [digs_length]
  refine digs_val hB (digs_take_put hzd ((digs_digs hB _ _).append (Digs.one hSB))) (len_put hzl hl1 (by omega)) ?_
  rw [val_putB hB hzd hl1 (by omega), val_snoc, digs_length, val_digs, hzv, Nat.mod_eq_of_lt hN1, e2]
  have e3 : P / B ^ (k + (M + 1)) = 0 := by
    apply Nat.div_eq_of_lt
    exact Nat.lt_of_lt_of_le hP (Nat.pow_le_pow_right hB (by omega))
  rw [e3, Nat.mul_zero, Nat.add_zero, Nat.mod_add_div, hS, Nat.mul_add, ← Nat.add_assoc, Nat.mod_add_div]

end Go.Proofs.Ytcdeankllgpnfab
