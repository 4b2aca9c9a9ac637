/- Put together of: MonA MonB. -/
import Derived.Test.YtldbfcifoijliaaGreatDoorPk8
import Derived.Test.YtldbfcifoijliaaGreatDoorPk10
import Derived.Deep.RegionHeld3

/- Package mont: the numbers of a reduction; addRow, addRows. -/
namespace Go.Proofs.YtldbfcifoijliaaGreatDoor
open Go.RowKit

theorem cells3 {W : World} {p : Nat} {a b c : Value} {t : TypeId} {fr : Nat × Nat} (h : W.heap[p]? = some (.cells #[a, b, c] t fr)) : W.cell? ⟨p, 0, none⟩ = some a ∧ W.cell? ⟨p, 1, none⟩ = some b ∧ W.cell? ⟨p, 2, none⟩ = some c :=
  ⟨(cell_of_row W p 0 _ _ _ h).trans rfl, (cell_of_row W p 1 _ _ _ h).trans rfl, (cell_of_row W p 2 _ _ _ h).trans rfl⟩

theorem red_num {P Pn B V X Q q c c2 z R d part low rest Sl A : Nat}
  (hA : A = low + P*(part + Pn*(d + B*rest))) (hv : A + P*Pn*c = X + V*Q)
  (hS : part + V*q = Sl + Pn*R) (hz : z + B*c2 = d + R + c) :
  low + P*(Sl + Pn*z + Pn*B*rest) + P*Pn*B*c2 = X + V*(Q + P*q) := by grind

theorem q_room {Q P q B : Nat} (h : Q < P) (hq : q < B) : Q + P * q < P * B := by
  have : P * (q + 1) ≤ P * B := Nat.mul_le_mul_left _ hq
  grind

/-- The sum of a word and its product with K times V is divisible by B. -/
theorem low_zero {B V K d q part : Nat} (hg : (V * K + 1) % B = 0) (hq : q = d * K % B) (hp : part % B = d) : (part + V * q) % B = 0 := by
  obtain ⟨t, ht⟩ := Nat.dvd_of_mod_eq_zero hg
  have e1 : d * K = B * (d * K / B) + q := by rw [hq]; exact (Nat.div_add_mod _ _).symm
  have e2 : part = B * (part / B) + d := by rw [← hp]; exact (Nat.div_add_mod _ _).symm
  apply Nat.mod_eq_zero_of_dvd
  have h3 : B ∣ part + V * q + B * (V * (d * K / B)) := by
    refine ⟨part / B + d * t, ?_⟩
    generalize part / B = pb at *
    generalize d * K / B = kb at *
    grind
  exact (Nat.dvd_add_left ⟨_, rfl⟩).1 h3

theorem red_end {P V X Q T c A : Nat} (hA : A = P * T) (hv : A + P * P * c = X + V * Q) (hQ : Q < P) (hX : X < V * P) : T + P * c < 2 * V ∧ (P * (T + P * c)) % V = X % V := by
  have e : P * (T + P * c) = X + V * Q := by rw [← hv, hA]; grind
  refine ⟨?_, by rw [e, Nat.add_mul_mod_self_left]⟩
  apply Nat.lt_of_mul_lt_mul_left (a := P)
  rw [e]
  have : V * (Q + 1) ≤ V * P := Nat.mul_le_mul_left _ hQ
  grind

theorem les_mod {Z V : Nat} (h : Z < 2 * V) : (if V ≤ Z then Z - V else Z) = Z % V := by
  split
  · rename_i h1
    rw [Nat.mod_eq_sub_mod h1, Nat.mod_eq_of_lt (by omega)]
  · rw [Nat.mod_eq_of_lt (by omega)]

/-- inverse of B^k -/
theorem uniq_mod {V P Q Q' a : Nat} (hc : Nat.Coprime V P) (hQ : Q < P) (hQ' : Q' < P) (h : (a + V * Q) % P = (a + V * Q') % P) : Q = Q' := by
  have key : ∀ x y : Nat, x ≤ y → y < P → (a + V * x) % P = (a + V * y) % P → x = y := by
    intro x y hxy hy he
    have hd : P ∣ (a + V * y) - (a + V * x) := Nat.dvd_of_mod_eq_zero (Nat.sub_mod_eq_zero_of_mod_eq he.symm)
    have e : (a + V * y) - (a + V * x) = V * (y - x) := by rw [Nat.mul_sub]; omega
    rw [e] at hd
    have hd2 := (Nat.Coprime.symm hc).dvd_of_dvd_mul_left hd
    have := Nat.eq_zero_of_dvd_of_lt hd2 (by omega)
    omega
  rcases Nat.le_total Q Q' with h1 | h1
  · exact key _ _ h1 hQ' h
  · exact (key _ _ h1 hQ h.symm).symm

/-- What isPrepared tells. -/
theorem prep_num {V R P1 Q W E A c : Nat} (hR : R < V) (hQ : Q < P1) (hE : V * P1 ≤ E) (hv : A + E * c = R + V * Q) (hA : A % P1 = 0) (hc : Nat.Coprime V P1) (hW : W % P1 = 0) (hWV : W / V < P1) : A = W ↔ R = W % V := by
  have hlt : R + V * Q < E := by
    have : V * (Q + 1) ≤ V * P1 := Nat.mul_le_mul_left _ hQ
    grind
  have hc0 : c = 0 := by
    rcases Nat.eq_zero_or_pos c with h | h
    · exact h
    · have : E * 1 ≤ E * c := Nat.mul_le_mul_left _ h
      omega
  subst hc0
  rw [Nat.mul_zero, Nat.add_zero] at hv
  constructor
  · intro h
    rw [← h, hv, Nat.add_mul_mod_self_left, Nat.mod_eq_of_lt hR]
  · intro h
    have hW2 : R + V * (W / V) = W := by rw [h]; exact Nat.mod_add_div _ _
    have := uniq_mod (a := R) hc hQ hWV (by rw [hW2, ← hv, hA, hW])
    rw [hv, this, hW2]

theorem cancel_mod {P V Y Z : Nat} (hc : Nat.Coprime P V) (h : P * Y % V = P * Z % V) : Y % V = Z % V := by
  have key : ∀ x y : Nat, x ≤ y → P * x % V = P * y % V → x % V = y % V := by
    intro x y hxy he
    have hd : V ∣ P * y - P * x := Nat.dvd_of_mod_eq_zero (Nat.sub_mod_eq_zero_of_mod_eq he.symm)
    rw [← Nat.mul_sub] at hd
    obtain ⟨t, ht⟩ := (Nat.Coprime.symm hc).dvd_of_dvd_mul_left hd
    have : y = x + V * t := by omega
    rw [this, Nat.add_mul_mod_self_left]
  rcases Nat.le_total Y Z with h1 | h1
  · exact key _ _ h1 h
  · exact (key _ _ h1 h.symm).symm

theorem sq_num {P V Y e : Nat} (hc : Nat.Coprime P V) (hY : Y < V) (h : P * Y % V = (P * 2 ^ e % V) * (P * 2 ^ e % V) % V) : Y = P * 2 ^ (2 * e) % V := by
  rw [← Nat.mod_eq_of_lt hY]
  apply cancel_mod hc
  rw [h, ← Nat.mul_mod, Nat.two_mul, Nat.pow_add]
  congr 1
  grind

theorem dbl_num {V a : Nat} : 2 * (a % V) % V = 2 * a % V := by
  rw [Nat.mul_mod, Nat.mod_mod, ← Nat.mul_mod]

theorem odd_coprime {V k : Nat} (h : V % 2 = 1) : Nat.Coprime V (2 ^ k) := by
  apply Nat.Coprime.pow_right
  rw [Nat.Coprime, Nat.gcd_comm, Nat.gcd_rec, h]
  rfl

/-- One row of a reduction: what the list is then. -/
theorem red_step {X V n N k Q q R S z c c2 K : Nat} {zs : List Nat} (hzd : Digs 18446744073709551616 zs) (hzl : zs.length = N) (hkn : k + n < N) (hv : val 18446744073709551616 zs + 18446744073709551616 ^ (k + n) * c = X + V * Q) (hQ : Q < 18446744073709551616 ^ k) (hq : q = zs.getD k 0 * K % 18446744073709551616)
    (hS : S = val 18446744073709551616 ((zs.drop k).take n) + V * q) (hR : R = S / 18446744073709551616 ^ n) (hz : z + 18446744073709551616 * c2 = zs.getD (k + n) 0 + R + c) (hzb : z < 18446744073709551616) (hlow : (V * K + 1) % 18446744073709551616 = 0 → 0 < n → val 18446744073709551616 zs % 18446744073709551616 ^ k = 0) :
    val 18446744073709551616 (zs.take k ++ ((digs 18446744073709551616 S n ++ [z]) ++ zs.drop (k + (n + 1)))) + 18446744073709551616 ^ (k + 1 + n) * c2 = X + V * (Q + 18446744073709551616 ^ k * q) ∧ Q + 18446744073709551616 ^ k * q < 18446744073709551616 ^ (k + 1) ∧ ((V * K + 1) % 18446744073709551616 = 0 → 0 < n → val 18446744073709551616 (zs.take k ++ ((digs 18446744073709551616 S n ++ [z]) ++ zs.drop (k + (n + 1)))) % 18446744073709551616 ^ (k + 1) = 0) ∧
    Digs 18446744073709551616 (zs.take k ++ ((digs 18446744073709551616 S n ++ [z]) ++ zs.drop (k + (n + 1)))) ∧ (zs.take k ++ ((digs 18446744073709551616 S n ++ [z]) ++ zs.drop (k + (n + 1)))).length = N := by
  have hB : 0 < 18446744073709551616 := by omega
  have hl1 : (digs 18446744073709551616 S n ++ [z]).length = n + 1 := by simp [digs_length]
  have hqb : q < 18446744073709551616 := by rw [hq]; exact Nat.mod_lt _ hB
  have hval := val_putB (j := k) (k := n + 1) hB hzd hl1 (by omega)
  rw [val_snoc, digs_length, val_digs] at hval
  have hpart := val_part hB hzd k n
  have hdn : zs.getD (k + n) 0 = val 18446744073709551616 zs / 18446744073709551616 ^ (k + n) % 18446744073709551616 := by rw [← dig_val hB hzd (k + n)]; rfl
  have hdk : zs.getD k 0 = val 18446744073709551616 zs / 18446744073709551616 ^ k % 18446744073709551616 := by rw [← dig_val hB hzd k]; rfl
  have hA : val 18446744073709551616 zs = val 18446744073709551616 zs % 18446744073709551616 ^ k + 18446744073709551616 ^ k * (val 18446744073709551616 zs / 18446744073709551616 ^ k % 18446744073709551616 ^ n + 18446744073709551616 ^ n * (val 18446744073709551616 zs / 18446744073709551616 ^ (k + n) % 18446744073709551616 + 18446744073709551616 * (val 18446744073709551616 zs / 18446744073709551616 ^ (k + (n + 1))))) := by
    have e1 : val 18446744073709551616 zs / 18446744073709551616 ^ (k + n) = val 18446744073709551616 zs / 18446744073709551616 ^ k / 18446744073709551616 ^ n := by rw [Nat.pow_add, Nat.div_div_eq_div_mul]
    have e2 : val 18446744073709551616 zs / 18446744073709551616 ^ (k + (n + 1)) = val 18446744073709551616 zs / 18446744073709551616 ^ k / 18446744073709551616 ^ n / 18446744073709551616 := by rw [← Nat.add_assoc, Nat.pow_succ, Nat.pow_add, Nat.div_div_eq_div_mul, Nat.div_div_eq_div_mul, Nat.mul_assoc]
    rw [e1, e2, Nat.mod_add_div, Nat.mod_add_div, Nat.mod_add_div]
  have hS2 : val 18446744073709551616 zs / 18446744073709551616 ^ k % 18446744073709551616 ^ n + V * q = S % 18446744073709551616 ^ n + 18446744073709551616 ^ n * R := by rw [← hpart, ← hS, hR, Nat.mod_add_div]
  rw [Nat.pow_add] at hv
  rw [hdn] at hz
  have key := red_num hA hv hS2 hz
  refine ⟨?_, ?_, ?_, digs_take_put hzd ((digs_digs hB _ _).append (Digs.one hzb)), len_put hzl hl1 (by omega)⟩
  · have e4 : 18446744073709551616 ^ (k + 1 + n) = 18446744073709551616 ^ k * 18446744073709551616 ^ n * 18446744073709551616 := by rw [show k + 1 + n = k + n + 1 by omega, Nat.pow_succ, Nat.pow_add]
    have e5 : 18446744073709551616 ^ (n + 1) = 18446744073709551616 ^ n * 18446744073709551616 := Nat.pow_succ _ _
    rw [hval, e4, e5]
    exact key
  · rw [Nat.pow_succ]
    exact q_room hQ hqb
  · intro hg hn
    have e6 : 18446744073709551616 ^ (k + 1) = 18446744073709551616 ^ k * 18446744073709551616 := Nat.pow_succ _ _
    rw [hval, hlow hg hn, Nat.zero_add, e6, Nat.mul_mod_mul_left]
    obtain ⟨n', rfl⟩ : ∃ n', n = n' + 1 := ⟨n - 1, by omega⟩
    have h0 : S % 18446744073709551616 = 0 := by
      rw [hS, hpart]
      refine low_zero hg (d := zs.getD k 0) hq ?_
      rw [Nat.pow_succ, Nat.mod_mul_left_mod, ← hdk]
    have h1 : (S % 18446744073709551616 ^ (n' + 1) + 18446744073709551616 ^ (n' + 1) * z + 18446744073709551616 ^ (n' + 1 + 1) * (val 18446744073709551616 zs / 18446744073709551616 ^ (k + (n' + 1 + 1)))) % 18446744073709551616 = 0 := by
      rw [Nat.pow_succ 18446744073709551616 (n' + 1), Nat.pow_succ 18446744073709551616 n']
      have e3 : S % (18446744073709551616 ^ n' * 18446744073709551616) + 18446744073709551616 ^ n' * 18446744073709551616 * z + 18446744073709551616 ^ n' * 18446744073709551616 * 18446744073709551616 * (val 18446744073709551616 zs / 18446744073709551616 ^ (k + (n' + 1 + 1))) = S % (18446744073709551616 ^ n' * 18446744073709551616) + 18446744073709551616 * (18446744073709551616 ^ n' * z + 18446744073709551616 ^ n' * 18446744073709551616 * (val 18446744073709551616 zs / 18446744073709551616 ^ (k + (n' + 1 + 1)))) := by
        generalize 18446744073709551616 ^ n' = p
        generalize val 18446744073709551616 zs / 18446744073709551616 ^ (k + (n' + 1 + 1)) = r
        generalize S % (p * 18446744073709551616) = s
        grind
      rw [e3, Nat.add_mul_mod_self_left, Nat.mod_mul_left_mod, h0]
    rw [h1, Nat.mul_zero]

set_option maxRecDepth 20000 in
set_option maxHeartbeats 2000000 in
/-- addRow. -/
theorem mAddRow (g base N cap j n c W : Nat) (zs ys : List Nat) (v : Value) (w : World) (ho : OwnN .u64 24 w base (.slice (some ⟨g, 0, none⟩) N cap) N zs) (hzl : zs.length = N) (hzd : Digs 18446744073709551616 zs) (hj : j + n ≤ N)
    (hv : Row .u64 w v ys) (hyl : ys.length = n) (hyd : Digs 18446744073709551616 ys) (hap : ys ≠ [] → ∀ b, v.ownBlock = some b → b ≠ g) (hW : W < 18446744073709551616) (R S : Nat) (hS : S = val 18446744073709551616 ((zs.drop j).take n) + val 18446744073709551616 ys * W) (hR : R = S / 18446744073709551616 ^ n) :
    Calls Tryz.prog 118 #[.slice (some ⟨g, j, none⟩) n c, v, .int .u64 (W : Nat)] w fun e w' => e = .returned (.int .u64 (R : Nat)) ∧
      OwnN .u64 24 w' base (.slice (some ⟨g, 0, none⟩) N cap) N (zs.take j ++ (digs 18446744073709551616 S n ++ zs.drop (j + n))) ∧ Kept (fun b => b = g) w w' := by
  have hX := part_lt (j := j) (n := n) hzd
  have hY : val 18446744073709551616 ys < 18446744073709551616 ^ n := by rw [← hyl]; exact val_lt (by omega) hyd
  have hdx : Hid (∀ k, k < n → dig 18446744073709551616 (val 18446744073709551616 ((zs.drop j).take n)) k = zs.getD (j + k) 0) := fun k hk => part_dig hzd hk
  have hdy : Hid (∀ k, dig 18446744073709551616 (val 18446744073709551616 ys) k = ys.getD k 0) := fun k => dig_val (by omega) hyd k
  have hzb : Hid (∀ k, zs.getD (j + k) 0 < 18446744073709551616) := fun k => hzd.getD (by omega) _
  have hyb : Hid (∀ k, ys.getD k 0 < 18446744073709551616) := fun k => hyd.getD (by omega) _
  have HRow : Hid (∀ W', Kept (fun b => b = g) w W' → Row .u64 W' v ys) := fun W' k => hv.kept' k hap
  generalize val 18446744073709551616 ((zs.drop j).take n) = X at *
  generalize val 18446744073709551616 ys = Y at *
  have HX := toHid hX
  have HY := toHid hY
  have HS := toHid hS
  have HR := toHid hR
  have HZL := toHid hzl
  have HO := toHid ho
  have hlt := owns_lt ho
  obtain ⟨bo, m, bc, rfl, hM, _, _, _, _⟩ := hv.open
  obtain rfl : m = n := hM.out.symm.trans hyl
  clear ho hzl hX hY hS hR hyl hyd hzd hap hv hM
  go_enter Tryz.func118, Tryz.ntmps118
  go_wp2_with fail
  go_loopw [7, 11] (fun ab i wr => ∃ (k c' : Nat) (os : List Nat), k ≤ m ∧ c' < 18446744073709551616 ∧ i = .int .i64 (k : Int) ∧ ab = .int .u64 (c' : Int) ∧ Hid (os.length = k) ∧ Digs 18446744073709551616 os ∧ OwnN .u64 24 wr base (.slice (some ⟨g, 0, none⟩) N cap) N (zs.take j ++ (os ++ zs.drop (j + k))) ∧ Kept (fun b => b = g) w wr ∧
      Hid (val 18446744073709551616 os + 18446744073709551616 ^ k * c' = X % 18446744073709551616 ^ k + Y % 18446744073709551616 ^ k * W)) (fun _ i _ => m - (intOf i).toNat)
  case atStart => exact ⟨0, 0, [], Nat.zero_le _, by omega, rfl, rfl, rfl, Digs.nil _, by rw [Nat.add_zero, List.nil_append, List.take_append_drop]; exact HO.out, Kept.refl _ _, by unfold Hid; simp [val, Nat.mod_one]⟩
  case round =>
    obtain ⟨k, c', os, hk, hc, rfl, rfl, HL, hod, ho, hkp, HV⟩ := hrel
    by_cases hkn : k < m
    · have hk0 : (0 : Int) ≤ (k : Int) := Int.natCast_nonneg _
      have hk1 : (k : Int) < (m : Int) := by omega
      have hc1 := part_cell ho HZL.out HL.out (by omega)
      obtain ⟨_, _, _, e2, _, _, _, _, hnum⟩ := (HRow.out wr hkp).open
      cases e2
      obtain ⟨b2, off2, rfl, hc2⟩ := hnum k hkn
      have hf := World.ownsRow.frozenAt ho (j + k)
      have hx := hzb.out k
      have hy := hyb.out k
      have HS2 : Hid (∀ z c2, z + 18446744073709551616 * c2 = ys.getD k 0 * W + zs.getD (j + k) 0 + c' → val 18446744073709551616 (os ++ [z]) + 18446744073709551616 ^ (k + 1) * c2 = X % 18446744073709551616 ^ (k + 1) + Y % 18446744073709551616 ^ (k + 1) * W) := fun z c2 h => mulT_step HL.out HV.out (by rw [hdx.out k hkn, hdy.out k]; exact h)
      have HST : Hid (∀ u : Nat, OwnN .u64 24 (wr.setCell ⟨g, j + k, none⟩ (.int .u64 (u : Int))) base (.slice (some ⟨g, 0, none⟩) N cap) N (zs.take j ++ ((os ++ [u]) ++ zs.drop (j + (k + 1))))) := fun u => by
        have := (World.ownsRow.stored ho (j + k) (.int .u64 (u : Int))).1
        unfold OwnN
        rw [← part_set zs os j k u HL.out (by have := HZL.out; omega), List.map_set]
        exact this
      clear HV HRow hnum hdx hdy hzb hyb HO HX HY HS HR
      generalize zs.getD (j + k) 0 = x at *
      generalize ys.getD k 0 = y at *
      go_wp2_with fail
      go_region_with (go_at_call 129; refine (wMulN y W x c' hy hW hx hc _).mono ?_; rintro e w7 ⟨h2, l2, rfl, hh2, hl2, hzz, rfl⟩)
      all_goals
        go_wp2_with fail
        go_roundw
        case rel => exact ⟨k + 1, h2, os ++ [l2], by omega, hh2, by go_num, rfl, by unfold Hid; rw [List.length_append, HL.out]; rfl, hod.append (Digs.one hl2), HST.out l2, (hkp.setCell _ (fun _ => rfl) _).drew, HS2.out l2 h2 hzz⟩
        case measure => simp [intOf]; omega
    · have hk1 : ¬ (k : Int) < (m : Int) := by omega
      obtain rfl : k = m := by omega
      have e := HV.out
      rw [Nat.mod_eq_of_lt HX.out, Nat.mod_eq_of_lt HY.out, ← HS.out] at e
      obtain ⟨e1, e2⟩ := row_end (by omega) HL.out hod e
      have E1 := toHid e1
      have E2 := toHid (e2.trans HR.out.symm)
      clear e e1 e2 HV HRow hdx hdy hzb hyb HO HX HY HS HR
      go_wp2_with fail
      go_ret
      rw [← E1.out, ← E2.out]
      exact ⟨rfl, ho, hkp⟩

end Go.Proofs.YtldbfcifoijliaaGreatDoor


/- Package mont: addRows: so many rows of a modulus are added. -/
namespace Go.Proofs.YtldbfcifoijliaaGreatDoor
open Go.RowKit

/-- What addRows leaves. -/
def Rowed (a : World) (o0 : Tr) (m0 : List Ev) (g base N cap n many K X V c : Nat) (w' : World) : Prop :=
  c ≤ 1 ∧ ∃ (zs' : List Nat) (Q : Nat) (o' : Tr), OwnN .u64 24 w' base (.slice (some ⟨g, 0, none⟩) N cap) N zs' ∧ zs'.length = N ∧ Digs 18446744073709551616 zs' ∧
    val 18446744073709551616 zs' + 18446744073709551616 ^ N * c = X + V * Q ∧ Q < 18446744073709551616 ^ many ∧ ((V * K + 1) % 18446744073709551616 = 0 → 0 < n → val 18446744073709551616 zs' % 18446744073709551616 ^ many = 0) ∧ Did a o0 (m0 ++ List.replicate many (1, (n : Int), 0)) w' o'

set_option maxRecDepth 20000 in
set_option maxHeartbeats 2000000 in
/-- addRows. -/
theorem mAddRows (a : World) (o0 o : Tr) (m0 : List Ev) (g base N cap n many K mcap rl rcap : Nat) (ao bo : Option Addr) (zs ms : List Nat) (w : World) (hD : Did a o0 m0 w o) (ht : TrRoom a o0 (m0.length + many)) (hg : a.heap.size ≤ g)
    (ho : OwnN .u64 24 w base (.slice (some ⟨g, 0, none⟩) N cap) N zs) (hzl : zs.length = N) (hzd : Digs 18446744073709551616 zs) (hN : N = n + many) (hNb : N ≤ 100000) (hm : RowT a o0 (.slice ao n mcap) ms) (hmd : Digs 18446744073709551616 ms) (b0 : Nat) (ob : Array Value) (tb : TypeId) (hb0 : w.heap[b0]? = some (.cells ob tb (0, 0))) (ht1 : tb ≠ 152) (ht2 : tb ≠ 148) (hbg : b0 ≠ g) :
    Calls Tryz.prog 102 #[trPtr o, .agg #[.slice ao n mcap, .int .u64 (K : Nat), .slice bo rl rcap], .slice (some ⟨g, 0, none⟩) N cap, .int .i64 (many : Nat)] w fun e w' =>
      ∃ c : Nat, e = .returned (.int .u64 (c : Nat)) ∧ Rowed a o0 m0 g base N cap n many K (val 18446744073709551616 zs) (val 18446744073709551616 ms) c w' ∧ w'.heap[b0]? = some (.cells ob tb (0, 0)) := by
  have hX := toHid (rfl : val 18446744073709551616 zs = val 18446744073709551616 zs)
  obtain ⟨_, _, _, e1, hLx, _, _, _, _⟩ := hm.1.open
  cases e1
  have HL := toHid hLx.out
  have HM := toHid hm
  have HMD := toHid hmd
  have HT := toHid ht
  have HD := toHid hD
  have HN := toHid hN
  have HG := toHid hg
  have HV : Hid (∀ V, V = val 18446744073709551616 ms → val 18446744073709551616 zs + 18446744073709551616 ^ (0 + n) * 0 = val 18446744073709551616 zs + V * 0) := fun V _ => by simp
  have hgw : g < w.heap.size := owns_lt ho
  obtain ⟨_, _, _, e1, _, hNc, _, _, _⟩ := (Row.of_own (base := base) (e := 24) (by rw [hzl]; exact ho) : Row .u64 w (.slice (some ⟨g, 0, none⟩) N cap) zs).open
  cases e1
  obtain ⟨tp, htp⟩ : ∃ tp, tp = trPtr o := ⟨_, rfl⟩
  rw [← htp]
  have HTP := toHid (htp.trans hD.ptr)
  obtain ⟨X, hXX⟩ : ∃ X, X = val 18446744073709551616 zs := ⟨_, rfl⟩
  obtain ⟨V, hVV⟩ : ∃ V, V = val 18446744073709551616 ms := ⟨_, rfl⟩
  rw [← hXX, ← hVV]
  have HVV := toHid hVV
  have k0 : Kept Nought w (w.alloc (.cells #[.slice ao n mcap, .int .u64 (K : Nat), .slice bo rl rcap] 52)) := (Kept.refl Nought w).alloc _
  have hx0 : (w.alloc (.cells #[.slice ao n mcap, .int .u64 (K : Nat), .slice bo rl rcap] 52)).heap[w.heap.size]? = some (.cells #[.slice ao n mcap, .int .u64 (K : Nat), .slice bo rl rcap] 52 (0, 0)) := heap_alloc_new _ _
  have HK0 := toHid (hD.grew k0)
  have HO := toHid (k0.own ho (fun _ _ f => f))
  have HX0 := toHid hx0
  have HB0 := toHid (heapAt_alloc hb0 : (w.alloc (.cells #[.slice ao n mcap, .int .u64 (K : Nat), .slice bo rl rcap] 52)).heap[b0]? = some (.cells ob tb (0, 0)))
  have HZ := toHid (show zs.length = N ∧ Digs 18446744073709551616 zs ∧ X = val 18446744073709551616 zs from ⟨hzl, hzd, hXX⟩)
  clear hm hmd ht hD hN hLx htp hVV hXX hx0 ho hzl hzd hX HV hg k0 hb0
  go_enter Tryz.func102, Tryz.ntmps102
  obtain ⟨p0, p1, p2⟩ := cells3 HX0.out
  go_wp2_with fail
  go_loopw [10, 17] (fun ov i wr => ∃ (k c Q : Nat) (os : List Nat) (o1 : Tr), k ≤ many ∧ c ≤ 1 ∧ i = .int .i64 (k : Int) ∧ ov = .int .u64 (c : Int) ∧ Hid (os.length = N) ∧ Hid (Digs 18446744073709551616 os) ∧ OwnN .u64 24 wr base (.slice (some ⟨g, 0, none⟩) N cap) N os ∧ Hid (val 18446744073709551616 os + 18446744073709551616 ^ (k + n) * c = X + V * Q) ∧ Hid (Q < 18446744073709551616 ^ k) ∧ Hid ((V * K + 1) % 18446744073709551616 = 0 → 0 < n → val 18446744073709551616 os % 18446744073709551616 ^ k = 0) ∧
      wr.heap[w.heap.size]? = some (.cells #[.slice ao n mcap, .int .u64 (K : Nat), .slice bo rl rcap] 52 (0, 0)) ∧ Hid (wr.heap[b0]? = some (.cells ob tb (0, 0))) ∧ Hid (Did a o0 (m0 ++ List.replicate k (1, (n : Int), 0)) wr o1)) (fun _ i _ => many - (intOf i).toNat)
  case atStart =>
    obtain ⟨z1, z2, z3⟩ := HZ.out
    exact ⟨0, 0, 0, zs, o, Nat.zero_le _, by omega, rfl, rfl, z1, z2, HO.out, by unfold Hid; rw [← z3]; simp, by unfold Hid; simp, fun _ _ => by simp [Nat.mod_one], HX0.out, HB0.out, by unfold Hid; rw [List.replicate_zero, List.append_nil]; exact HK0.out⟩
  case round =>
    obtain ⟨k, c, Q, os, o1, hk, hc, rfl, rfl, HL2, HD2, ho, HV2, HQ, HLow, hx, HBW, HDD⟩ := hrel
    clear p0 p1 p2 HX0 HO HK0 HZ HB0
    by_cases hkn : k < many
    · have hk0 : (0 : Int) ≤ (k : Int) := Int.natCast_nonneg _
      have hk1 : (k : Int) < (many : Int) := by omega
      have hroom : TrRoom wr o1 (many - k) := HDD.out.room (by rw [List.length_append, List.length_replicate, show m0.length + k + (many - k) = m0.length + many by omega]; exact HT.out)
      have hS := tSpanDid o1 (n : Int) wr hroom.1
      rw [HDD.out.ptr, ← HTP.out] at hS
      go_wp2_with fail
      refine hS.mono ?_
      rintro e w2 ⟨rfl, o2, d2⟩
      have ho2 := d2.kept.own ho (own_apart ho hroom.1)
      have hx2 := (d2.kept.block _ (lt_of_block hx) (cells_apart hx hroom.1 (by decide) (by decide))).trans hx
      have HB2 := toHid ((d2.kept.block _ (lt_of_block HBW.out) (cells_apart HBW.out hroom.1 ht1 ht2)).trans HBW.out)
      have HDD2 := toHid (HDD.out.trans d2)
      have hm2 := HM.out.did HDD2.out
      have hti2 := d2.room (k := 0) (hroom.less (by simp; omega))
      have hF2 : ¬ trFoot o2 g := own_apart ho2 hti2.1 _ rfl
      clear hS ho d2 hroom HDD hx HBW
      obtain ⟨p0, p1, p2⟩ := cells3 hx2
      obtain ⟨q, hq⟩ : ∃ q, q = os.getD k 0 * K % 18446744073709551616 := ⟨_, rfl⟩
      obtain ⟨S, hS⟩ : ∃ S, S = val 18446744073709551616 ((os.drop k).take n) + V * q := ⟨_, rfl⟩
      obtain ⟨R, hR⟩ : ∃ R, R = S / 18446744073709551616 ^ n := ⟨_, rfl⟩
      have hqb : q < 18446744073709551616 := by rw [hq]; exact Nat.mod_lt _ (by omega)
      have hkN : k + n < N := by have := HN.out; omega
      have hkC : k < cap := by omega
      have hkE : ¬ cap = k := by omega
      have hxk : os.getD k 0 < 18446744073709551616 := HD2.out.getD (by omega) _
      have hxn : os.getD (k + n) 0 < 18446744073709551616 := HD2.out.getD (by omega) _
      have hRb : R < 18446744073709551616 := by
        rw [hR, Nat.div_lt_iff_lt_mul (Nat.pow_pos (by omega)), hS]
        have h1 := part_lt (j := k) (n := n) HD2.out
        have h2 : V < 18446744073709551616 ^ n := by rw [HVV.out, ← HL.out]; exact val_lt (by omega) HMD.out
        have h3 : V * q ≤ 18446744073709551616 ^ n * q := Nat.mul_le_mul_right _ (Nat.le_of_lt h2)
        have h4 : 18446744073709551616 ^ n * (q + 1) ≤ 18446744073709551616 ^ n * 18446744073709551616 := Nat.mul_le_mul_left _ hqb
        rw [Nat.mul_add, Nat.mul_one] at h4
        rw [Nat.mul_comm 18446744073709551616]
        omega
      have hck : w2.cell? ⟨g, k, none⟩ = some (.int .u64 (os.getD k 0 : Nat)) := by
        have hlk : k < os.length := by rw [HL2.out]; omega
        rw [World.ownsRow.cellAt ho2 k (by omega), List.getElem?_map, List.getD_eq_getElem?_getD, List.getElem?_eq_getElem hlk]
        rfl
      have hqI : ((os.getD k 0 : Nat) : Int) * (K : Int) % 18446744073709551616 = (q : Int) := by rw [hq]; omega
      have hap := own_apart_row (w' := w2) (g := g) HM.out.1 HG.out HDD2.out.size
      have HA := fun W' (kk : Kept Nought w2 W') => mAddRow g base N cap k n (cap - k) q os ms (.slice ao n mcap) W' (kk.own ho2 (fun _ _ f => f)) HL2.out HD2.out (by omega) (hm2.1.grew kk) HL.out HMD.out hap hqb R S (by rw [← HVV.out]; exact hS) hR
      have HST : Hid (∀ z c2, z + 18446744073709551616 * c2 = os.getD (k + n) 0 + R + c → z < 18446744073709551616 → val 18446744073709551616 (os.take k ++ ((digs 18446744073709551616 S n ++ [z]) ++ os.drop (k + (n + 1)))) + 18446744073709551616 ^ (k + 1 + n) * c2 = X + V * (Q + 18446744073709551616 ^ k * q) ∧ Q + 18446744073709551616 ^ k * q < 18446744073709551616 ^ (k + 1) ∧ ((V * K + 1) % 18446744073709551616 = 0 → 0 < n → val 18446744073709551616 (os.take k ++ ((digs 18446744073709551616 S n ++ [z]) ++ os.drop (k + (n + 1)))) % 18446744073709551616 ^ (k + 1) = 0) ∧ Digs 18446744073709551616 (os.take k ++ ((digs 18446744073709551616 S n ++ [z]) ++ os.drop (k + (n + 1)))) ∧ (os.take k ++ ((digs 18446744073709551616 S n ++ [z]) ++ os.drop (k + (n + 1)))).length = N) := fun z c2 hz hzb => red_step HD2.out HL2.out hkN HV2.out HQ.out hq hS hR hz hzb HLow.out
      have hSto : Hid (∀ W' z, OwnN .u64 24 W' base (.slice (some ⟨g, 0, none⟩) N cap) N (os.take k ++ (digs 18446744073709551616 S n ++ os.drop (k + n))) → OwnN .u64 24 (W'.setCell ⟨g, k + n, none⟩ (.int .u64 ((z : Nat) : Int))) base (.slice (some ⟨g, 0, none⟩) N cap) N (os.take k ++ ((digs 18446744073709551616 S n ++ [z]) ++ os.drop (k + (n + 1))))) := fun W' z h => by
        have := (World.ownsRow.stored h (k + n) (.int .u64 (z : Int))).1
        unfold OwnN
        rw [← part_set os _ k n z (digs_length _ _ _) (by have := HL2.out; omega), List.map_set]
        exact this
      have hCell : ∀ W', OwnN .u64 24 W' base (.slice (some ⟨g, 0, none⟩) N cap) N (os.take k ++ (digs 18446744073709551616 S n ++ os.drop (k + n))) → W'.cell? ⟨g, k + n, none⟩ = some (.int .u64 (os.getD (k + n) 0 : Nat)) := fun W' h => part_cell h HL2.out (digs_length _ _ _) hkN
      have hFr : ∀ W', OwnN .u64 24 W' base (.slice (some ⟨g, 0, none⟩) N cap) N (os.take k ++ (digs 18446744073709551616 S n ++ os.drop (k + n))) → W'.frozen? ⟨g, k + n, none⟩ = false := fun W' h => World.ownsRow.frozenAt h (k + n)
      have hgb : w.heap.size ≠ g := by omega
      have HX2 := toHid hx2
      have hK3 : ∀ W', Kept (fun b => b = g) w2.drew W' → W'.cell? ⟨w.heap.size, 0, none⟩ = some (.slice ao n mcap) ∧ W'.cell? ⟨w.heap.size, 1, none⟩ = some (.int .u64 (K : Int)) := fun W' k => by
        obtain ⟨a0, a1, _⟩ := cells3 ((k.block _ (lt_of_block HX2.out) hgb).trans HX2.out)
        exact ⟨a0, a1⟩
      clear hq hS hR HV2 HQ HLow hm2 ho2 hap hx2 hti2
      generalize os.getD k 0 = x at *
      generalize os.getD (k + n) 0 = y at *
      generalize os.take k ++ (digs 18446744073709551616 S n ++ os.drop (k + n)) = os' at *
      have gkM : (k : Int) + (n : Int) < (N : Int) := by omega
      have gkN : (k : Int) < (N : Int) := by omega
      have gkC : (k : Int) + (n : Int) ≤ (cap : Int) := by omega
      have gkD : (k : Int) ≤ (k : Int) + (n : Int) := by omega
      have gkM0 : (0 : Int) ≤ (k : Int) + (n : Int) := by omega
      have gkM1 : ((k : Int) + (n : Int)).toNat = k + n := by omega
      have gkw : IntKind.i64.wrap ((k : Int) + (n : Int)) = (k : Int) + (n : Int) := by rw [IntKind.wrap_i64]; omega
      have gqw : IntKind.u64.wrap ((x : Int) * (K : Int)) = (q : Int) := by rw [IntKind.wrap_u64]; exact hqI
      go_wp2_with fail
      have JA := toHid HA
      have JC := toHid hCell
      have JF := toHid hFr
      have JK := toHid hK3
      clear HA hCell hFr hK3
      go_region_with (go_at_call 118; refine (JA.out _ ((Kept.refl _ _).drew)).mono ?_; rintro e w3 ⟨rfl, ho3, k3⟩; have hc3 := JC.out _ ho3; have hf3 := JF.out _ ho3)
      all_goals
        go_wp2_with fail
        refine (wAddN y R c hxn hRb hc _).mono ?_
        rintro e w7 ⟨z, c2, rfl, hzb, hc2, hzz, rfl⟩
        obtain ⟨s1, s2, s3, s4, s5⟩ := HST.out z c2 hzz hzb
        go_wp2_with fail
        go_roundw
        case rel =>
          have k4 : Kept (fun b => b = g) w2 (w7.setCell ⟨g, k + n, none⟩ (.int .u64 (z : Int))) := (((Kept.refl _ _).drew).trans k3).setCell _ (fun _ => rfl) _
          exact ⟨k + 1, c2, _, _, o2, by omega, hc2, by go_num, rfl, s5, s4, hSto.out _ z ho3, s1, s2, s3, (k4.block _ (lt_of_block HX2.out) hgb).trans HX2.out, (k4.block _ (lt_of_block HB2.out) hbg).trans HB2.out, by unfold Hid; rw [List.replicate_succ', ← List.append_assoc]; exact HDD2.out.wroteNew k4 HG.out hF2⟩
        case measure => simp [intOf]; omega
    · have hk1 : ¬ (k : Int) < (many : Int) := by omega
      obtain rfl : k = many := by omega
      have e := HV2.out
      rw [show k + n = N by rw [HN.out, Nat.add_comm]] at e
      have HE := toHid e
      clear e HV2
      go_wp2_with fail
      go_ret
      exact ⟨c, rfl, ⟨hc, os, Q, o1, ho, HL2.out, HD2.out, HE.out, HQ.out, HLow.out, HDD.out⟩, HBW.out⟩

end Go.Proofs.YtldbfcifoijliaaGreatDoor

