/- Put together of: Quo1. -/
import Derived.Test.YtiljkgoafknefaaGreatPk9
import Derived.Test.YtiljkgoafknefaaGreatPk10
import Derived.Test.YtiljkgoafknefaaGreatPk13
import Derived.Test.YtiljkgoafknefaaGreatPk16
import Derived.Test.YtiljkgoafknefaaGreatPk17

/- Melted of: QuA QuB QuC QuD QuE QuF DivB. -/

/- Package product: divideByOne, shiftedUp. -/
namespace Go.Proofs.YtiljkgoafknefaaGreat
open Go.RowKit

theorem div_stepB {B : Nat} {a qs : List Nat} {i r d : Nat} (hi : i < a.length) (h : d * val B qs + r = val B (a.drop (i + 1))) :
    d * val B ((r * B + a.getD i 0) / d :: qs) + (r * B + a.getD i 0) % d = val B (a.drop i) := by
  rw [drop_consB hi, ← h]
  simp only [val]
  generalize a.getD i 0 = x
  have e := Nat.div_add_mod (r * B + x) d
  rw [Nat.mul_add, Nat.mul_left_comm d B, Nat.mul_add, Nat.mul_comm B r]
  omega

theorem set_front {zs qs : List Nat} {j q : Nat} (h : j < zs.length) : (zs.take (j + 1) ++ qs).set j q = zs.take j ++ q :: qs := by
  rw [List.set_append_left _ _ (by rw [List.length_take]; omega), List.take_succ_eq_append_getElem h, List.set_append_right _ _ (by rw [List.length_take]; omega), List.length_take, show j - min j zs.length = 0 by omega]
  simp

set_option maxRecDepth 20000 in
set_option maxHeartbeats 2000000 in
/-- divideByOne. -/
theorem pOne (g base L cp : Nat) (ao : Option Addr) (cap : Nat) (xs zs : List Nat) (X D R : Nat) (hX : X = val 18446744073709551616 xs) (hR : R = X % D) (hD : D < 18446744073709551616) (hD0 : 0 < D) (w : World) (ho : OwnN .u64 24 w base (.slice (some ⟨g, 0, none⟩) L cp) L zs) (hzl : zs.length = L) (hu : Row .u64 w (.slice ao L cap) xs) (hdx : Digs 18446744073709551616 xs) (hap : xs ≠ [] → ∀ b, (Value.slice ao L cap).ownBlock = some b → b ≠ g) (hL : L ≤ 1000000) :
    Calls Tryz.prog 131 #[.slice (some ⟨g, 0, none⟩) L cp, .slice ao L cap, .int .u64 (D : Nat)] w fun e w' => e = .returned (.int .u64 (R : Nat)) ∧ OwnN .u64 24 w' base (.slice (some ⟨g, 0, none⟩) L cp) L (digs 18446744073709551616 (X / D) L) ∧ Kept (fun b => b = g) w w' := by
  obtain ⟨_, _, _, e1, hLx, _, _, _, _⟩ := hu.open
  cases e1
  have eL := toHid hLx.out
  have HU := toHid hu
  have hxb : Hid (∀ k, xs.getD k 0 < 18446744073709551616) := fun k => hdx.getD (by omega) _
  have HX := toHid hX
  have HR := toHid hR
  have HZL := toHid hzl
  have HO := toHid ho
  have HDX := toHid hdx
  clear hu hdx hLx hX hR hzl ho
  go_enter Tryz.func131, Tryz.ntmps131
  go_wp2_with fail
  go_loopw [7, 12] (fun ra i wr => ∃ (k r : Nat) (qs : List Nat), k ≤ L ∧ r < D ∧ i = .int .i64 (k : Int) ∧ ra = .int .u64 (r : Int) ∧ Hid (qs.length = k) ∧ Digs 18446744073709551616 qs ∧ OwnN .u64 24 wr base (.slice (some ⟨g, 0, none⟩) L cp) L (zs.take (L - k) ++ qs) ∧ Kept (fun b => b = g) w wr ∧ Hid (D * val 18446744073709551616 qs + r = val 18446744073709551616 (xs.drop (L - k)))) (fun _ i _ => L - (intOf i).toNat)
  case atStart => exact ⟨0, 0, [], Nat.zero_le _, hD0, rfl, rfl, rfl, Digs.nil _, by rw [Nat.sub_zero, List.append_nil, List.take_of_length_le (by rw [HZL.out]; exact Nat.le_refl _)]; exact HO.out, Kept.refl _ _, by unfold Hid; rw [Nat.sub_zero, List.drop_of_length_le (by rw [eL.out]; exact Nat.le_refl _)]; rfl⟩
  case round =>
    obtain ⟨k, r, qs, hk, hr, rfl, rfl, HL, hqd, ho, hkp, HV⟩ := hrel
    by_cases hkn : k < L
    · have hk0 : (0 : Int) ≤ (k : Int) := Int.natCast_nonneg _
      have hk1 : (k : Int) < (L : Int) := by omega
      obtain ⟨j, hj⟩ : ∃ j, j = L - 1 - k := ⟨_, rfl⟩
      have gj : (L : Int) - 1 - (k : Int) = (j : Int) := by omega
      have gj1 : (j : Int) < (L : Int) := by omega
      obtain ⟨_, _, _, e2, _, _, _, _, hnum⟩ := (HU.out.kept' hkp hap).open
      cases e2
      obtain ⟨b2, off2, rfl, hc2⟩ := hnum j (by omega)
      have hx := hxb.out j
      have hjx : j < xs.length := by rw [eL.out]; omega
      have hjz : j < zs.length := by rw [HZL.out]; omega
      have hLk : L - k = j + 1 := by omega
      have hLk2 : L - (k + 1) = j := by omega
      have hst := div_stepB (B := 18446744073709551616) (i := j) (r := r) (d := D) (qs := qs) hjx (by rw [← hLk]; exact HV.out)
      have hcell : wr.cell? ⟨g, j, none⟩ = some (.int .u64 (zs.getD j 0 : Nat)) := by
        rw [World.ownsRow.cellAt ho j (by omega), List.getElem?_map, List.getElem?_append_left (by rw [List.length_take]; omega), List.getElem?_take, if_pos (by omega), List.getD_eq_getElem?_getD, List.getElem?_eq_getElem hjz]
        rfl
      have hfz := World.ownsRow.frozenAt ho j
      have hDv := fun W => bDiv r (xs.getD j 0) D hx hD hr W
      have hqb : (r * 18446744073709551616 + xs.getD j 0) / D < 18446744073709551616 := quot_lt hx hr
      have hrb : (r * 18446744073709551616 + xs.getD j 0) % D < D := Nat.mod_lt _ hD0
      have hST : Hid (∀ z : Nat, OwnN .u64 24 (wr.setCell ⟨g, j, none⟩ (.int .u64 (z : Int))) base (.slice (some ⟨g, 0, none⟩) L cp) L (zs.take j ++ z :: qs)) := fun z => by
        have := (World.ownsRow.stored ho j (.int .u64 (z : Int))).1
        unfold OwnN
        rw [← set_front hjz, ← hLk, List.map_set]
        exact this
      have HST2 := toHid hst
      clear hst hnum hxb hj
      generalize (r * 18446744073709551616 + xs.getD j 0) / D = Q at *
      generalize (r * 18446744073709551616 + xs.getD j 0) % D = R2 at *
      generalize xs.getD j 0 = x at *
      generalize zs.getD j 0 = z0 at *
      have H1 := toHid hLk
      have H2 := toHid hLk2
      have HHO := toHid ho
      have HHK := toHid hkp
      clear hLk hLk2 ho hkp
      go_wp2_with fail
      refine (hDv _).mono ?_
      rintro e w7 ⟨rfl, m, rfl⟩
      go_wp2_with fail
      go_roundw
      case rel => exact ⟨k + 1, R2, Q :: qs, by omega, hrb, by go_num, rfl, by unfold Hid; rw [List.length_cons, HL.out], (fun d hd => by rcases List.mem_cons.1 hd with h | h; omega; exact hqd d h), by rw [H2.out]; exact hST.out Q, (HHK.out.setCell ⟨g, j, none⟩ (fun _ => rfl) _).drewN m, by unfold Hid; rw [H2.out]; exact HST2.out⟩
      case measure => simp [intOf]; omega
    · have hk1 : ¬ (k : Int) < (L : Int) := by omega
      obtain rfl : k = L := by omega
      have e := HV.out
      rw [Nat.sub_self, List.drop_zero, ← HX.out] at e
      rw [Nat.sub_self, List.take_zero, List.nil_append] at ho
      have e1 : val 18446744073709551616 qs = X / D := by rw [← e, Nat.mul_add_div hD0, Nat.div_eq_of_lt hr, Nat.add_zero]
      have e2 : r = R := by rw [HR.out, ← e, Nat.mul_add_mod, Nat.mod_eq_of_lt hr]
      have e3 : qs = digs 18446744073709551616 (X / D) k := digs_val (by omega) hqd HL.out (by rw [← e1, Nat.mod_eq_of_lt]; have := val_lt (by omega) hqd; rwa [HL.out] at this)
      have E2 := toHid e2
      have E3 := toHid e3
      clear hxb e e1 e2 e3 HV
      go_wp2_with fail
      go_ret
      rw [← E2.out, ← E3.out]
      exact ⟨rfl, ho, hkp⟩

end Go.Proofs.YtiljkgoafknefaaGreat

/- Package product: shiftedUp. -/
namespace Go.Proofs.YtiljkgoafknefaaGreat
open Go.RowKit

theorem shift_digit {x c s : Nat} (hs : s ≤ 63) (hx : x < 18446744073709551616) (hc : c < 2 ^ s) :
    bits .or .u64 (IntKind.u64.wrap ((x : Int) * 2 ^ s)) (c : Int) = (((x * 2 ^ s) % 18446744073709551616 + c : Nat) : Int) ∧ (x * 2 ^ s) % 18446744073709551616 + c < 18446744073709551616 ∧ (x * 2 ^ s) % 18446744073709551616 + c + 18446744073709551616 * (x / 2 ^ (64 - s)) = x * 2 ^ s + c ∧ x / 2 ^ (64 - s) < 2 ^ s := by
  have hp : (18446744073709551616 : Nat) = 2 ^ (64 - s) * 2 ^ s := by rw [← Nat.pow_add, show 64 - s + s = 64 by omega]
  have h1 : (x * 2 ^ s) % 18446744073709551616 = 2 ^ s * (x % 2 ^ (64 - s)) := by
    rw [hp, Nat.mul_mod_mul_right, Nat.mul_comm]
  have h2 : x * 2 ^ s / 18446744073709551616 = x / 2 ^ (64 - s) := by
    rw [hp, Nat.mul_div_mul_right _ _ (Nat.pow_pos (by omega))]
  have h3 : x % 2 ^ (64 - s) + 1 ≤ 2 ^ (64 - s) := Nat.mod_lt _ (Nat.pow_pos (by omega))
  have h4 : 2 ^ s * (x % 2 ^ (64 - s) + 1) ≤ 18446744073709551616 := by
    rw [hp, Nat.mul_comm (2 ^ (64 - s))]
    exact Nat.mul_le_mul_left _ h3
  rw [Nat.mul_add, Nat.mul_one] at h4
  have hsum : (x * 2 ^ s) % 18446744073709551616 + c < 18446744073709551616 := by rw [h1]; omega
  refine ⟨?_, hsum, ?_, ?_⟩
  · rw [show (x : Int) * 2 ^ s = ((x * 2 ^ s : Nat) : Int) by simp, IntKind.wrap_u64, show ((x * 2 ^ s : Nat) : Int) % 18446744073709551616 = (((x * 2 ^ s) % 18446744073709551616 : Nat) : Int) by omega, u64_or_nat _ _ (by omega) (by omega), h1, ← Nat.two_pow_add_eq_or_of_lt hc]
  · rw [← h2]
    generalize x * 2 ^ s = y
    omega
  · rw [Nat.div_lt_iff_lt_mul (Nat.pow_pos (by omega)), ← Nat.pow_add, show s + (64 - s) = 64 by omega]
    exact hx

set_option maxRecDepth 20000 in
set_option maxHeartbeats 2000000 in
/-- shiftedUp. -/
theorem pShift (ao : Option Addr) (L cap : Nat) (xs : List Nat) (X s n : Nat) (hX : X = val 18446744073709551616 xs) (hs : s ≤ 63) (w : World) (hu : Row .u64 w (.slice ao L cap) xs) (hdx : Digs 18446744073709551616 xs) (hn : n ≤ 1000000) (hLn : L ≤ n) :
    Calls Tryz.prog 133 #[.slice ao L cap, .int .i64 (s : Nat), .int .i64 (n : Nat)] w fun e w' => e = .returned (.slice (some ⟨w.heap.size, 0, none⟩) n n) ∧ OwnN .u64 24 w' w.heap.size (.slice (some ⟨w.heap.size, 0, none⟩) n n) n (digs 18446744073709551616 (X * 2 ^ s) n) ∧ Kept Nought w w' := by
  obtain ⟨i0, hi0, hz0, hz1, hz2⟩ := info_parts Tryz.info24
  obtain ⟨_, _, _, e1, hLx, _, _, _, _⟩ := hu.open
  cases e1
  have hXb : Hid (X < 18446744073709551616 ^ n) := by unfold Hid; rw [hX]; exact val_lt_le hdx (by rw [hLx.out]; exact hLn)
  have hdig : Hid (∀ k, dig 18446744073709551616 X k = xs.getD k 0) := fun k => by rw [hX]; exact dig_val (by omega) hdx k
  have hxb : Hid (∀ k, xs.getD k 0 < 18446744073709551616) := fun k => hdx.getD (by omega) _
  have HU := toHid hu
  have eL := toHid hLx.out
  clear hX hu hdx hLx
  go_enter Tryz.func133, Tryz.ntmps133
  go_wp2_with (at_make; refine wpList_make_full _ rfl _ _ 23 rfl w.heap.size 24 i0 _ 1 Tryz.underlying23 hi0 hz0 hz1 _ _ _ _ n rfl rfl rfl rfl (by rw [hz2]; omega) (by unfold maxLen; omega) (Nat.le_refl _) ?_; intro w1 ho1 hg1)
  rw [zeros_map] at ho1
  have k1 := grown_kept hg1
  clear hg1
  obtain ⟨s2, hs2⟩ : ∃ s2, s2 = 64 - s := ⟨_, rfl⟩
  have gs1 : (s : Int) ≤ 64 := by omega
  have gs2 : IntKind.i64.wrap (64 - (s : Int)) = (s2 : Int) := by rw [IntKind.wrap_i64]; omega
  have gs3 : (s2 : Int) ≤ 64 := by omega
  have HS2 := toHid hs2
  clear hs2
  go_loopw [8, 14] (fun bl i wr => ∃ (k x' : Nat) (os : List Nat), k ≤ n ∧ x' < 18446744073709551616 ∧ i = .int .i64 (k : Int) ∧ bl = .int .u64 (x' : Int) ∧ Hid (os.length = k) ∧ Digs 18446744073709551616 os ∧ OwnN .u64 24 wr w.heap.size (.slice (some ⟨w.heap.size, 0, none⟩) n n) n (os ++ List.replicate (n - k) 0) ∧ Kept Nought w wr ∧
      Hid (val 18446744073709551616 os + 18446744073709551616 ^ k * (x' / 2 ^ s2) = 0 % 18446744073709551616 ^ k + X % 18446744073709551616 ^ k * 2 ^ s)) (fun _ i _ => n - (intOf i).toNat)
  case atStart => exact ⟨0, 0, [], Nat.zero_le _, by omega, rfl, rfl, rfl, Digs.nil _, by rw [List.nil_append, Nat.sub_zero]; exact ho1, k1, by unfold Hid; simp [val, Nat.mod_one]⟩
  case round =>
    clear ho1 k1
    obtain ⟨k, x', os, hk, hx', rfl, rfl, HL, hod, ho, hkp, HV⟩ := hrel
    by_cases hkn : k < n
    · have hk0 : (0 : Int) ≤ (k : Int) := Int.natCast_nonneg _
      have hk1 : (k : Int) < (n : Int) := by omega
      have hc0 := fill_cell ho HL.out hkn
      have hf := World.ownsRow.frozenAt ho k
      have HST : Hid (∀ u : Nat, OwnN .u64 24 (wr.setCell ⟨w.heap.size, k, none⟩ (.int .u64 (u : Int))) w.heap.size (.slice (some ⟨w.heap.size, 0, none⟩) n n) n ((os ++ [u]) ++ List.replicate (n - (k + 1)) 0)) := fun u => by
        have := (World.ownsRow.stored ho k (.int .u64 (u : Int))).1
        unfold OwnN
        rw [← set_snoc os n k u HL.out hkn, List.map_set]
        exact this
      obtain ⟨c, hc⟩ : ∃ c, c = x' / 2 ^ s2 := ⟨_, rfl⟩
      have ec : (x' : Int) / 2 ^ s2 = (c : Int) := by rw [hc]; simp
      have hcb : c < 2 ^ s := by rw [hc, HS2.out]; exact (shift_digit hs hx' (c := 0) (Nat.pow_pos (by omega))).2.2.2
      obtain ⟨x, hxx⟩ : ∃ x, x = xs.getD k 0 := ⟨_, rfl⟩
      have hx : x < 18446744073709551616 := by rw [hxx]; exact hxb.out k
      obtain ⟨s1, s3, s4, _⟩ := shift_digit hs hx hcb
      obtain ⟨z, hzz⟩ : ∃ z, z = (x * 2 ^ s) % 18446744073709551616 + c := ⟨_, rfl⟩
      rw [← hzz] at s1 s3 s4
      have hz := s3
      have HS : Hid (val 18446744073709551616 (os ++ [z]) + 18446744073709551616 ^ (k + 1) * (x / 2 ^ s2) = 0 % 18446744073709551616 ^ (k + 1) + X % 18446744073709551616 ^ (k + 1) * 2 ^ s) := mulT_step (c := c) HL.out (by rw [hc]; exact HV.out) (by rw [hdig.out k, ← hxx, show dig 18446744073709551616 0 k = 0 by simp [dig], HS2.out, s4, Nat.add_zero])
      clear hc hzz s3 s4 HV
      by_cases hkL : k < L
      · have hk2 : (k : Int) < (L : Int) := by omega
        obtain ⟨_, _, _, e2, _, _, _, _, hnum⟩ := (HU.out.grew hkp).open
        cases e2
        obtain ⟨b2, off2, rfl, hc2⟩ := hnum k hkL
        rw [← hxx] at hc2
        clear hnum hxx hxb hdig
        go_wp2_with fail
        go_region
        all_goals
          go_wp2_with fail
          go_roundw
          case rel => exact ⟨k + 1, x, os ++ [z], by omega, hx, by go_num, rfl, by unfold Hid; rw [List.length_append, HL.out]; rfl, hod.append (Digs.one hz), HST.out z, (hkp.setCell _ (fun h => by simp at h) _).drew, HS.out⟩
          case measure => simp [intOf]; omega
      · have hk2 : ¬ (k : Int) < (L : Int) := by omega
        have hx0 : x = 0 := by rw [hxx, List.getD_eq_getElem?_getD, List.getElem?_eq_none (by rw [eL.out]; omega)]; rfl
        subst hx0
        have s5 : bits .or .u64 0 (c : Int) = (z : Int) := by rw [← s1]; simp [IntKind.wrap_u64]
        clear hxx hxb hdig
        go_wp2_with fail
        go_region
        all_goals
          go_wp2_with fail
          go_roundw
          case rel => exact ⟨k + 1, 0, os ++ [z], by omega, hx, by go_num, rfl, by unfold Hid; rw [List.length_append, HL.out]; rfl, hod.append (Digs.one hz), HST.out z, (hkp.setCell _ (fun h => by simp at h) _).drew, HS.out⟩
          case measure => simp [intOf]; omega
    · have hk1 : ¬ (k : Int) < (n : Int) := by omega
      obtain rfl : k = n := by omega
      have e := HV.out
      rw [Nat.zero_mod, Nat.zero_add, Nat.mod_eq_of_lt hXb.out] at e
      rw [Nat.sub_self, List.replicate_zero, List.append_nil] at ho
      obtain ⟨e1, _⟩ := row_end (by omega) HL.out hod e
      have E1 := toHid e1
      clear e e1 hxb hdig HV
      go_wp2_with fail
      go_ret
      rw [← E1.out]
      exact ⟨rfl, ho, hkp⟩

end Go.Proofs.YtiljkgoafknefaaGreat

/- Package product: subtractRow. -/
namespace Go.Proofs.YtiljkgoafknefaaGreat
open Go.RowKit

theorem subR_step {B U V Q k a b l a' z b' : Nat} {os : List Nat} (hl : os.length = k) (h : val B os + V % B ^ k * Q = U % B ^ k + B ^ k * (a + b)) (h1 : l + B * a' = dig B V k * Q + a) (h2 : z + l + b = dig B U k + B * b') :
    val B (os ++ [z]) + V % B ^ (k + 1) * Q = U % B ^ (k + 1) + B ^ (k + 1) * (a' + b') := by
  rw [val_snoc, hl, mod_succ, mod_succ, Nat.pow_succ, Nat.mul_assoc, Nat.add_mul, Nat.mul_assoc]
  have e1 : B ^ k * (l + B * a') = B ^ k * (dig B V k * Q + a) := by rw [h1]
  have e2 : B ^ k * (z + l + b) = B ^ k * (dig B U k + B * b') := by rw [h2]
  rw [Nat.mul_add] at h
  rw [Nat.mul_add, Nat.mul_add] at e1
  rw [Nat.mul_add, Nat.mul_add, Nat.mul_add] at e2
  rw [Nat.mul_add B, Nat.mul_add]
  omega

theorem subR_end {B U V Q n a b z b' : Nat} {os : List Nat} (hl : os.length = n) (hV : V < B ^ n) (hU : U < B ^ (n + 1)) (h : val B os + V % B ^ n * Q = U % B ^ n + B ^ n * (a + b)) (h2 : z + a + b = dig B U n + B * b') :
    val B (os ++ [z]) + V * Q = U + B ^ (n + 1) * b' := by
  have e3 : U % B ^ (n + 1) = U := Nat.mod_eq_of_lt hU
  rw [mod_succ] at e3
  rw [val_snoc, hl]
  rw [Nat.mod_eq_of_lt hV] at h
  have e2 : B ^ n * (z + a + b) = B ^ n * (dig B U n + B * b') := by rw [h2]
  rw [Nat.mul_add, Nat.mul_add, Nat.mul_add, ← Nat.mul_assoc, ← Nat.pow_succ] at e2
  simp only [Nat.succ_eq_add_one] at e2
  rw [Nat.mul_add] at h
  omega

set_option maxRecDepth 20000 in
set_option maxHeartbeats 2000000 in
/-- subtractRow. -/
theorem pSubRow (g base N cap j n c Q : Nat) (zs ys : List Nat) (v : Value) (w : World) (ho : OwnN .u64 24 w base (.slice (some ⟨g, 0, none⟩) N cap) N zs) (hzl : zs.length = N) (hzd : Digs 18446744073709551616 zs) (hj : j + (n + 1) ≤ N) (hN : N ≤ 100000000)
    (hv : Row .u64 w v ys) (hyl : ys.length = n) (hyd : Digs 18446744073709551616 ys) (hap : ys ≠ [] → ∀ b, v.ownBlock = some b → b ≠ g) (hQ : Q < 18446744073709551616) :
    Calls Tryz.prog 160 #[.slice (some ⟨g, j, none⟩) (n + 1) c, v, .int .u64 (Q : Nat)] w fun e w' => ∃ b : Nat, e = .returned (.int .u64 (b : Nat)) ∧ b ≤ 1 ∧ ∃ os : List Nat, os.length = n + 1 ∧ Digs 18446744073709551616 os ∧ val 18446744073709551616 os + val 18446744073709551616 ys * Q = val 18446744073709551616 ((zs.drop j).take (n + 1)) + 18446744073709551616 ^ (n + 1) * b ∧
      OwnN .u64 24 w' base (.slice (some ⟨g, 0, none⟩) N cap) N (zs.take j ++ (os ++ zs.drop (j + (n + 1)))) ∧ Kept (fun b => b = g) w w' := by
  have hX := part_lt (j := j) (n := n + 1) hzd
  have hY : val 18446744073709551616 ys < 18446744073709551616 ^ n := by rw [← hyl]; exact val_lt (by omega) hyd
  have hdx : Hid (∀ k, k < n + 1 → dig 18446744073709551616 (val 18446744073709551616 ((zs.drop j).take (n + 1))) k = zs.getD (j + k) 0) := fun k hk => part_dig hzd hk
  have hdy : Hid (∀ k, dig 18446744073709551616 (val 18446744073709551616 ys) k = ys.getD k 0) := fun k => dig_val (by omega) hyd k
  have hzb : Hid (∀ k, zs.getD (j + k) 0 < 18446744073709551616) := fun k => hzd.getD (by omega) _
  have hyb : Hid (∀ k, ys.getD k 0 < 18446744073709551616) := fun k => hyd.getD (by omega) _
  have HRow : Hid (∀ W', Kept (fun b => b = g) w W' → Row .u64 W' v ys) := fun W' k => hv.kept' k hap
  generalize val 18446744073709551616 ((zs.drop j).take (n + 1)) = X at *
  generalize val 18446744073709551616 ys = Y at *
  have HX := toHid hX
  have HY := toHid hY
  have HZL := toHid hzl
  have HO := toHid ho
  obtain ⟨bo, m, bc, rfl, hM, _, _, _, _⟩ := hv.open
  obtain rfl : m = n := hM.out.symm.trans hyl
  clear ho hzl hX hY hyl hyd hzd hap hv hM
  go_enter Tryz.func160, Tryz.ntmps160
  go_wp2_with fail
  go_loopw [7, 9, 13] (fun av bv i wr => ∃ (k a b : Nat) (os : List Nat), k ≤ m ∧ a < 18446744073709551616 ∧ b ≤ 1 ∧ i = .int .i64 (k : Int) ∧ av = .int .u64 (a : Int) ∧ bv = .int .u64 (b : Int) ∧ Hid (os.length = k) ∧ Digs 18446744073709551616 os ∧ OwnN .u64 24 wr base (.slice (some ⟨g, 0, none⟩) N cap) N (zs.take j ++ (os ++ zs.drop (j + k))) ∧ Kept (fun b => b = g) w wr ∧
      Hid (val 18446744073709551616 os + Y % 18446744073709551616 ^ k * Q = X % 18446744073709551616 ^ k + 18446744073709551616 ^ k * (a + b))) (fun _ _ i _ => m - (intOf i).toNat)
  case atStart => exact ⟨0, 0, 0, [], Nat.zero_le _, by omega, by omega, rfl, rfl, rfl, rfl, Digs.nil _, by rw [Nat.add_zero, List.nil_append, List.take_append_drop]; exact HO.out, Kept.refl _ _, by unfold Hid; simp [val, Nat.mod_one]⟩
  case round =>
    obtain ⟨k, a, b, os, hk, ha, hb, rfl, rfl, rfl, HL, hod, ho, hkp, HV⟩ := hrel
    have hc1 := part_cell ho HZL.out HL.out (by omega)
    have hf := World.ownsRow.frozenAt ho (j + k)
    have hx := hzb.out k
    have HST : Hid (∀ u : Nat, OwnN .u64 24 (wr.setCell ⟨g, j + k, none⟩ (.int .u64 (u : Int))) base (.slice (some ⟨g, 0, none⟩) N cap) N (zs.take j ++ ((os ++ [u]) ++ zs.drop (j + (k + 1))))) := fun u => by
      have := (World.ownsRow.stored ho (j + k) (.int .u64 (u : Int))).1
      unfold OwnN
      rw [← part_set zs os j k u HL.out (by have := HZL.out; omega), List.map_set]
      exact this
    by_cases hkn : k < m
    · have hk0 : (0 : Int) ≤ (k : Int) := Int.natCast_nonneg _
      have hk1 : (k : Int) < (m : Int) := by omega
      have hk2 : (k : Int) < (m : Int) + 1 := by omega
      obtain ⟨_, _, _, e2, _, _, _, _, hnum⟩ := (HRow.out wr hkp).open
      cases e2
      obtain ⟨b2, off2, rfl, hc2⟩ := hnum k hkn
      have hy := hyb.out k
      have HS2 : Hid (∀ l a' z b', l + 18446744073709551616 * a' = ys.getD k 0 * Q + a → z + l + b = zs.getD (j + k) 0 + 18446744073709551616 * b' → val 18446744073709551616 (os ++ [z]) + Y % 18446744073709551616 ^ (k + 1) * Q = X % 18446744073709551616 ^ (k + 1) + 18446744073709551616 ^ (k + 1) * (a' + b')) := fun l a' z b' h1 h2 => subR_step HL.out HV.out (by rw [hdy.out k]; exact h1) (by rw [hdx.out k (by omega)]; exact h2)
      clear HV HRow hnum hdx hdy hzb hyb HO HX HY
      generalize zs.getD (j + k) 0 = x at *
      generalize ys.getD k 0 = y at *
      go_wp2_with fail
      refine (wMulN y Q a 0 hy hQ ha (by omega) _).mono ?_
      rintro e w7 ⟨a', l, rfl, ha', hl, hzz, rfl⟩
      rw [Nat.add_zero] at hzz
      go_wp2_with fail
      refine (wSubN x l b hx hl hb _).mono ?_
      rintro e w8 ⟨z, b', rfl, hz, hb', hzz2, rfl⟩
      go_wp2_with fail
      go_roundw
      case rel => exact ⟨k + 1, a', b', os ++ [z], by omega, ha', hb', by go_num, rfl, rfl, by unfold Hid; rw [List.length_append, HL.out]; rfl, hod.append (Digs.one hz), HST.out z, hkp.setCell _ (fun _ => rfl) _, HS2.out l a' z b' hzz hzz2⟩
      case measure => simp [intOf]; omega
    · have hk1 : ¬ (k : Int) < (m : Int) := by omega
      obtain rfl : k = m := by omega
      have hk2 : (k : Int) < (k : Int) + 1 := by omega
      have HS2 : Hid (∀ z b', z + a + b = zs.getD (j + k) 0 + 18446744073709551616 * b' → val 18446744073709551616 (os ++ [z]) + Y * Q = X + 18446744073709551616 ^ (k + 1) * b') := fun z b' h2 => subR_end HL.out HY.out HX.out HV.out (by rw [hdx.out k (by omega)]; exact h2)
      clear HV HRow hdx hdy hzb hyb HO HX HY
      generalize zs.getD (j + k) 0 = x at *
      go_wp2_with fail
      refine (wSubN x a b hx ha hb _).mono ?_
      rintro e w8 ⟨z, b', rfl, hz, hb', hzz2, rfl⟩
      go_wp2_with fail
      go_ret
      exact ⟨b', rfl, hb', os ++ [z], by rw [List.length_append, HL.out]; rfl, hod.append (Digs.one hz), HS2.out z b' hzz2, HST.out z, hkp.setCell _ (fun _ => rfl) _⟩

end Go.Proofs.YtiljkgoafknefaaGreat

/- Package product: isAbove, guess. -/
namespace Go.Proofs.YtiljkgoafknefaaGreat
open Go.RowKit

theorem above_iff {p u l h lo : Nat} (hlo : lo < 18446744073709551616) (hl : l < 18446744073709551616) (e : lo + 18446744073709551616 * h = p) : (u * 18446744073709551616 + l < p) ↔ (u < h ∨ (h = u ∧ l < lo)) := by
  constructor <;> intro hh <;> omega

set_option maxHeartbeats 800000 in
/-- isAbove. -/
theorem pAbove (a b u l : Nat) (ha : a < 18446744073709551616) (hb : b < 18446744073709551616) (hl : l < 18446744073709551616) (R : Bool) (hR : R = decide (u * 18446744073709551616 + l < a * b)) (w : World) :
    Calls Tryz.prog 171 #[.int .u64 (a : Nat), .int .u64 (b : Nat), .int .u64 (u : Nat), .int .u64 (l : Nat)] w fun e w' => e = .returned (.bool R) ∧ w' = w := by
  have hM := wMulN a b 0 0 ha hb (by omega) (by omega)
  have HR := toHid hR
  clear hR
  go_enter Tryz.func171, Tryz.ntmps171
  go_wp2_with fail
  refine (hM _).mono ?_
  rintro e w1 ⟨h, lo, rfl, hh, hlo, hzz, rfl⟩
  have hi := above_iff (u := u) (p := a * b) hlo hl (by omega)
  clear hzz hM
  by_cases c1 : u < h
  · have g1 : (u : Int) < (h : Int) := by omega
    have hT : Hid (R = true) := by unfold Hid; rw [HR.out]; exact decide_eq_true (hi.2 (.inl c1))
    clear hi
    go_wp2_with fail
    go_ret
    rw [hT.out]
    exact ⟨rfl, rfl⟩
  · have g1 : ¬ (u : Int) < (h : Int) := by omega
    by_cases c2 : h = u
    · subst c2
      have g2 : ((h : Int) == (h : Int)) = true := by simp
      have hT : Hid (R = decide (l < lo)) := by unfold Hid; rw [HR.out]; exact decide_eq_decide.2 (hi.trans ⟨fun x => by omega, fun x => .inr ⟨rfl, x⟩⟩)
      clear hi
      by_cases c3 : l < lo
      · have g3 : (l : Int) < (lo : Int) := by omega
        rw [decide_eq_true c3] at hT
        go_wp2_with fail
        go_ret
        rw [hT.out]
        exact ⟨rfl, rfl⟩
      · have g3 : ¬ (l : Int) < (lo : Int) := by omega
        rw [decide_eq_false c3] at hT
        go_wp2_with fail
        go_ret
        rw [hT.out]
        exact ⟨rfl, rfl⟩
    · have g2 : ((h : Int) == (u : Int)) = false := by simp; omega
      have hT : Hid (R = false) := by unfold Hid; rw [HR.out]; exact decide_eq_false (fun x => by have := hi.1 x; omega)
      clear hi
      go_wp2_with fail
      go_ret
      rw [hT.out]
      exact ⟨rfl, rfl⟩

set_option maxRecDepth 20000 in
set_option maxHeartbeats 2000000 in
/-- guess. -/
theorem pGuess (u2 u1 u0 v1 v0 : Nat) (h1 : u1 < 18446744073709551616) (h0 : u0 < 18446744073709551616) (hv1 : v1 < 18446744073709551616) (hv0 : v0 < 18446744073709551616) (hn : 9223372036854775808 ≤ v1) (w : World) :
    Calls Tryz.prog 159 #[.int .u64 (u2 : Nat), .int .u64 (u1 : Nat), .int .u64 (u0 : Nat), .int .u64 (v1 : Nat), .int .u64 (v0 : Nat)] w fun e w' => ∃ q : Nat, e = .returned (.int .u64 (q : Nat)) ∧ q < 18446744073709551616 ∧ ((v1 ≤ u2 ∧ q = 18446744073709551615) ∨ (u2 < v1 ∧ q = (((u2 * 18446744073709551616 + u1) * 18446744073709551616 + u0) / (v1 * 18446744073709551616 + v0)))) ∧ ∃ m, w' = w.drewN m := by
  by_cases hc : v1 ≤ u2
  · have g : (v1 : Int) ≤ (u2 : Int) := by omega
    go_enter Tryz.func159, Tryz.ntmps159
    go_wp2_with fail
    go_ret
    exact ⟨18446744073709551615, rfl, by omega, .inl ⟨hc, rfl⟩, 0, rfl⟩
  · have g : ¬ (v1 : Int) ≤ (u2 : Int) := by omega
    have hDv := bDiv u2 u1 v1 h1 hv1 (by omega) w
    have hU : u2 * 18446744073709551616 + u1 < v1 * 18446744073709551616 + v0 := by
      have : (u2 + 1) * 18446744073709551616 ≤ v1 * 18446744073709551616 := Nat.mul_le_mul_right _ (by omega)
      omega
    have hG := Gss.start (B := 18446744073709551616) (U := u2 * 18446744073709551616 + u1) (u := u0) (y1 := v1) (y0 := v0) (by omega) h0 (by omega) hv0 hU
    have hqb : (u2 * 18446744073709551616 + u1) / v1 < 18446744073709551616 := quot_lt h1 (by omega)
    have hrb : (u2 * 18446744073709551616 + u1) % v1 < v1 := Nat.mod_lt _ (by omega)
    obtain ⟨q0, hq0⟩ : ∃ q0, q0 = (u2 * 18446744073709551616 + u1) / v1 := ⟨_, rfl⟩
    obtain ⟨r0, hr0⟩ : ∃ r0, r0 = (u2 * 18446744073709551616 + u1) % v1 := ⟨_, rfl⟩
    rw [← hq0, ← hr0] at hDv hG
    rw [← hq0] at hqb
    rw [← hr0] at hrb
    clear hq0 hr0
    have HG := toHid hG
    have HU := toHid hU
    have hc' : Hid (u2 < v1) := by unfold Hid; omega
    clear hG hU
    go_enter Tryz.func159, Tryz.ntmps159
    go_wp2_with fail
    refine hDv.mono ?_
    rintro e w1 ⟨rfl, m, rfl⟩
    clear hDv
    go_wp2_with fail
    go_loop [11, 12, 13] (fun qv rv cv => ∃ q r c : Nat, q < 18446744073709551616 ∧ r < 18446744073709551616 ∧ c ≤ 1 ∧ qv = .int .u64 (q : Int) ∧ rv = .int .u64 (r : Int) ∧ cv = .int .u64 (c : Int) ∧ Hid (Gss 18446744073709551616 (u2 * 18446744073709551616 + u1) u0 v1 v0 q (r + 18446744073709551616 * c))) (fun qv _ _ => (intOf qv).toNat)
    case atStart => exact ⟨q0, r0, 0, hqb, by omega, by omega, rfl, rfl, rfl, by rw [Nat.mul_zero, Nat.add_zero]; exact HG⟩
    case round =>
      clear HG
      obtain ⟨q, r, c, hq, hr, hcb, rfl, rfl, rfl, HG⟩ := hrel
      by_cases c0 : c = 0
      · subst c0
        have HG2 := HG.out
        rw [Nat.mul_zero, Nat.add_zero] at HG2
        have hAb := pAbove q v0 r u0 hq hv0 h0
        by_cases ct : r * 18446744073709551616 + u0 < q * v0
        · have hA := fun W => hAb true (decide_eq_true ct).symm W
          obtain ⟨hq0, hG3⟩ := HG2.next h0 HU.out (.inr (by rw [Nat.mul_comm]; exact ct))
          obtain ⟨q', hq'⟩ : ∃ q', q = q' + 1 := ⟨q - 1, by omega⟩
          rw [show q - 1 = q' by omega] at hG3
          have k8 : IntKind.u64.wrap ((q : Int) - 1) = (q' : Int) := by rw [IntKind.wrap_u64]; omega
          have HQ := toHid hq'
          have HG3 := toHid hG3
          clear hAb HG HG2 hG3 hq0 ct hq'
          go_wp2_with fail
          refine (hA _).mono ?_
          rintro e w2 ⟨rfl, rfl⟩
          clear hA
          go_wp2_with fail
          refine (wAddN r v1 0 hr hv1 (by omega) _).mono ?_
          rintro e w3 ⟨z, c', rfl, hz, hc1, hzz, rfl⟩
          go_wp2_with fail
          go_round
          case rel => exact ⟨q', z, c', by have := HQ.out; omega, hz, hc1, rfl, rfl, rfl, by rw [hzz, Nat.add_zero]; exact HG3⟩
          case measure => have := HQ.out; simp [intOf]; omega
        · have hA := fun W => hAb false (decide_eq_false ct).symm W
          have hq2 := toHid (HG2.stop (by omega) (by rw [Nat.mul_comm 18446744073709551616 r]; omega))
          clear hAb HG HG2 ct
          go_wp2_with fail
          refine (hA _).mono ?_
          rintro e w2 ⟨rfl, rfl⟩
          clear hA
          go_wp2_with fail
          go_ret
          exact ⟨q, rfl, hq, (by first | exact .inr ⟨hc'.out, hq2.out⟩ | exact ⟨hc'.out, hq2.out⟩), m, rfl⟩
      · have c1 : c = 1 := by omega
        subst c1
        have hq2 := toHid (HG.out.stop (by omega) (Gss.over (by omega) hv0 (by omega)))
        clear HG
        go_wp2_with fail
        go_ret
        exact ⟨q, rfl, hq, (by first | exact .inr ⟨hc'.out, hq2.out⟩ | exact ⟨hc'.out, hq2.out⟩), m, rfl⟩

end Go.Proofs.YtiljkgoafknefaaGreat

/- Package product: takeMultiple. -/
namespace Go.Proofs.YtiljkgoafknefaaGreat
open Go.RowKit

/-- The three highest digits of a number, the two highest of another. -/
theorem top_digits {B : Nat} (hB : 0 < B) {us : List Nat} (hd : Digs B us) {n : Nat} (hl : us.length = n + 3) :
    val B us = ((us.getD (n + 2) 0 * B + us.getD (n + 1) 0) * B + us.getD n 0) * B ^ n + val B (us.take n) ∧ val B (us.take n) < B ^ n := by
  have h0 := val_take_drop B us n (by omega)
  have hlt := val_lt hB (hd.take n)
  rw [List.length_take, Nat.min_eq_left (by omega)] at hlt
  refine ⟨?_, hlt⟩
  rw [drop_consB (by omega), drop_consB (by omega), drop_consB (by omega), List.drop_of_length_le (by omega)] at h0
  simp only [val, Nat.mul_zero, Nat.add_zero] at h0
  rw [h0, Nat.add_comm]
  congr 1
  rw [Nat.mul_comm (B ^ n)]
  congr 1
  rw [Nat.mul_add, Nat.add_mul, Nat.mul_comm B (us.getD (n + 1) 0), Nat.mul_comm B (us.getD (n + 2) 0), Nat.mul_comm B (us.getD (n + 2) 0 * B)]
  omega

theorem top2_digits {B : Nat} (hB : 0 < B) {vs : List Nat} (hd : Digs B vs) {n : Nat} (hl : vs.length = n + 2) :
    val B vs = (vs.getD (n + 1) 0 * B + vs.getD n 0) * B ^ n + val B (vs.take n) ∧ val B (vs.take n) < B ^ n := by
  have h0 := val_take_drop B vs n (by omega)
  have hlt := val_lt hB (hd.take n)
  rw [List.length_take, Nat.min_eq_left (by omega)] at hlt
  refine ⟨?_, hlt⟩
  rw [drop_consB (by omega), drop_consB (by omega), List.drop_of_length_le (by omega)] at h0
  simp only [val, Nat.mul_zero, Nat.add_zero] at h0
  rw [h0, Nat.add_comm]
  congr 1
  rw [Nat.mul_comm (B ^ n)]
  congr 1
  rw [Nat.mul_comm B (vs.getD (n + 1) 0)]
  omega

theorem low_two {B v0 vl n : Nat} (h : v0 < B) (hl : vl < B ^ n) : v0 * B ^ n + vl < B ^ (n + 1) := by
  have h1 : (v0 + 1) * B ^ n ≤ B * B ^ n := Nat.mul_le_mul_right _ h
  rw [Nat.add_mul, Nat.one_mul] at h1
  rw [Nat.pow_succ, Nat.mul_comm (B ^ n)]
  omega

theorem up_one (B a b n ul : Nat) : (a * B + b) * B ^ n + ul = a * B ^ (n + 1) + (b * B ^ n + ul) := by
  rw [Nat.add_mul, Nat.mul_assoc a, Nat.pow_succ, Nat.mul_comm (B ^ n) B, Nat.add_assoc]

/-- The guess is right, or one too great. -/
theorem guess_ok {us vs : List Nat} {n q : Nat} (hud : Digs 18446744073709551616 us) (hvd : Digs 18446744073709551616 vs) (hul : us.length = n + 3) (hvl : vs.length = n + 2) (hn : 9223372036854775808 ≤ vs.getD (n + 1) 0) (hlt : val 18446744073709551616 us < val 18446744073709551616 vs * 18446744073709551616)
    (hq : q < 18446744073709551616) (h : (vs.getD (n + 1) 0 ≤ us.getD (n + 2) 0 ∧ q = 18446744073709551615) ∨ (us.getD (n + 2) 0 < vs.getD (n + 1) 0 ∧ q = ((us.getD (n + 2) 0 * 18446744073709551616 + us.getD (n + 1) 0) * 18446744073709551616 + us.getD n 0) / (vs.getD (n + 1) 0 * 18446744073709551616 + vs.getD n 0))) :
    val 18446744073709551616 us / val 18446744073709551616 vs ≤ q ∧ q ≤ val 18446744073709551616 us / val 18446744073709551616 vs + 1 := by
  have hn2 : 18446744073709551616 ≤ 2 * vs.getD (n + 1) 0 := by omega
  have hn3 : 18446744073709551616 ≤ vs.getD (n + 1) 0 * 18446744073709551616 + vs.getD n 0 := by omega
  obtain ⟨e1, l1⟩ := top_digits (by omega) hud hul
  obtain ⟨e2, l2⟩ := top2_digits (by omega) hvd hvl
  have b0 := hud.getD (by omega) n
  have b1 := hud.getD (by omega) (n + 1)
  have b2 := hvd.getD (by omega) n
  generalize val 18446744073709551616 us = U at *
  generalize val 18446744073709551616 vs = V at *
  generalize val 18446744073709551616 (us.take n) = ul at *
  generalize val 18446744073709551616 (vs.take n) = vl at *
  generalize us.getD (n + 2) 0 = u2 at *
  generalize us.getD (n + 1) 0 = u1 at *
  generalize us.getD n 0 = u0 at *
  generalize vs.getD (n + 1) 0 = v1 at *
  generalize vs.getD n 0 = v0 at *
  rcases h with ⟨h1, rfl⟩ | ⟨h1, h2⟩
  · have hU : U = (u2 * 18446744073709551616 + u1) * (18446744073709551616 ^ (n + 1)) + (u0 * 18446744073709551616 ^ n + ul) := by
      rw [e1]; exact up_one _ _ _ _ _
    have hV : V = v1 * 18446744073709551616 ^ (n + 1) + (v0 * 18446744073709551616 ^ n + vl) := by
      rw [e2]; exact up_one _ _ _ _ _
    have hvl' : v0 * 18446744073709551616 ^ n + vl < 18446744073709551616 ^ (n + 1) := low_two b2 l2
    have h3 : v1 * 18446744073709551616 ≤ u2 * 18446744073709551616 + u1 := by
      exact Nat.le_trans (Nat.mul_le_mul_right _ h1) (Nat.le_add_right _ _)
    exact knuth_full hU hV hvl' hlt hn2 (by decide) h3
  · have hQ : ((u2 * 18446744073709551616 + u1) * 18446744073709551616 + u0) / (v1 * 18446744073709551616 + v0) ≤ 18446744073709551616 := by rw [← h2]; exact Nat.le_of_lt hq
    have := knuth_top (B := 18446744073709551616) e1 l1 e2 l2 hn3 (by decide) hQ
    rw [← h2] at this
    exact this

end Go.Proofs.YtiljkgoafknefaaGreat

/- Package product: takeMultiple. -/
namespace Go.Proofs.YtiljkgoafknefaaGreat
open Go.RowKit

/-- What was taken once too often is added again. -/
theorem add_back {B : Nat} (hB : 0 < B) {os : List Nat} {V U q R M : Nat} (hol : os.length = M + 1) (hod : Digs B os) (hV : V < B ^ M) (hval : val B os + V * (q + 1) = U + B ^ (M + 1)) (hR : V * q + R = U) (hRV : R < V) :
    os.getD M 0 + (val B (os.take M) + V) / B ^ M = B ∧ digs B (val B (os.take M) + V) M = digs B R M ∧ digs B R (M + 1) = digs B R M ++ [0] := by
  have e1 := val_take_drop B os M (by omega)
  rw [drop_consB (by omega), List.drop_of_length_le (by omega)] at e1
  simp only [val, Nat.mul_zero, Nat.add_zero] at e1
  have hlt := val_lt hB (hod.take M)
  rw [List.length_take, Nat.min_eq_left (by omega)] at hlt
  have ht : os.getD M 0 < B := hod.getD hB M
  generalize val B (os.take M) = lo at *
  generalize os.getD M 0 = top at *
  rw [e1, Nat.mul_add, Nat.mul_one, Nat.pow_succ] at hval
  have hp : 0 < B ^ M := Nat.pow_pos hB
  have hRP : R < B ^ M := by omega
  generalize hP : B ^ M = P at *
  have hS : lo + V = R + P * (B - top) := by
    have h1 : P * (B - top) = P * B - P * top := Nat.mul_sub P B top
    have h2 : P * top ≤ P * B := Nat.mul_le_mul_left _ (by omega)
    omega
  have hd1 : (lo + V) / P = B - top := by rw [hS, Nat.add_mul_div_left _ _ hp, Nat.div_eq_of_lt hRP, Nat.zero_add]
  refine ⟨by rw [hd1]; omega, ?_, ?_⟩
  · refine digs_val hB (digs_digs hB _ _) (digs_length _ _ _) ?_
    rw [val_digs, hP, hS, Nat.add_mul_mod_self_left]
  · rw [digs]
    congr 1
    rw [dig, hP, Nat.div_eq_of_lt hRP, Nat.zero_mod]

set_option maxRecDepth 20000 in
set_option maxHeartbeats 2000000 in
/-- takeMultiple. -/
theorem pTake (g base N cap j n n1 M c : Nat) (hn1 : n1 = n + 1) (hM : M = n + 2) (zs vs : List Nat) (bo : Option Addr) (bc U V Q R : Nat) (w : World) (ho : OwnN .u64 24 w base (.slice (some ⟨g, 0, none⟩) N cap) N zs) (hzl : zs.length = N) (hzd : Digs 18446744073709551616 zs) (hj : j + (M + 1) ≤ N) (hN : N ≤ 100000000) (hcc : M + 1 ≤ c)
    (hv : Row .u64 w (.slice bo M bc) vs) (hvd : Digs 18446744073709551616 vs) (hap : ∀ b, (Value.slice bo M bc).ownBlock = some b → b ≠ g) (hn : 9223372036854775808 ≤ vs.getD n1 0) (hU : U = val 18446744073709551616 ((zs.drop j).take (M + 1))) (hV : V = val 18446744073709551616 vs) (hlt : U < V * 18446744073709551616) (hQ : Q = U / V) (hR : R = U % V) :
    Calls Tryz.prog 134 #[.slice (some ⟨g, j, none⟩) (M + 1) c, .slice bo M bc] w fun e w' => e = .returned (.int .u64 (Q : Nat)) ∧
      OwnN .u64 24 w' base (.slice (some ⟨g, 0, none⟩) N cap) N (zs.take j ++ (digs 18446744073709551616 R (M + 1) ++ zs.drop (j + (M + 1)))) ∧ Kept (fun b => b = g) w w' := by
  obtain ⟨_, _, _, e1, hLv, _, _, _, hnum⟩ := hv.open
  cases e1
  have eV := toHid hLv.out
  have hsl : ((zs.drop j).take (M + 1)).length = n + 3 := by rw [List.length_take, List.length_drop, hzl]; omega
  have hsd : Digs 18446744073709551616 ((zs.drop j).take (M + 1)) := (hzd.drop j).take _
  have hge : ∀ k, k < M + 1 → ((zs.drop j).take (M + 1)).getD k 0 = zs.getD (j + k) 0 := fun k hk => by rw [List.getD_eq_getElem?_getD, List.getElem?_take, if_pos hk, List.getElem?_drop, ← List.getD_eq_getElem?_getD]
  have hcu : ∀ k, k < M + 1 → w.cell? ⟨g, j + k, none⟩ = some (.int .u64 (zs.getD (j + k) 0 : Nat)) := fun k hk => by
    rw [World.ownsRow.cellAt ho (j + k) (by omega), List.getElem?_map, List.getD_eq_getElem?_getD, List.getElem?_eq_getElem (by omega)]
    rfl
  have hOK := toHid (fun q hq h => guess_ok (q := q) (n := n) hsd hvd hsl (hLv.out.trans hM) (by rw [← hn1]; exact hn) (by rw [← hU, ← hV]; exact hlt) hq h)
  rw [← hU, ← hV, ← hM, ← hn1, hge M (by omega), hge n1 (by omega), hge n (by omega)] at hOK
  have cu2 := hcu M (by omega)
  have cu1 := hcu n1 (by omega)
  have cu0 := hcu n (by omega)
  obtain ⟨b2, off2, rfl, cv1⟩ := hnum n1 (by omega)
  obtain ⟨_, _, e2, cv0⟩ := hnum n (by omega)
  cases e2
  have b2' := hzd.getD (by omega) (j + M)
  have b1' := hzd.getD (by omega) (j + n1)
  have b0' := hzd.getD (by omega) (j + n)
  have d1' := hvd.getD (by omega) n1
  have d0' := hvd.getD (by omega) n
  have hG := fun W => pGuess (zs.getD (j + M) 0) (zs.getD (j + n1) 0) (zs.getD (j + n) 0) (vs.getD n1 0) (vs.getD n 0) b1' b0' d1' d0' hn W
  have hVp : 0 < V := by
    rcases Nat.eq_zero_or_pos V with h | h
    · rw [h] at hlt; omega
    · exact h
  have gw1 : IntKind.i64.wrap ((M : Int) - 1) = (n1 : Int) := by rw [IntKind.wrap_i64]; omega
  have gw2 : IntKind.i64.wrap ((M : Int) - 2) = (n : Int) := by rw [IntKind.wrap_i64]; omega
  have g1 : (M : Int) < (M : Int) + 1 := by omega
  have g2 : (n1 : Int) < (M : Int) + 1 := by omega
  have g3 : (n : Int) < (M : Int) + 1 := by omega
  have g4 : (n1 : Int) < (M : Int) := by omega
  have g5 : (n : Int) < (M : Int) := by omega
  have HO := toHid ho
  have HZL := toHid hzl
  have HZD := toHid hzd
  have HV := toHid hv
  have HVD := toHid hvd
  have HU := toHid hU
  have HVV := toHid hV
  have HQ := toHid hQ
  have HR := toHid hR
  have HAP := toHid hap
  have HM := toHid hM
  clear ho hzl hzd hv hvd hU hV hQ hR hLv hnum hsl hsd hge hcu hn hap hn1 hM
  generalize zs.getD (j + M) 0 = u2 at *
  generalize zs.getD (j + n1) 0 = u1 at *
  generalize zs.getD (j + n) 0 = u0 at *
  generalize vs.getD n1 0 = v1 at *
  generalize vs.getD n 0 = v0 at *
  go_enter Tryz.func134, Tryz.ntmps134
  go_wp2_with fail
  go_still_tail 24, (by kernel_rfl)
  change wpList _ _ _ _ _ w.drew
  go_wp2_with fail
  refine (hG _).mono ?_
  rintro e w1 ⟨q, rfl, hq, hqq, m, rfl⟩
  obtain ⟨t1, t2⟩ := hOK.out q hq hqq
  have hS := pSubRow g base N cap j M c q zs vs (.slice (some ⟨b2, off2, none⟩) M bc) (w.drew.drewN m) (((Kept.refl Nought w).drew.drewN m).own HO.out (fun _ _ f => f)) HZL.out HZD.out hj hN (HV.out.grew ((Kept.refl Nought w).drew.drewN m)) eV.out HVD.out (fun _ => HAP.out) hq
  rw [← HU.out, ← HVV.out] at hS
  have k1 := (Kept.refl (fun b => b = g) w).drew.drewN m
  generalize w.drew.drewN m = W1 at *
  clear hG hOK hqq cu2 cu1 cu0 cv1 cv0
  go_wp2_with fail
  refine hS.mono ?_
  rintro e w2 ⟨b, rfl, hb, os, hol, hod, hval, ho2, k2⟩
  clear hS
  by_cases hb1 : b = 1
  · subst hb1
    rw [Nat.mul_one] at hval
    have hVM : V < 18446744073709551616 ^ M := by
      rw [HVV.out, ← eV.out]
      exact val_lt (by omega) HVD.out
    have hdm := Nat.div_add_mod U V
    rw [← HQ.out, ← HR.out] at hdm
    rw [← HQ.out] at t1 t2
    have hRV : R < V := by rw [HR.out]; exact Nat.mod_lt _ hVp
    have hosl : val 18446744073709551616 os < 18446744073709551616 ^ (M + 1) := by
      have := val_lt (by omega) hod
      rwa [hol] at this
    have hqQ : q = Q + 1 := by
      have h1 : q ≠ Q := fun e => by
        rw [e] at hval
        exact absurd hval (Nat.ne_of_lt (by omega))
      exact Nat.le_antisymm t2 (by omega)
    subst hqQ
    obtain ⟨a1, a2, a3⟩ := add_back (by omega) hol hod hVM hval hdm hRV
    obtain ⟨zs2, hzs2⟩ : ∃ zs2, zs2 = zs.take j ++ (os ++ zs.drop (j + (M + 1))) := ⟨_, rfl⟩
    have hlj : (zs.take j).length = j := by rw [List.length_take, HZL.out]; omega
    have z1 : zs2.length = N := by rw [hzs2]; exact len_put HZL.out hol hj
    have z2 : Digs 18446744073709551616 zs2 := by rw [hzs2]; exact digs_take_put HZD.out hod
    have z3 : zs2.take j = zs.take j := by rw [hzs2, List.take_left' hlj]
    have z4 : zs2.drop j = os ++ zs.drop (j + (M + 1)) := by rw [hzs2, List.drop_left' hlj]
    have z5 : zs2.drop (j + (M + 1)) = zs.drop (j + (M + 1)) := by rw [← List.drop_drop, z4, List.drop_left' hol]
    have z6 : (zs2.drop j).take M = os.take M := by rw [z4, List.take_append_of_le_length (by omega)]
    have z7 : zs2.getD (j + M) 0 = os.getD M 0 := by
      rw [List.getD_eq_getElem?_getD, ← List.getElem?_drop, z4, List.getElem?_append_left (by omega), ← List.getD_eq_getElem?_getD]
    rw [← hzs2] at ho2
    obtain ⟨S, hS⟩ : ∃ S, S = val 18446744073709551616 (os.take M) + V := ⟨_, rfl⟩
    rw [← hS] at a1 a2
    obtain ⟨R2, hR2⟩ : ∃ R2, R2 = S / 18446744073709551616 ^ M := ⟨_, rfl⟩
    rw [← hR2, ← z7] at a1
    have hAR := fun W (kk : Kept Nought w2 W) => pAddRow g base N cap j M c 1 zs2 vs (.slice (some ⟨b2, off2, none⟩) M bc) W (kk.own ho2 (fun _ _ f => f)) z1 z2 (by omega) ((HV.out.kept' (k1.trans k2) (fun _ => HAP.out)).grew kk) eV.out HVD.out (fun _ => HAP.out) (by omega) R2 S (by rw [z6, Nat.mul_one, ← HVV.out]; exact hS) hR2
    have hcM : w2.cell? ⟨g, j + M, none⟩ = some (.int .u64 (zs2.getD (j + M) 0 : Nat)) := by
      rw [World.ownsRow.cellAt ho2 (j + M) (by omega), List.getElem?_map, List.getD_eq_getElem?_getD, List.getElem?_eq_getElem (by omega)]
      rfl
    have hC3 : ∀ W', OwnN .u64 24 W' base (.slice (some ⟨g, 0, none⟩) N cap) N (zs2.take j ++ (digs 18446744073709551616 S M ++ zs2.drop (j + M))) → W'.cell? ⟨g, j + M, none⟩ = some (.int .u64 (zs2.getD (j + M) 0 : Nat)) := fun W' h => part_cell h z1 (digs_length _ _ _) (by omega)
    have hF3 : ∀ W', OwnN .u64 24 W' base (.slice (some ⟨g, 0, none⟩) N cap) N (zs2.take j ++ (digs 18446744073709551616 S M ++ zs2.drop (j + M))) → W'.frozen? ⟨g, j + M, none⟩ = false := fun W' h => World.ownsRow.frozenAt h (j + M)
    have hST : Hid (∀ W', OwnN .u64 24 W' base (.slice (some ⟨g, 0, none⟩) N cap) N (zs2.take j ++ (digs 18446744073709551616 S M ++ zs2.drop (j + M))) → OwnN .u64 24 (W'.setCell ⟨g, j + M, none⟩ (.int .u64 0)) base (.slice (some ⟨g, 0, none⟩) N cap) N (zs.take j ++ (digs 18446744073709551616 R (M + 1) ++ zs.drop (j + (M + 1))))) := fun W' h => by
      have := (World.ownsRow.stored h (j + M) (.int .u64 0)).1
      unfold OwnN
      rw [a3, ← a2, ← z3, ← z5, ← part_set zs2 _ j M 0 (digs_length _ _ _) (by omega), List.map_set]
      exact this
    have hadd : IntKind.u64.wrap ((zs2.getD (j + M) 0 : Nat) + (R2 : Int)) = 0 := by rw [IntKind.wrap_u64]; omega
    change ∀ W, Kept Nought w2 W → Calls Tryz.prog 91 #[.slice (some ⟨g, j, none⟩) M c, .slice (some ⟨b2, off2, none⟩) M bc, .int .u64 1] W _ at hAR
    have gc : (M : Int) ≤ (c : Int) := by omega
    have K12 := toHid (k1.trans k2)
    clear hval hdm hRV hosl a1 a2 a3 hzs2 z1 z2 z3 z4 z5 z6 z7 hS hR2 ho2 k1 k2 hlj t1 t2 hVM
    generalize zs2.getD (j + M) 0 = tp at *
    generalize zs2.take j ++ (digs 18446744073709551616 S M ++ zs2.drop (j + M)) = zs3 at *
    go_wp2_with fail
    go_region_with (go_at_call 91; refine (hAR _ ((Kept.refl _ _).drew)).mono ?_; rintro e w3 ⟨rfl, ho3, k3⟩; have hc3 := hC3 _ ho3; have hf3 := hF3 _ ho3)
    all_goals
      go_wp2_with fail
      go_ret
      exact ⟨rfl, hST.out _ ho3, (((K12.out.drew).trans k3).setCell _ (fun _ => rfl) _)⟩
  · have hb0 : b = 0 := by omega
    subst hb0
    rw [Nat.mul_zero, Nat.add_zero] at hval
    have hqe : q = Q := by
      rw [HQ.out]
      exact quot_eq hVp t1 (by omega)
    have hoe : os = digs 18446744073709551616 R (M + 1) := digs_val (by omega) hod hol (by
      have h1 : val 18446744073709551616 os = R := by
        rw [HR.out]
        have := Nat.div_add_mod U V
        rw [← HQ.out, ← hqe] at this
        omega
      rw [← h1, Nat.mod_eq_of_lt]
      have := val_lt (by omega) hod
      rwa [hol] at this)
    have HQE := toHid hqe
    have HOE := toHid hoe
    clear hqe hoe hval t1 t2
    go_wp2_with fail
    go_ret
    rw [← HQE.out, ← HOE.out]
    exact ⟨rfl, ho2, k1.trans k2⟩

end Go.Proofs.YtiljkgoafknefaaGreat

/- Long division word by word: plain mathematics. -/
namespace Go.Proofs.YtiljkgoafknefaaGreat
open Go.RowKit

/-- One digit of the quotient. -/
theorem div_roundB {B : Nat} (hB : 0 < B) {zs orig qs : List Nat} {V n j N : Nat} (hd : Digs B zs) (hl : zs.length = N) (hlo : orig.length = N) (hj : j + (n + 1) ≤ N) (hV : V < B ^ n) (hVp : 0 < V) (hR : val B (zs.drop (j + 1)) < V) (htake : zs.take (j + 1) = orig.take (j + 1))
    (hinv : V * val B qs + val B (zs.drop (j + 1)) = val B (orig.drop (j + 1))) (U : Nat) (hU : U = val B ((zs.drop j).take (n + 1))) :
    U < V * B ∧
    ∀ zs', zs' = zs.take j ++ (digs B (U % V) (n + 1) ++ zs.drop (j + (n + 1))) →
      zs'.length = N ∧ Digs B zs' ∧ zs'.take j = orig.take j ∧ val B (zs'.drop j) < V ∧ V * val B (U / V :: qs) + val B (zs'.drop j) = val B (orig.drop j) := by
  have e1 := val_take_drop B (zs.drop (j + 1)) n (by rw [List.length_drop]; omega)
  rw [List.drop_drop] at e1
  have hz : val B (zs.drop (j + 1 + n)) = 0 := by
    rcases Nat.eq_zero_or_pos (val B (zs.drop (j + 1 + n))) with h | h
    · exact h
    · have : B ^ n * 1 ≤ B ^ n * val B (zs.drop (j + 1 + n)) := Nat.mul_le_mul_left _ h
      omega
  have e2 := val_take_drop B (zs.drop j) (n + 1) (by rw [List.length_drop]; omega)
  rw [List.drop_drop, show j + (n + 1) = j + 1 + n by omega, hz, Nat.mul_zero, Nat.add_zero, ← hU] at e2
  have e3 := drop_consB (B := B) (zs := zs) (j := j) (by omega)
  have hzj : zs.getD j 0 = orig.getD j 0 := by
    have h1 : (zs.take (j + 1)).getD j 0 = (orig.take (j + 1)).getD j 0 := by rw [htake]
    rw [List.getD_eq_getElem?_getD, List.getD_eq_getElem?_getD, List.getElem?_take, List.getElem?_take, if_pos (by omega), if_pos (by omega)] at h1
    rw [List.getD_eq_getElem?_getD, List.getD_eq_getElem?_getD]
    exact h1
  have hd0 := hd.getD hB j
  have hU2 : U = zs.getD j 0 + B * val B (zs.drop (j + 1)) := e2.symm.trans e3
  have hUV : U < V * B := by
    rw [hU2]
    have : B * (val B (zs.drop (j + 1)) + 1) ≤ B * V := Nat.mul_le_mul_left _ hR
    rw [Nat.mul_add, Nat.mul_one] at this
    rw [Nat.mul_comm V]
    omega
  refine ⟨hUV, fun zs' hzs => ?_⟩
  have hlj : (zs.take j).length = j := by rw [List.length_take]; omega
  have hdrop : zs'.drop j = digs B (U % V) (n + 1) ++ zs.drop (j + (n + 1)) := by rw [hzs, List.drop_left' hlj]
  have hmod := Nat.mod_lt U hVp
  have hval : val B (zs'.drop j) = U % V := by
    rw [hdrop, val_append, val_digs, show j + (n + 1) = j + 1 + n by omega, hz, Nat.mul_zero, Nat.add_zero]
    apply Nat.mod_eq_of_lt
    have h1 : B ^ n ≤ B ^ (n + 1) := Nat.pow_le_pow_right hB (by omega)
    omega
  refine ⟨by rw [hzs]; simp [digs_length]; omega, by rw [hzs]; exact (hd.take j).append ((digs_digs hB _ _).append (hd.drop _)), ?_, by omega, ?_⟩
  · rw [hzs, List.take_left' hlj]
    have h1 : (zs.take (j + 1)).take j = (orig.take (j + 1)).take j := by rw [htake]
    rwa [List.take_take, List.take_take, Nat.min_eq_left (by omega)] at h1
  · rw [hval, drop_consB (zs := orig) (j := j) (by omega), ← hzj, ← hinv]
    simp only [val]
    have h1 := Nat.div_add_mod U V
    rw [Nat.mul_add, Nat.mul_left_comm V B, Nat.mul_add]
    generalize U / V = q at *
    generalize U % V = r at *
    generalize V * val B qs = y at *
    omega

/-- A divisor that is shifted till its top bit is set. -/
theorem norm_top {Y K t s : Nat} (hY : Y < 18446744073709551616 ^ (K + 1)) (ht : t = Y / 18446744073709551616 ^ K) (ht0 : 0 < t) (hs : s = 64 - blen t) :
    s ≤ 63 ∧ Y * 2 ^ s < 18446744073709551616 ^ (K + 1) ∧ 9223372036854775808 ≤ dig 18446744073709551616 (Y * 2 ^ s) K ∧ 9223372036854775808 * 18446744073709551616 ^ K ≤ Y * 2 ^ s := by
  have hp : 0 < 18446744073709551616 ^ K := Nat.pow_pos (by omega)
  have htb : t < 18446744073709551616 := by
    rw [ht, Nat.div_lt_iff_lt_mul hp, ← Nat.pow_succ']
    exact hY
  obtain ⟨f1, f2, f3⟩ := lz_facts ht0 htb
  rw [← hs] at f1 f2 f3
  have hps : 0 < 2 ^ s := Nat.pow_pos (by omega)
  have hdvd : t * 2 ^ s + 2 ^ s ≤ 18446744073709551616 := by
    have h64 : (18446744073709551616 : Nat) = 2 ^ (64 - s) * 2 ^ s := by rw [← Nat.pow_add, show 64 - s + s = 64 by omega]
    have h1 : t < 2 ^ (64 - s) := Nat.lt_of_mul_lt_mul_right (a := 2 ^ s) (by rw [← h64]; exact f2)
    have h2 : (t + 1) * 2 ^ s ≤ 2 ^ (64 - s) * 2 ^ s := Nat.mul_le_mul_right _ h1
    rw [← h64, Nat.add_mul, Nat.one_mul] at h2
    exact h2
  have e := Nat.div_add_mod Y (18446744073709551616 ^ K)
  rw [← ht] at e
  have hm := Nat.mod_lt Y hp
  have hge : t * 2 ^ s * 18446744073709551616 ^ K ≤ Y * 2 ^ s := by
    have : 18446744073709551616 ^ K * t ≤ Y := by rw [← e]; exact Nat.le_add_right _ _
    have := Nat.mul_le_mul_right (2 ^ s) this
    rw [Nat.mul_comm (t * 2 ^ s), ← Nat.mul_assoc]
    exact this
  have hlt : Y * 2 ^ s < 18446744073709551616 ^ (K + 1) := by
    have h1 : Y + 1 ≤ 18446744073709551616 ^ K * (t + 1) := by
      rw [Nat.mul_add, Nat.mul_one]
      omega
    have h2 : (Y + 1) * 2 ^ s ≤ 18446744073709551616 ^ K * (t + 1) * 2 ^ s := Nat.mul_le_mul_right _ h1
    have h3 : 18446744073709551616 ^ K * ((t + 1) * 2 ^ s) ≤ 18446744073709551616 ^ K * 18446744073709551616 := Nat.mul_le_mul_left _ (by rw [Nat.add_mul, Nat.one_mul]; exact hdvd)
    rw [Nat.mul_assoc] at h2
    have h4 : Y * 2 ^ s < (Y + 1) * 2 ^ s := Nat.mul_lt_mul_of_pos_right (Nat.lt_succ_self _) hps
    rw [Nat.pow_succ]
    exact Nat.lt_of_lt_of_le h4 (Nat.le_trans h2 h3)
  refine ⟨f1, hlt, ?_, Nat.le_trans (Nat.mul_le_mul_right _ f3) hge⟩
  have hq : Y * 2 ^ s / 18446744073709551616 ^ K < 18446744073709551616 := by
    rw [Nat.div_lt_iff_lt_mul hp, ← Nat.pow_succ']
    exact hlt
  rw [dig, Nat.mod_eq_of_lt hq]
  exact Nat.le_trans f3 ((Nat.le_div_iff_mul_le hp).2 hge)

/-- A number shifted down, digit by digit. -/
theorem down_digit {Z s i : Nat} (hs : s ≤ 63) :
    bits .or .u64 ((dig 18446744073709551616 Z i / 2 ^ s : Nat) : Int) (IntKind.u64.wrap ((dig 18446744073709551616 Z (i + 1) : Int) * 2 ^ (64 - s))) = (dig 18446744073709551616 (Z / 2 ^ s) i : Int) := by
  have h64 : (18446744073709551616 : Nat) = 2 ^ (64 - s) * 2 ^ s := by rw [← Nat.pow_add, show 64 - s + s = 64 by omega]
  have hp : 0 < 2 ^ s := Nat.pow_pos (by omega)
  have hp2 : 0 < 2 ^ (64 - s) := Nat.pow_pos (by omega)
  have ha0 : dig 18446744073709551616 Z i / 2 ^ s < 2 ^ (64 - s) := by
    rw [Nat.div_lt_iff_lt_mul hp, ← h64]
    exact Nat.mod_lt _ (by omega)
  have hd1 : dig 18446744073709551616 Z (i + 1) = Z / 18446744073709551616 ^ i / 18446744073709551616 % 18446744073709551616 := by
    rw [dig, Nat.pow_succ, Nat.div_div_eq_div_mul]
  have hd2 : dig 18446744073709551616 (Z / 2 ^ s) i = Z / 18446744073709551616 ^ i / 2 ^ s % 18446744073709551616 := by
    rw [dig, Nat.div_div_eq_div_mul, Nat.mul_comm, ← Nat.div_div_eq_div_mul]
  have hd0 : dig 18446744073709551616 Z i = Z / 18446744073709551616 ^ i % 18446744073709551616 := rfl
  generalize Z / 18446744073709551616 ^ i = A at *
  have hA : A / 2 ^ s = 2 ^ (64 - s) * (A / 18446744073709551616) + A % 18446744073709551616 / 2 ^ s := by
    have e := Nat.div_add_mod A 18446744073709551616
    have : A = 2 ^ s * (2 ^ (64 - s) * (A / 18446744073709551616)) + A % 18446744073709551616 := by
      rw [← Nat.mul_assoc, Nat.mul_comm (2 ^ s), ← h64]
      exact e.symm
    rw [this, Nat.mul_add_div hp, ← this]
  have hlt : A % 18446744073709551616 / 2 ^ s < 2 ^ (64 - s) := by rw [← hd0]; exact ha0
  have hmod : A / 2 ^ s % 18446744073709551616 = 2 ^ (64 - s) * (A / 18446744073709551616 % 2 ^ s) + A % 18446744073709551616 / 2 ^ s := by
    rw [hA]
    clear hA hd0 hd1 hd2 ha0
    generalize A / 18446744073709551616 = A1 at *
    generalize A % 18446744073709551616 / 2 ^ s = a0 at *
    rw [show (2 ^ (64 - s) * A1 + a0) % 18446744073709551616 = (2 ^ (64 - s) * A1 + a0) % (2 ^ (64 - s) * 2 ^ s) by rw [← h64], Nat.mod_mul, Nat.mul_add_mod, Nat.mod_eq_of_lt hlt, Nat.mul_add_div hp2, Nat.div_eq_of_lt hlt, Nat.add_zero, Nat.add_comm]
  have hsh : dig 18446744073709551616 Z (i + 1) * 2 ^ (64 - s) % 18446744073709551616 = 2 ^ (64 - s) * (A / 18446744073709551616 % 2 ^ s) := by
    rw [hd1, Nat.mul_comm]
    generalize A / 18446744073709551616 = A1
    rw [show 2 ^ (64 - s) * (A1 % 18446744073709551616) % 18446744073709551616 = 2 ^ (64 - s) * (A1 % 18446744073709551616) % (2 ^ (64 - s) * 2 ^ s) by rw [← h64], Nat.mul_mod_mul_left, Nat.mod_mod_of_dvd]
    exact ⟨2 ^ (64 - s), by rw [Nat.mul_comm]; exact h64⟩
  rw [hd2, hmod, ← hd0]
  generalize dig 18446744073709551616 Z i / 2 ^ s = lo at *
  generalize dig 18446744073709551616 Z (i + 1) = d1 at *
  rw [show (d1 : Int) * 2 ^ (64 - s) = ((d1 * 2 ^ (64 - s) : Nat) : Int) by simp, IntKind.wrap_u64, show ((d1 * 2 ^ (64 - s) : Nat) : Int) % 18446744073709551616 = ((d1 * 2 ^ (64 - s) % 18446744073709551616 : Nat) : Int) by simp, hsh]
  have hhi : 2 ^ (64 - s) * (A / 18446744073709551616 % 2 ^ s) < 18446744073709551616 := by rw [← hsh]; exact Nat.mod_lt _ (by omega)
  have hlo : lo < 18446744073709551616 := Nat.lt_of_lt_of_le ha0 (by rw [show (18446744073709551616 : Nat) = 2 ^ 64 from rfl]; exact Nat.pow_le_pow_right (by omega) (by omega))
  rw [u64_or_nat _ _ hlo hhi, Nat.or_comm, Nat.two_pow_add_eq_or_of_lt ha0]

theorem up_bound {Z s L N : Nat} (h : Z < 2 ^ s * 18446744073709551616 ^ L) (hs : s ≤ 63) (hN : L + 1 ≤ N) : Z < 18446744073709551616 ^ N := by
  have h1 : 2 ^ s ≤ 18446744073709551616 := by rw [show (18446744073709551616 : Nat) = 2 ^ 64 from rfl]; exact Nat.pow_le_pow_right (by omega) (by omega)
  have h2 : 2 ^ s * 18446744073709551616 ^ L ≤ 18446744073709551616 * 18446744073709551616 ^ L := Nat.mul_le_mul_right _ h1
  have h3 : 18446744073709551616 * 18446744073709551616 ^ L = 18446744073709551616 ^ (L + 1) := (Nat.pow_succ' ..).symm
  rw [h3] at h2
  exact Nat.lt_of_lt_of_le h (Nat.le_trans h2 (Nat.pow_le_pow_right (by omega) hN))

theorem start_below {Z s L T nk V : Nat} (h : Z < 2 ^ s * 18446744073709551616 ^ L) (hs : s ≤ 63) (hV : 9223372036854775808 * 18446744073709551616 ^ nk ≤ V) (hT : L ≤ nk + T) : Z / 18446744073709551616 ^ T < V := by
  rw [Nat.div_lt_iff_lt_mul (Nat.pow_pos (by omega))]
  have h1 : 2 ^ s ≤ 9223372036854775808 := by rw [show (9223372036854775808 : Nat) = 2 ^ 63 from rfl]; exact Nat.pow_le_pow_right (by omega) hs
  have h2 : 18446744073709551616 ^ L ≤ 18446744073709551616 ^ (nk + T) := Nat.pow_le_pow_right (by omega) hT
  have h3 : 2 ^ s * 18446744073709551616 ^ L ≤ 9223372036854775808 * 18446744073709551616 ^ (nk + T) := Nat.mul_le_mul h1 h2
  rw [Nat.pow_add, ← Nat.mul_assoc] at h3
  exact Nat.lt_of_lt_of_le h (Nat.le_trans h3 (Nat.mul_le_mul_right _ hV))

end Go.Proofs.YtiljkgoafknefaaGreat

