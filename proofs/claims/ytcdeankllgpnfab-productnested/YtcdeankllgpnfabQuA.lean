/- Package product: divideByOne, shiftedUp. -/
import Derived.Test.YtcdeankllgpnfabDvB
import Derived.Test.YtcdeankllgpnfabPrB
import Derived.Test.YtcdeankllgpnfabPrI
import Derived.Test.YtcdeankllgpnfabPrF
namespace Go.Proofs.Ytcdeankllgpnfab
open Go.RowKit

theorem div_stepB {B : Nat} {a qs : List Nat} {i r d : Nat} (hi : i < a.length) (h : d * val B qs + r = val B (a.drop (i + 1))) :
    d * val B ((r * B + a.getD i 0) / d :: qs) + (r * B + a.getD i 0) % d = val B (a.drop i) := by
  rw [drop_consB hi, ← h]
  simp only [val]
  generalize a.getD i 0 = x
  have e := Nat.div_add_mod (r * B + x) d
  rw [Nat.mul_add, Nat.mul_left_comm d B, Nat.mul_add, Nat.mul_comm B r]
  omega

theorem set_front {zs qs : List Nat} {j q : Nat} (h : j < zs.length) : (zs.take (j + 1) ++ qs).set j q = zs.take j ++ q :: qs := by
  rw [List.set_append_left _ _ (by rw [List.length_take]; omega), List.take_succ_eq_append_getElem h, List.set_append_right _ _ (by rw [List.length_take]; omega), List.length_take, show j - min j zs.length = 0 by omega]
  simp

set_option maxRecDepth 20000 in
set_option maxHeartbeats 2000000 in
/-- divideByOne. -/
theorem pOne (g base L cp : Nat) (ao : Option Addr) (cap : Nat) (xs zs : List Nat) (X D R : Nat) (hX : X = val 18446744073709551616 xs) (hR : R = X % D) (hD : D < 18446744073709551616) (hD0 : 0 < D) (w : World) (ho : OwnN .u64 24 w base (.slice (some ⟨g, 0, none⟩) L cp) L zs) (hzl : zs.length = L) (hu : Row .u64 w (.slice ao L cap) xs) (hdx : Digs 18446744073709551616 xs) (hap : xs ≠ [] → ∀ b, (Value.slice ao L cap).ownBlock = some b → b ≠ g) (hL : L ≤ 1000000) :
    Calls Try.prog 41 #[.slice (some ⟨g, 0, none⟩) L cp, .slice ao L cap, .int .u64 (D : Nat)] w fun e w' => e = .returned (.int .u64 (R : Nat)) ∧ OwnN .u64 24 w' base (.slice (some ⟨g, 0, none⟩) L cp) L (digs 18446744073709551616 (X / D) L) ∧ Kept (fun b => b = g) w w' := by
  obtain ⟨_, _, _, e1, hLx, _, _, _, _⟩ := hu.open
  cases e1
  have eL := toHid hLx.out
  have HU := toHid hu
  have hxb : Hid (∀ k, xs.getD k 0 < 18446744073709551616) := fun k => hdx.getD (by omega) _
  have HX := toHid hX
  have HR := toHid hR
  have HZL := toHid hzl
  have HO := toHid ho
  have HDX := toHid hdx
  clear hu hdx hLx hX hR hzl ho
  go_enter Try.func41, Try.ntmps41
  go_wp2_with fail
  go_loopw [7, 12] (fun ra i wr => ∃ (k r : Nat) (qs : List Nat), k ≤ L ∧ r < D ∧ i = .int .i64 (k : Int) ∧ ra = .int .u64 (r : Int) ∧ Hid (qs.length = k) ∧ Digs 18446744073709551616 qs ∧ OwnN .u64 24 wr base (.slice (some ⟨g, 0, none⟩) L cp) L (zs.take (L - k) ++ qs) ∧ Kept (fun b => b = g) w wr ∧ Hid (D * val 18446744073709551616 qs + r = val 18446744073709551616 (xs.drop (L - k)))) (fun _ i _ => L - (intOf i).toNat)
  case atStart => exact ⟨0, 0, [], Nat.zero_le _, hD0, rfl, rfl, rfl, Digs.nil _, by rw [Nat.sub_zero, List.append_nil, List.take_of_length_le (by rw [HZL.out]; exact Nat.le_refl _)]; exact HO.out, Kept.refl _ _, by unfold Hid; rw [Nat.sub_zero, List.drop_of_length_le (by rw [eL.out]; exact Nat.le_refl _)]; rfl⟩
  case round =>
    obtain ⟨k, r, qs, hk, hr, rfl, rfl, HL, hqd, ho, hkp, HV⟩ := hrel
    by_cases hkn : k < L
    · have hk0 : (0 : Int) ≤ (k : Int) := Int.natCast_nonneg _
      have hk1 : (k : Int) < (L : Int) := by omega
      obtain ⟨j, hj⟩ : ∃ j, j = L - 1 - k := ⟨_, rfl⟩
      have gj : (L : Int) - 1 - (k : Int) = (j : Int) := by omega
      have gj1 : (j : Int) < (L : Int) := by omega
      obtain ⟨_, _, _, e2, _, _, _, _, hnum⟩ := (HU.out.kept' hkp hap).open
      cases e2
      obtain ⟨b2, off2, rfl, hc2⟩ := hnum j (by omega)
      have hx := hxb.out j
      have hjx : j < xs.length := by rw [eL.out]; omega
      have hjz : j < zs.length := by rw [HZL.out]; omega
      have hLk : L - k = j + 1 := by omega
      have hLk2 : L - (k + 1) = j := by omega
      have hst := div_stepB (B := 18446744073709551616) (i := j) (r := r) (d := D) (qs := qs) hjx (by rw [← hLk]; exact HV.out)
      have hcell : wr.cell? ⟨g, j, none⟩ = some (.int .u64 (zs.getD j 0 : Nat)) := by
        rw [World.ownsRow.cellAt ho j (by omega), List.getElem?_map, List.getElem?_append_left (by rw [List.length_take]; omega), List.getElem?_take, if_pos (by omega), List.getD_eq_getElem?_getD, List.getElem?_eq_getElem hjz]
        rfl
      have hfz := World.ownsRow.frozenAt ho j
      have hDv := fun W => bDiv r (xs.getD j 0) D hx hD hr W
      have hqb : (r * 18446744073709551616 + xs.getD j 0) / D < 18446744073709551616 := quot_lt hx hr
      have hrb : (r * 18446744073709551616 + xs.getD j 0) % D < D := Nat.mod_lt _ hD0
      have hST : Hid (∀ z : Nat, OwnN .u64 24 (wr.setCell ⟨g, j, none⟩ (.int .u64 (z : Int))) base (.slice (some ⟨g, 0, none⟩) L cp) L (zs.take j ++ z :: qs)) := fun z => by
        have := (World.ownsRow.stored ho j (.int .u64 (z : Int))).1
        unfold OwnN
        rw [← set_front hjz, ← hLk, List.map_set]
        exact this
      have HST2 := toHid hst
      clear hst hnum hxb hj
      generalize (r * 18446744073709551616 + xs.getD j 0) / D = Q at *
      generalize (r * 18446744073709551616 + xs.getD j 0) % D = R2 at *
      generalize xs.getD j 0 = x at *
      generalize zs.getD j 0 = z0 at *
      have H1 := toHid hLk
      have H2 := toHid hLk2
      have HHO := toHid ho
      have HHK := toHid hkp
      clear hLk hLk2 ho hkp
      go_wp2_with fail
      refine (hDv _).mono ?_
      rintro e w7 ⟨rfl, m, rfl⟩
      go_wp2_with fail
      go_roundw
      case rel => exact ⟨k + 1, R2, Q :: qs, by omega, hrb, by go_num, rfl, by unfold Hid; rw [List.length_cons, HL.out], (fun d hd => by rcases List.mem_cons.1 hd with h | h; omega; exact hqd d h), by rw [H2.out]; exact hST.out Q, (HHK.out.setCell ⟨g, j, none⟩ (fun _ => rfl) _).drewN m, by unfold Hid; rw [H2.out]; exact HST2.out⟩
      case measure => simp [intOf]; omega
    · have hk1 : ¬ (k : Int) < (L : Int) := by omega
      obtain rfl : k = L := by omega
      have e := HV.out
      rw [Nat.sub_self, List.drop_zero, ← HX.out] at e
      rw [Nat.sub_self, List.take_zero, List.nil_append] at ho
      have e1 : val 18446744073709551616 qs = X / D := by rw [← e, Nat.mul_add_div hD0, Nat.div_eq_of_lt hr, Nat.add_zero]
      have e2 : r = R := by rw [HR.out, ← e, Nat.mul_add_mod, Nat.mod_eq_of_lt hr]
      have e3 : qs = digs 18446744073709551616 (X / D) k := digs_val (by omega) hqd HL.out (by rw [← e1, Nat.mod_eq_of_lt]; have := val_lt (by omega) hqd; rwa [HL.out] at this)
      have E2 := toHid e2
      have E3 := toHid e3
      clear hxb e e1 e2 e3 HV
      go_wp2_with fail
      go_ret
      rw [← E2.out, ← E3.out]
      exact ⟨rfl, ho, hkp⟩

end Go.Proofs.Ytcdeankllgpnfab
