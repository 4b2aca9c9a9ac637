/- Put together of: QuG. -/
import Derived.Test.YtiljkgoafknefaaGreatPk18

/- Package product: divideByWords, with a divisor of one word. -/
namespace Go.Proofs.YtiljkgoafknefaaGreat
open Go.RowKit

theorem need_facts {Y M K : Nat} (h0 : 0 < Y) (hM : Y < 18446744073709551616 ^ M) (hK : K = (blen Y + 63) / 64) : 0 < K ∧ K ≤ M ∧ Y < 18446744073709551616 ^ K ∧ 18446744073709551616 ^ (K - 1) ≤ Y := by
  have h1 : ¬ blen Y ≤ 0 := fun h => by have := (blen_le Y 0).1 h; simp at this; omega
  have h2 := (blen_le Y (blen Y)).1 (Nat.le_refl _)
  have h3 : ¬ Y < 2 ^ (blen Y - 1) := fun h => by have := (blen_le Y (blen Y - 1)).2 h; omega
  rw [B64] at hM
  have h4 := (blen_le Y (64 * M)).2 hM
  have hK0 : 0 < K := by omega
  refine ⟨hK0, by omega, ?_, ?_⟩
  · rw [B64]
    exact Nat.lt_of_lt_of_le h2 (Nat.pow_le_pow_right (by omega) (by omega))
  · rw [B64]
    exact Nat.le_trans (Nat.pow_le_pow_right (by omega) (by omega)) (Nat.le_of_not_lt h3)

set_option maxRecDepth 20000 in
set_option maxHeartbeats 2000000 in
theorem pWords (ao bo : Option Addr) (L M cap dap : Nat) (xs ys : List Nat) (X Y : Nat) (hX : X = val 18446744073709551616 xs) (hY : Y = val 18446744073709551616 ys) (hY0 : 0 < Y) (w : World) (hu : Row .u64 w (.slice ao L cap) xs) (hv : Row .u64 w (.slice bo M dap) ys) (hdx : Digs 18446744073709551616 xs) (hdy : Digs 18446744073709551616 ys) (hL : L ≤ 100000) (hM : M ≤ 100000) :
    Calls Tryz.prog 107 #[.slice ao L cap, .slice bo M dap] w fun e w' => ∃ v1 v2, e = .returned (.tuple #[v1, v2]) ∧
      OwnN .u64 24 w' w.heap.size v1 L (digs 18446744073709551616 (X / Y) L) ∧ OwnN .u64 24 w' w.heap.size v2 M (digs 18446744073709551616 (X % Y) M) ∧ Kept Nought w w' := by
  obtain ⟨i0, hi0, hz0, hz1, hz2⟩ := info_parts Tryz.info24
  obtain ⟨_, _, _, e1, hLx, _, _, _, _⟩ := hu.open
  cases e1
  obtain ⟨_, _, _, e1, hLy, _, _, _, _⟩ := hv.open
  cases e1
  have eL := toHid hLx.out
  have eM := toHid hLy.out
  have hYb : Y < 18446744073709551616 ^ M := by rw [hY, ← hLy.out]; exact val_lt (by omega) hdy
  have hXb : Hid (X < 18446744073709551616 ^ L) := by unfold Hid; rw [hX, ← hLx.out]; exact val_lt (by omega) hdx
  have hBt := fun W (k : Kept Nought w W) => nBits _ ys W (hv.grew k) hdy (by rw [hLy.out]; omega)
  rw [← hY] at hBt
  obtain ⟨K, hK⟩ : ∃ K, K = (blen Y + 63) / 64 := ⟨_, rfl⟩
  obtain ⟨n1, n2, n3, n4⟩ := need_facts hY0 hYb hK
  have hblb : blen Y ≤ 6400000 := by
    rw [B64] at hYb
    have := (blen_le Y (64 * M)).2 hYb
    omega
  generalize blen Y = bl at *
  have gK : ((bl : Int) + 64 - 1) / 64 = (K : Int) := by omega
  have HU := toHid hu
  have HV := toHid hv
  have HDX := toHid hdx
  have HDY := toHid hdy
  have HX := toHid hX
  have HY := toHid hY
  have HN3 := toHid n3
  have HN4 := toHid n4
  obtain ⟨CL, hCL⟩ : ∃ C, C = madeCells #[.int .u64 0] L := ⟨_, rfl⟩
  obtain ⟨CM, hCM⟩ : ∃ C, C = madeCells #[.int .u64 0] M := ⟨_, rfl⟩
  have hmkL : ∀ W, (Instr.makeSlice 23 (.int .i64 (L : Int)) (.int .i64 (L : Int))).run Tryz.prog W = .ok (.slice (some ⟨W.heap.size, 0, none⟩) L L) (W.alloc (.cells CL 24)) := fun W => by rw [hCL]; exact run_make_row (P := Tryz.prog) _ _ i0 _ Tryz.underlying23 hi0 hz0 hz1 rfl _ _ L (by rw [hz2]; omega) (by omega) W
  have hmkM : ∀ W, (Instr.makeSlice 23 (.int .i64 (M : Int)) (.int .i64 (M : Int))).run Tryz.prog W = .ok (.slice (some ⟨W.heap.size, 0, none⟩) M M) (W.alloc (.cells CM 24)) := fun W => by rw [hCM]; exact run_make_row (P := Tryz.prog) _ _ i0 _ Tryz.underlying23 hi0 hz0 hz1 rfl _ _ M (by rw [hz2]; omega) (by omega) W
  have HCL := toHid hCL
  have HCM := toHid hCM
  clear hu hv hdx hdy hLx hLy hX hY hYb hK n3 n4 hCL hCM
  go_enter Tryz.func107, Tryz.ntmps107
  go_wp2_with fail
  go_region
  · have hm2 := two_made w L M CL CM HCL.out HCM.out (by omega) (by omega)
    generalize ((w.alloc (.cells CL 24)).alloc (.cells CM 24)).drew = W1 at *
    obtain ⟨hoL, hoM, k1⟩ := hm2
    clear hmkL hmkM HCL HCM
    obtain ⟨_, _, _, e1, _, _, _, _, hny⟩ := (HV.out.grew k1).open
    cases e1
    go_wp2_with fail
    refine (hBt _ k1).mono ?_
    rintro e w2 ⟨rfl, rfl⟩
    clear hBt
    have hltA : Hid (xs ≠ [] → ∀ b, (Value.slice ao L cap).ownBlock = some b → b < w.heap.size) := fun h b hb => HU.out.lt h b hb
    by_cases hK1 : K = 1
    · subst hK1
      have gK2 : ((bl : Int) + 64 - 1) / 64 = 1 := gK
      clear gK
      obtain ⟨b2, off2, rfl, cy⟩ := hny 0 (by omega)
      have hyY : ys.getD 0 0 = Y := by
        rw [← dig_val (by omega) HDY.out, ← HY.out, dig, Nat.pow_zero, Nat.div_one]
        have := HN3.out
        rw [Nat.pow_one] at this
        exact Nat.mod_eq_of_lt this
      have cy' : w2.cell? ⟨b2, off2, none⟩ = some (.int .u64 (Y : Nat)) := by rw [← hyY]; exact cy
      have hYlt : Y < 18446744073709551616 := by have := HN3.out; rwa [Nat.pow_one] at this
      obtain ⟨R, hR⟩ : ∃ R, R = X % Y := ⟨_, rfl⟩
      have hRlt : R < 18446744073709551616 := by rw [hR]; exact Nat.lt_trans (Nat.mod_lt _ hY0) hYlt
      have hOne := pOne w.heap.size w.heap.size L L ao cap xs (List.replicate L 0) X Y R HX.out hR hYlt hY0 w2 hoL (by simp) (HU.out.grew k1) HDX.out (fun h b hb => by have := hltA.out h b hb; omega) (by omega)
      have hM0 : (0 : Int) < (M : Int) := by omega
      obtain ⟨M1, hM1⟩ : ∃ M1, M = M1 + 1 := ⟨M - 1, by omega⟩
      have HWD : Hid (digs 18446744073709551616 R M = (List.replicate M 0).set 0 R) := by unfold Hid; rw [hM1, word_digs R M1 hRlt, List.replicate_succ, List.set_cons_zero]
      have HRR := toHid hR
      clear hny cy hyY hM1 hR
      go_wp2_with fail
      refine hOne.mono ?_
      rintro e w3 ⟨rfl, hoq, k3⟩
      have hor := k3.own hoM (fun b hb e => by simp [Value.ownBlock] at hb; omega)
      have cr : w3.cell? ⟨(w.heap.size + 1), 0, none⟩ = some (.int .u64 0) := by
        rw [World.ownsRow.cellAt hor 0 (by omega), List.getElem?_map, List.getElem?_replicate, if_pos (by omega)]
        rfl
      have fr := World.ownsRow.frozenAt hor 0
      have hsr := (World.ownsRow.stored hor 0 (.int .u64 (R : Int))).1
      have kb : Kept (fun b => b = (w.heap.size + 1)) w3 (w3.setCell ⟨(w.heap.size + 1), 0, none⟩ (.int .u64 (R : Int))) := kept_box w3 (w.heap.size + 1) _
      have HQ := toHid (kb.own hoq (fun b hb e => by simp [Value.ownBlock] at hb; omega))
      have HR2 : Hid (OwnN .u64 24 (w3.setCell ⟨(w.heap.size + 1), 0, none⟩ (.int .u64 (R : Int))) w.heap.size (.slice (some ⟨(w.heap.size + 1), 0, none⟩) M M) M (digs 18446744073709551616 (X % Y) M)) := by
        unfold Hid OwnN
        rw [← HRR.out, HWD.out, List.map_set]
        exact hsr
      have HKK := toHid ((k1.next k3 (fun x hx e => by omega)).next kb (fun x hx e => by omega))
      clear hOne hor hsr kb hoq k3 hoL hoM
      go_wp2_with fail
      go_ret2
      exact ⟨_, _, rfl, HQ.out, HR2.out, HKK.out⟩
    · have gK1 : ((K : Int) == 1) = false := by simp; omega
      have gK4 : ¬ (K : Int) = 1 := by omega
      obtain ⟨n, hn⟩ : ∃ n, n = K - 2 := ⟨_, rfl⟩
      obtain ⟨nk, hnk⟩ : ∃ nk, nk = K - 1 := ⟨_, rfl⟩
      obtain ⟨b2, off2, rfl, cy⟩ := hny nk (by omega)
      obtain ⟨t, ht⟩ : ∃ t, t = Y / 18446744073709551616 ^ nk := ⟨_, rfl⟩
      have hYK : Y < 18446744073709551616 ^ (nk + 1) := by rw [show nk + 1 = K by omega]; exact HN3.out
      have hpnk : 0 < 18446744073709551616 ^ nk := Nat.pow_pos (by omega)
      have htb : t < 18446744073709551616 := by
        rw [ht, Nat.div_lt_iff_lt_mul hpnk, ← Nat.pow_succ']
        exact hYK
      have ht0 : 0 < t := by rw [ht]; exact Nat.div_pos (by rw [hnk]; exact HN4.out) hpnk
      have hyt : ys.getD nk 0 = t := by rw [← dig_val (by omega) HDY.out, ← HY.out, dig, ← ht, Nat.mod_eq_of_lt htb]
      rw [hyt] at cy
      obtain ⟨s, hs⟩ : ∃ s, s = 64 - blen t := ⟨_, rfl⟩
      obtain ⟨s63, v1, v2, v3⟩ := norm_top hYK ht ht0 hs
      rw [show nk + 1 = K by omega] at v1
      have hLz := fun W => bLz t htb W
      rw [← hs] at hLz
      obtain ⟨V, hV⟩ : ∃ V, V = Y * 2 ^ s := ⟨_, rfl⟩
      rw [← hV] at v1 v2 v3
      have HVE := toHid hV
      obtain ⟨N, hN⟩ : ∃ N, N = max L K + 1 := ⟨_, rfl⟩
      have gN : max (L : Int) (K : Int) + 1 = (N : Int) := by omega
      have gk1 : (K : Int) - 1 = (nk : Int) := by omega
      have gk2 : (nk : Int) < (M : Int) := by omega
      have gk3 : (K : Int) ≤ (M : Int) := by omega
      have hMcap : M ≤ dap := by obtain ⟨_, _, _, e1, _, hh, _⟩ := HV.out.open; cases e1; exact hh
      have gk4 : (K : Int) ≤ (dap : Int) := by omega
      have hcut : ∀ W, Kept Nought w W → Row .u64 W (.slice (some ⟨b2, off2, none⟩) K dap) (ys.take K) := fun W k => (HV.out.grew k).cut (by rw [eM.out]; omega)
      have hvt : Y = val 18446744073709551616 (ys.take K) := by rw [val_takeB (by omega) HDY.out, ← HY.out, Nat.mod_eq_of_lt HN3.out]
      have hS1 := fun W (k : Kept Nought w W) => pShift (some ⟨b2, off2, none⟩) K dap (ys.take K) Y s K hvt s63 W (hcut W k) (HDY.out.take K) (by omega) (Nat.le_refl _)
      have hS2 := fun W (k : Kept Nought w W) => pShift ao L cap xs X s N HX.out s63 W (HU.out.grew k) HDX.out (by omega) (by omega)
      rw [← hV] at hS1
      have H0 : Hid (n = K - 2 ∧ nk = K - 1 ∧ N = max L K + 1 ∧ 2 ≤ K) := ⟨hn, hnk, hN, by omega⟩
      clear hny ht hs hyt hV hcut hvt hn hnk hN hpnk hYK
      go_wp2_with fail
      refine (hLz _).mono ?_
      rintro e w3 ⟨rfl, rfl⟩
      clear hLz
      go_wp2_with fail
      refine (hS1 _ k1).mono ?_
      rintro e w4 ⟨rfl, hov, k4⟩
      have k14 := k1.trans k4
      go_wp2_with fail
      refine (hS2 _ k14).mono ?_
      rintro e w5 ⟨rfl, hou, k5⟩
      have k15 := k14.trans k5
      have hov5 := k5.own hov (fun _ _ f => f)
      have hoL5 := (k4.trans k5).own hoL (fun _ _ f => f)
      have hoM5 := (k4.trans k5).own hoM (fun _ _ f => f)
      have hsz3' : w.heap.size + 1 < w3.heap.size := by have h1 := owns_lt hoL; have h2 := owns_lt hoM; omega
      have hvlt' : w3.heap.size < w4.heap.size := owns_lt hov
      clear hS1 hS2 hov hoL hoM k1 k14
      go_wp2_with fail
      obtain ⟨T, hT⟩ : ∃ T, T = L + 1 - K := ⟨_, rfl⟩
      have hgQ := owns_lt hoL5
      have hgR := owns_lt hoM5
      have hsz3 : w.heap.size + 1 < w3.heap.size := hsz3'
      have hvlt : w3.heap.size < w4.heap.size := hvlt'
      obtain ⟨gv, hgv⟩ : ∃ g, g = w3.heap.size := ⟨_, rfl⟩
      obtain ⟨gu, hgu⟩ : ∃ g, g = w4.heap.size := ⟨_, rfl⟩
      have hou' : OwnN .u64 24 w5 w.heap.size (.slice (some ⟨gu, 0, none⟩) N N) N (digs 18446744073709551616 (X * 2 ^ s) N) := by
        rw [hgu]
        exact own_base hou (fun b hb => by simp [Value.ownBlock] at hb; omega)
      have hrv : Row .u64 w5 (.slice (some ⟨gv, 0, none⟩) K K) (digs 18446744073709551616 V K) := by rw [hgv]; exact own_row' hov5 (digs_length _ _ _)
      rw [← hgv, ← hgu]
      have dq : w.heap.size ≠ gu ∧ (w.heap.size + 1) ≠ gu ∧ gv ≠ gu ∧ gv ≠ w.heap.size ∧ w.heap.size ≠ (w.heap.size + 1) ∧ w.heap.size ≤ gu := by omega
      clear hou hov5 hgv hgu hvlt hsz3 hgQ hgR
      obtain ⟨h0a, h0b, h0c, h0d⟩ := H0.out
      have hVp : 0 < V := Nat.lt_of_lt_of_le (Nat.mul_pos (by omega) (Nat.pow_pos (by omega))) v3
      have hXs : X * 2 ^ s < 2 ^ s * 18446744073709551616 ^ L := by rw [Nat.mul_comm]; exact Nat.mul_lt_mul_of_pos_left hXb.out (Nat.pow_pos (by omega))
      have hXN : X * 2 ^ s < 18446744073709551616 ^ N := up_bound hXs s63 (by omega)
      obtain ⟨orig, horig⟩ : ∃ orig, orig = digs 18446744073709551616 (X * 2 ^ s) N := ⟨_, rfl⟩
      rw [← horig] at hou'
      have ho1 : orig.length = N := by rw [horig, digs_length]
      have ho2 : Digs 18446744073709551616 orig := by rw [horig]; exact digs_digs (by omega) _ _
      have ho3 : val 18446744073709551616 orig = X * 2 ^ s := by rw [horig, val_digs, Nat.mod_eq_of_lt hXN]
      have hstart : val 18446744073709551616 (orig.drop T) < V := by rw [val_dropB (by omega) ho2, ho3]; exact start_below hXs s63 v3 (by omega)
      have HST0 : Hid (orig.length = N ∧ Digs 18446744073709551616 orig ∧ val 18446744073709551616 orig = X * 2 ^ s) := ⟨ho1, ho2, ho3⟩
      have hdV : (digs 18446744073709551616 V K).getD nk 0 = dig 18446744073709551616 V nk := digs_getD _ _ _ _ (by omega)
      rw [← hdV] at v2
      have hvV : V = val 18446744073709551616 (digs 18446744073709551616 V K) := by rw [val_digs, Nat.mod_eq_of_lt v1]
      have HT := toHid hT
      have HRV := toHid hrv
      have HOU := toHid hou'
      have HV2 := toHid v2
      have HVV := toHid hvV
      have HS0 := toHid hstart
      have gT : (L : Int) - (K : Int) + 1 = (T : Int) ∨ (T = 0 ∧ (L : Int) - (K : Int) + 1 ≤ 0) := by omega
      obtain ⟨TI, hTI⟩ : ∃ TI, TI = (L : Int) - (K : Int) + 1 := ⟨_, rfl⟩
      have gTk : ∀ k : Nat, k ≤ T → ((k : Int) < TI ↔ k < T) := fun k hk => by omega
      rw [← hTI]
      clear hT hrv hou' v2 hvV hstart ho1 ho2 ho3 horig hdV hXN hXs gT cy hTI h0a h0b h0c
      go_loopw [63] (fun i wr => ∃ (k : Nat) (zs qs : List Nat), k ≤ T ∧ i = .int .i64 (k : Int) ∧ OwnN .u64 24 wr w.heap.size (.slice (some ⟨gu, 0, none⟩) N N) N zs ∧ OwnN .u64 24 wr w.heap.size (.slice (some ⟨w.heap.size, 0, none⟩) L L) L ((List.replicate T 0).take (T - k) ++ (qs ++ List.replicate (L - T) 0)) ∧ Kept (fun b => b = gu ∨ b = w.heap.size) w5 wr ∧
          Hid ((zs.length = N ∧ Digs 18446744073709551616 zs) ∧ (qs.length = k ∧ Digs 18446744073709551616 qs) ∧ zs.take (T - k) = orig.take (T - k) ∧ val 18446744073709551616 (zs.drop (T - k)) < V ∧ V * val 18446744073709551616 qs + val 18446744073709551616 (zs.drop (T - k)) = val 18446744073709551616 (orig.drop (T - k)))) (fun i _ => T - (intOf i).toNat)
      case atStart =>
        refine ⟨0, orig, [], Nat.zero_le _, rfl, HOU.out, ?_, Kept.refl _ _, ⟨⟨HST0.out.1, HST0.out.2.1⟩, ⟨rfl, Digs.nil _⟩, rfl, by rw [Nat.sub_zero]; exact HS0.out, by rw [val, Nat.mul_zero, Nat.zero_add]⟩⟩
        rw [Nat.sub_zero, List.take_of_length_le (by simp), List.nil_append, List.replicate_append_replicate, show T + (L - T) = L by have := HT.out; omega]
        exact hoL5
      case round =>
        clear hoL5
        obtain ⟨k, zs, qs, hk, rfl, hou, hoq, hkp, HI⟩ := hrel
        by_cases hkT : k < T
        · have gk : (k : Int) < TI := (gTk k hk).2 hkT
          have hk0 : (0 : Int) ≤ (k : Int) := Int.natCast_nonneg _
          have hTT := HT.out
          obtain ⟨h0a, h0b, h0c, _⟩ := H0.out
          obtain ⟨j, hj⟩ : ∃ j, j = T - 1 - k := ⟨_, rfl⟩
          have hTk : T - k = j + 1 := by omega
          have hTk2 : T - (k + 1) = j := by omega
          have gj : (L : Int) - (K : Int) - (k : Int) = (j : Int) := by omega
          have gj1 : (j : Int) < (L : Int) := by omega
          have hjN : j + (K + 1) ≤ N := by omega
          obtain ⟨⟨i1, i2⟩, ⟨i3, i4⟩, i5, i6, i7⟩ := HI.out
          rw [hTk] at i5 i6 i7 hoq
          obtain ⟨U, hU⟩ : ∃ U, U = val 18446744073709551616 ((zs.drop j).take (K + 1)) := ⟨_, rfl⟩
          obtain ⟨dr1, dr2⟩ := div_roundB (by omega) i2 i1 HST0.out.1 hjN v1 hVp i6 i5 i7 U hU
          obtain ⟨l1, l2, l3, l4, l5⟩ := dr2 _ rfl
          obtain ⟨Q, hQ⟩ : ∃ Q, Q = U / V := ⟨_, rfl⟩
          obtain ⟨R, hR⟩ : ∃ R, R = U % V := ⟨_, rfl⟩
          have hQb : Q < 18446744073709551616 := by rw [hQ, Nat.div_lt_iff_lt_mul hVp, Nat.mul_comm]; exact dr1
          rw [← hR] at l1 l2 l3 l4 l5
          rw [← hQ] at l5
          have hrow : Row .u64 wr (.slice (some ⟨gv, 0, none⟩) K K) (digs 18446744073709551616 V K) := HRV.out.kept hkp (fun b hb e => by simp [Value.ownBlock] at hb; omega)
          have hTM := pTake gu w.heap.size N N j n nk K (N - j) (by omega) (by omega) zs (digs 18446744073709551616 V K) (some ⟨gv, 0, none⟩) K U V Q R wr hou i1 i2 hjN (by omega) (by omega) hrow (digs_digs (by omega) _ _) (fun b hb e => by simp [Value.ownBlock] at hb; omega) HV2.out hU HVV.out dr1 hQ hR
          have hC6 : ∀ W, OwnN .u64 24 W w.heap.size (.slice (some ⟨w.heap.size, 0, none⟩) L L) L ((List.replicate T 0).take (j + 1) ++ (qs ++ List.replicate (L - T) 0)) → W.cell? ⟨w.heap.size, j, none⟩ = some (.int .u64 0) := fun W h => by
            rw [World.ownsRow.cellAt h j (by omega), List.getElem?_map, List.getElem?_append_left (by rw [List.length_take, List.length_replicate]; omega), List.getElem?_take, if_pos (by omega), List.getElem?_replicate, if_pos (by omega)]
            rfl
          have hST6 : Hid (∀ W, OwnN .u64 24 W w.heap.size (.slice (some ⟨w.heap.size, 0, none⟩) L L) L ((List.replicate T 0).take (j + 1) ++ (qs ++ List.replicate (L - T) 0)) → OwnN .u64 24 (W.setCell ⟨w.heap.size, j, none⟩ (.int .u64 (Q : Int))) w.heap.size (.slice (some ⟨w.heap.size, 0, none⟩) L L) L ((List.replicate T 0).take j ++ ((Q :: qs) ++ List.replicate (L - T) 0))) := fun W h => by
            have := (World.ownsRow.stored h j (.int .u64 (Q : Int))).1
            unfold OwnN
            rw [List.cons_append, ← set_front (by rw [List.length_replicate]; omega), List.map_set]
            exact this
          have HNX : Hid (((zs.take j ++ (digs 18446744073709551616 R (K + 1) ++ zs.drop (j + (K + 1)))).length = N ∧ Digs 18446744073709551616 (zs.take j ++ (digs 18446744073709551616 R (K + 1) ++ zs.drop (j + (K + 1))))) ∧ ((Q :: qs).length = k + 1 ∧ Digs 18446744073709551616 (Q :: qs)) ∧ (zs.take j ++ (digs 18446744073709551616 R (K + 1) ++ zs.drop (j + (K + 1)))).take j = orig.take j ∧ val 18446744073709551616 ((zs.take j ++ (digs 18446744073709551616 R (K + 1) ++ zs.drop (j + (K + 1)))).drop j) < V ∧ V * val 18446744073709551616 (Q :: qs) + val 18446744073709551616 ((zs.take j ++ (digs 18446744073709551616 R (K + 1) ++ zs.drop (j + (K + 1)))).drop j) = val 18446744073709551616 (orig.drop j)) := ⟨⟨l1, l2⟩, ⟨by rw [List.length_cons, i3], fun d hd => by rcases List.mem_cons.1 hd with h | h; omega; exact i4 d h⟩, l3, l4, l5⟩
          have HTK2 := toHid hTk2
          have gs1 : (j : Int) ≤ (j : Int) + (K : Int) + 1 := by omega
          have gs2 : (j : Int) + (K : Int) + 1 ≤ (N : Int) := by omega
          clear HI hj hTk hTk2 i1 i2 i3 i4 i5 i6 i7 l1 l2 l3 l4 l5 dr1 dr2 hU hQ hR hrow h0a h0b h0c hTT
          generalize zs.take j ++ (digs 18446744073709551616 R (K + 1) ++ zs.drop (j + (K + 1))) = zs2 at *
          rw [show K + 1 = j + K + 1 - j by omega] at hTM
          go_wp2_with fail
          refine hTM.mono ?_
          rintro e w6 ⟨rfl, hou6, k6⟩
          have hoq6 := k6.own hoq (fun b hb e => by simp [Value.ownBlock] at hb; omega)
          have c6 := hC6 _ hoq6
          have f6 := World.ownsRow.frozenAt hoq6 j
          clear hTM hC6
          go_wp2_with fail
          go_roundw
          case rel =>
            have kb : Kept (fun b => b = w.heap.size) w6 (w6.setCell ⟨w.heap.size, j, none⟩ (.int .u64 (Q : Int))) := (Kept.refl (fun b => b = w.heap.size) w6).setCell ⟨w.heap.size, j, none⟩ (fun _ => rfl) _
            refine ⟨k + 1, zs2, Q :: qs, by omega, by go_num, kb.own hou6 (fun b hb e => by simp [Value.ownBlock] at hb; omega), ?_, (hkp.next k6 (fun _ _ e => .inl e)).next kb (fun _ _ e => .inr e), by rw [HTK2.out]; exact HNX⟩
            rw [HTK2.out]
            exact hST6.out _ hoq6
          case measure => simp [intOf]; omega
        · have gk : ¬ (k : Int) < TI := fun h => hkT ((gTk k hk).1 h)
          obtain rfl : k = T := by omega
          obtain ⟨h0a, h0b, h0c, _⟩ := H0.out
          have hTT := HT.out
          obtain ⟨⟨i1, i2⟩, ⟨i3, i4⟩, _, i6, i7⟩ := HI.out
          rw [Nat.sub_self, List.drop_zero] at i6 i7
          rw [List.drop_zero, HST0.out.2.2] at i7
          rw [Nat.sub_self, List.take_zero, List.nil_append] at hoq
          obtain ⟨d1, d2⟩ := shift_div (M := X) (y := Y) (p := 2 ^ s) (Nat.pow_pos (by omega))
          rw [← HVE.out, ← i7] at d1 d2
          rw [Nat.mul_add_div hVp, Nat.div_eq_of_lt i6, Nat.add_zero] at d1
          rw [Nat.mul_add_mod, Nat.mod_eq_of_lt i6] at d2
          have hqf : qs ++ List.replicate (L - k) 0 = digs 18446744073709551616 (X / Y) L := by
            rw [fill_digs i4 d1 (by omega), i3]
          rw [hqf] at hoq
          obtain ⟨Z, hZ⟩ : ∃ Z, Z = val 18446744073709551616 zs := ⟨_, rfl⟩
          rw [← hZ] at d2
          have hzg : ∀ i, zs.getD i 0 = dig 18446744073709551616 Z i := fun i => by rw [hZ]; exact (dig_val (by omega) i2 i).symm
          have hcu : ∀ W, Kept (fun b => b = (w.heap.size + 1)) wr W → ∀ i, i < N → W.cell? ⟨gu, i, none⟩ = some (.int .u64 (dig 18446744073709551616 Z i : Nat)) := fun W kk i hi => by
            have h1 := kk.own hou (fun b hb e => by simp [Value.ownBlock] at hb; omega)
            rw [World.ownsRow.cellAt h1 i (by omega), List.getElem?_map, ← hzg, List.getD_eq_getElem?_getD, List.getElem?_eq_getElem (by omega)]
            rfl
          have hor := hkp.own hoM5 (fun b hb e => by simp [Value.ownBlock] at hb; omega)
          have HCU := toHid hcu
          have HQ2 := toHid hoq
          have HD2 := toHid d2
          have hKN : K + 1 ≤ N := by omega
          obtain ⟨s2, hs2⟩ : ∃ s2, s2 = 64 - s := ⟨_, rfl⟩
          have gs1 : (s : Int) ≤ 64 := by omega
          have gs2 : IntKind.i64.wrap (64 - (s : Int)) = (s2 : Int) := by rw [IntKind.wrap_i64]; omega
          have gs3 : (s2 : Int) ≤ 64 := by omega
          have HS2 := toHid hs2
          clear HI i1 i2 i3 i4 i6 i7 d1 d2 hqf hZ hzg hcu hoq hou hoM5 h0a h0b h0c hTT hs2
          go_wp2_with fail
          go_loopw [86] (fun i wz => ∃ (m : Nat), m ≤ K ∧ i = .int .i64 (m : Int) ∧ OwnN .u64 24 wz w.heap.size (.slice (some ⟨(w.heap.size + 1), 0, none⟩) M M) M (digs 18446744073709551616 (Z / 2 ^ s) m ++ List.replicate (M - m) 0) ∧ Kept (fun b => b = (w.heap.size + 1)) wr wz) (fun i _ => K - (intOf i).toNat)
          case atStart => exact ⟨0, Nat.zero_le _, rfl, by rw [Nat.sub_zero]; exact hor, Kept.refl _ _⟩
          case round =>
            clear hor
            obtain ⟨m, hm, rfl, hor, hkz⟩ := hrel
            by_cases hmK : m < K
            · have hm0 : (0 : Int) ≤ (m : Int) := Int.natCast_nonneg _
              have hm1 : (m : Int) < (K : Int) := by omega
              obtain ⟨m1, hm1e⟩ : ∃ m1, m1 = m + 1 := ⟨_, rfl⟩
              have gm1 : IntKind.i64.wrap ((m : Int) + 1) = (m1 : Int) := by rw [IntKind.wrap_i64]; omega
              have gm2 : (m : Int) < (N : Int) := by omega
              have gm3 : (m1 : Int) < (N : Int) := by omega
              have gm4 : (m : Int) < (M : Int) := by omega
              have c1 := HCU.out _ hkz m (by omega)
              have c2 := HCU.out _ hkz m1 (by omega)
              have hdd := down_digit (Z := Z) (i := m) s63
              rw [← HS2.out, ← hm1e] at hdd
              have cr := fill_cell hor (digs_length _ _ _) (by omega)
              have fr := World.ownsRow.frozenAt hor m
              have hST : Hid (OwnN .u64 24 (wr.setCell ⟨(w.heap.size + 1), m, none⟩ (.int .u64 (dig 18446744073709551616 (Z / 2 ^ s) m : Nat))) w.heap.size (.slice (some ⟨(w.heap.size + 1), 0, none⟩) M M) M (digs 18446744073709551616 (Z / 2 ^ s) (m + 1) ++ List.replicate (M - (m + 1)) 0)) := by
                have := (World.ownsRow.stored hor m (.int .u64 (dig 18446744073709551616 (Z / 2 ^ s) m : Nat))).1
                unfold Hid OwnN
                rw [digs, ← set_snoc _ M m _ (digs_length _ _ _) (by omega), List.map_set]
                exact this
              obtain ⟨z, hz⟩ : ∃ z, z = dig 18446744073709551616 (Z / 2 ^ s) m := ⟨_, rfl⟩
              rw [← hz] at hdd hST
              obtain ⟨x1, hx1⟩ : ∃ x1, x1 = dig 18446744073709551616 Z m := ⟨_, rfl⟩
              obtain ⟨x2, hx2⟩ : ∃ x2, x2 = dig 18446744073709551616 Z m1 := ⟨_, rfl⟩
              rw [← hx1, ← hx2] at hdd
              rw [← hx1] at c1
              rw [← hx2] at c2
              obtain ⟨xl, hxl⟩ : ∃ xl, xl = x1 / 2 ^ s := ⟨_, rfl⟩
              rw [← hxl] at hdd
              have gxl : (x1 : Int) / 2 ^ s = (xl : Int) := by rw [hxl]; simp
              have HM1 := toHid hm1e
              clear hz hx1 hx2 hxl hm1e hor
              go_wp2_with fail
              go_still_tail 17, (by kernel_rfl)
              change wpList _ _ _ _ _ wr.drew
              go_wp2_with fail
              go_roundw
              case rel => exact ⟨m1, by have := HM1.out; omega, rfl, by rw [HM1.out]; exact hST.out, (hkz.setCell ⟨(w.heap.size + 1), m, none⟩ (fun _ => rfl) _).drew⟩
              case measure => have := HM1.out; simp [intOf]; omega
            · have hm1 : ¬ (m : Int) < (K : Int) := by omega
              obtain rfl : m = K := by omega
              rw [HD2.out] at hor
              have hf := fill_digs (m := M) (digs_digs (by omega) (X % Y) m) (V := X % Y) (by rw [val_digs, Nat.mod_eq_of_lt (Nat.lt_trans (Nat.mod_lt _ hY0) HN3.out)]) (by rw [digs_length]; omega)
              rw [digs_length] at hf
              rw [← hf] at hor
              have HQ3 := toHid (hkz.own HQ2.out (fun b hb e => by have e' : b = (w.heap.size + 1) := e; simp [Value.ownBlock] at hb; omega))
              have HKK := toHid ((k15.next hkp (fun x hx e => by rcases e with e | e <;> omega)).next hkz (fun x hx e => by have e' : x = (w.heap.size + 1) := e; omega))
              clear hf
              go_wp2_with fail
              go_ret2
              exact ⟨_, _, rfl, HQ3.out, hor, HKK.out⟩
  · have hm2 := two_made w M L CM CL HCM.out HCL.out (by omega) (by omega)
    generalize ((w.alloc (.cells CM 24)).alloc (.cells CL 24)).drew = W1 at *
    obtain ⟨hoM, hoL, k1⟩ := hm2
    clear hmkL hmkM HCL HCM
    obtain ⟨_, _, _, e1, _, _, _, _, hny⟩ := (HV.out.grew k1).open
    cases e1
    go_wp2_with fail
    refine (hBt _ k1).mono ?_
    rintro e w2 ⟨rfl, rfl⟩
    clear hBt
    have hltA : Hid (xs ≠ [] → ∀ b, (Value.slice ao L cap).ownBlock = some b → b < w.heap.size) := fun h b hb => HU.out.lt h b hb
    by_cases hK1 : K = 1
    · subst hK1
      have gK2 : ((bl : Int) + 64 - 1) / 64 = 1 := gK
      clear gK
      obtain ⟨b2, off2, rfl, cy⟩ := hny 0 (by omega)
      have hyY : ys.getD 0 0 = Y := by
        rw [← dig_val (by omega) HDY.out, ← HY.out, dig, Nat.pow_zero, Nat.div_one]
        have := HN3.out
        rw [Nat.pow_one] at this
        exact Nat.mod_eq_of_lt this
      have cy' : w2.cell? ⟨b2, off2, none⟩ = some (.int .u64 (Y : Nat)) := by rw [← hyY]; exact cy
      have hYlt : Y < 18446744073709551616 := by have := HN3.out; rwa [Nat.pow_one] at this
      obtain ⟨R, hR⟩ : ∃ R, R = X % Y := ⟨_, rfl⟩
      have hRlt : R < 18446744073709551616 := by rw [hR]; exact Nat.lt_trans (Nat.mod_lt _ hY0) hYlt
      have hOne := pOne (w.heap.size + 1) w.heap.size L L ao cap xs (List.replicate L 0) X Y R HX.out hR hYlt hY0 w2 hoL (by simp) (HU.out.grew k1) HDX.out (fun h b hb => by have := hltA.out h b hb; omega) (by omega)
      have hM0 : (0 : Int) < (M : Int) := by omega
      obtain ⟨M1, hM1⟩ : ∃ M1, M = M1 + 1 := ⟨M - 1, by omega⟩
      have HWD : Hid (digs 18446744073709551616 R M = (List.replicate M 0).set 0 R) := by unfold Hid; rw [hM1, word_digs R M1 hRlt, List.replicate_succ, List.set_cons_zero]
      have HRR := toHid hR
      clear hny cy hyY hM1 hR
      go_wp2_with fail
      refine hOne.mono ?_
      rintro e w3 ⟨rfl, hoq, k3⟩
      have hor := k3.own hoM (fun b hb e => by simp [Value.ownBlock] at hb; omega)
      have cr : w3.cell? ⟨w.heap.size, 0, none⟩ = some (.int .u64 0) := by
        rw [World.ownsRow.cellAt hor 0 (by omega), List.getElem?_map, List.getElem?_replicate, if_pos (by omega)]
        rfl
      have fr := World.ownsRow.frozenAt hor 0
      have hsr := (World.ownsRow.stored hor 0 (.int .u64 (R : Int))).1
      have kb : Kept (fun b => b = w.heap.size) w3 (w3.setCell ⟨w.heap.size, 0, none⟩ (.int .u64 (R : Int))) := kept_box w3 w.heap.size _
      have HQ := toHid (kb.own hoq (fun b hb e => by simp [Value.ownBlock] at hb; omega))
      have HR2 : Hid (OwnN .u64 24 (w3.setCell ⟨w.heap.size, 0, none⟩ (.int .u64 (R : Int))) w.heap.size (.slice (some ⟨w.heap.size, 0, none⟩) M M) M (digs 18446744073709551616 (X % Y) M)) := by
        unfold Hid OwnN
        rw [← HRR.out, HWD.out, List.map_set]
        exact hsr
      have HKK := toHid ((k1.next k3 (fun x hx e => by omega)).next kb (fun x hx e => by omega))
      clear hOne hor hsr kb hoq k3 hoL hoM
      go_wp2_with fail
      go_ret2
      exact ⟨_, _, rfl, HQ.out, HR2.out, HKK.out⟩
    · have gK1 : ((K : Int) == 1) = false := by simp; omega
      have gK4 : ¬ (K : Int) = 1 := by omega
      obtain ⟨n, hn⟩ : ∃ n, n = K - 2 := ⟨_, rfl⟩
      obtain ⟨nk, hnk⟩ : ∃ nk, nk = K - 1 := ⟨_, rfl⟩
      obtain ⟨b2, off2, rfl, cy⟩ := hny nk (by omega)
      obtain ⟨t, ht⟩ : ∃ t, t = Y / 18446744073709551616 ^ nk := ⟨_, rfl⟩
      have hYK : Y < 18446744073709551616 ^ (nk + 1) := by rw [show nk + 1 = K by omega]; exact HN3.out
      have hpnk : 0 < 18446744073709551616 ^ nk := Nat.pow_pos (by omega)
      have htb : t < 18446744073709551616 := by
        rw [ht, Nat.div_lt_iff_lt_mul hpnk, ← Nat.pow_succ']
        exact hYK
      have ht0 : 0 < t := by rw [ht]; exact Nat.div_pos (by rw [hnk]; exact HN4.out) hpnk
      have hyt : ys.getD nk 0 = t := by rw [← dig_val (by omega) HDY.out, ← HY.out, dig, ← ht, Nat.mod_eq_of_lt htb]
      rw [hyt] at cy
      obtain ⟨s, hs⟩ : ∃ s, s = 64 - blen t := ⟨_, rfl⟩
      obtain ⟨s63, v1, v2, v3⟩ := norm_top hYK ht ht0 hs
      rw [show nk + 1 = K by omega] at v1
      have hLz := fun W => bLz t htb W
      rw [← hs] at hLz
      obtain ⟨V, hV⟩ : ∃ V, V = Y * 2 ^ s := ⟨_, rfl⟩
      rw [← hV] at v1 v2 v3
      have HVE := toHid hV
      obtain ⟨N, hN⟩ : ∃ N, N = max L K + 1 := ⟨_, rfl⟩
      have gN : max (L : Int) (K : Int) + 1 = (N : Int) := by omega
      have gk1 : (K : Int) - 1 = (nk : Int) := by omega
      have gk2 : (nk : Int) < (M : Int) := by omega
      have gk3 : (K : Int) ≤ (M : Int) := by omega
      have hMcap : M ≤ dap := by obtain ⟨_, _, _, e1, _, hh, _⟩ := HV.out.open; cases e1; exact hh
      have gk4 : (K : Int) ≤ (dap : Int) := by omega
      have hcut : ∀ W, Kept Nought w W → Row .u64 W (.slice (some ⟨b2, off2, none⟩) K dap) (ys.take K) := fun W k => (HV.out.grew k).cut (by rw [eM.out]; omega)
      have hvt : Y = val 18446744073709551616 (ys.take K) := by rw [val_takeB (by omega) HDY.out, ← HY.out, Nat.mod_eq_of_lt HN3.out]
      have hS1 := fun W (k : Kept Nought w W) => pShift (some ⟨b2, off2, none⟩) K dap (ys.take K) Y s K hvt s63 W (hcut W k) (HDY.out.take K) (by omega) (Nat.le_refl _)
      have hS2 := fun W (k : Kept Nought w W) => pShift ao L cap xs X s N HX.out s63 W (HU.out.grew k) HDX.out (by omega) (by omega)
      rw [← hV] at hS1
      have H0 : Hid (n = K - 2 ∧ nk = K - 1 ∧ N = max L K + 1 ∧ 2 ≤ K) := ⟨hn, hnk, hN, by omega⟩
      clear hny ht hs hyt hV hcut hvt hn hnk hN hpnk hYK
      go_wp2_with fail
      refine (hLz _).mono ?_
      rintro e w3 ⟨rfl, rfl⟩
      clear hLz
      go_wp2_with fail
      refine (hS1 _ k1).mono ?_
      rintro e w4 ⟨rfl, hov, k4⟩
      have k14 := k1.trans k4
      go_wp2_with fail
      refine (hS2 _ k14).mono ?_
      rintro e w5 ⟨rfl, hou, k5⟩
      have k15 := k14.trans k5
      have hov5 := k5.own hov (fun _ _ f => f)
      have hoL5 := (k4.trans k5).own hoL (fun _ _ f => f)
      have hoM5 := (k4.trans k5).own hoM (fun _ _ f => f)
      have hsz3' : w.heap.size + 1 < w3.heap.size := by have h1 := owns_lt hoL; have h2 := owns_lt hoM; omega
      have hvlt' : w3.heap.size < w4.heap.size := owns_lt hov
      clear hS1 hS2 hov hoL hoM k1 k14
      go_wp2_with fail
      obtain ⟨T, hT⟩ : ∃ T, T = L + 1 - K := ⟨_, rfl⟩
      have hgQ := owns_lt hoL5
      have hgR := owns_lt hoM5
      have hsz3 : w.heap.size + 1 < w3.heap.size := hsz3'
      have hvlt : w3.heap.size < w4.heap.size := hvlt'
      obtain ⟨gv, hgv⟩ : ∃ g, g = w3.heap.size := ⟨_, rfl⟩
      obtain ⟨gu, hgu⟩ : ∃ g, g = w4.heap.size := ⟨_, rfl⟩
      have hou' : OwnN .u64 24 w5 w.heap.size (.slice (some ⟨gu, 0, none⟩) N N) N (digs 18446744073709551616 (X * 2 ^ s) N) := by
        rw [hgu]
        exact own_base hou (fun b hb => by simp [Value.ownBlock] at hb; omega)
      have hrv : Row .u64 w5 (.slice (some ⟨gv, 0, none⟩) K K) (digs 18446744073709551616 V K) := by rw [hgv]; exact own_row' hov5 (digs_length _ _ _)
      rw [← hgv, ← hgu]
      have dq : (w.heap.size + 1) ≠ gu ∧ w.heap.size ≠ gu ∧ gv ≠ gu ∧ gv ≠ (w.heap.size + 1) ∧ (w.heap.size + 1) ≠ w.heap.size ∧ w.heap.size ≤ gu := by omega
      clear hou hov5 hgv hgu hvlt hsz3 hgQ hgR
      obtain ⟨h0a, h0b, h0c, h0d⟩ := H0.out
      have hVp : 0 < V := Nat.lt_of_lt_of_le (Nat.mul_pos (by omega) (Nat.pow_pos (by omega))) v3
      have hXs : X * 2 ^ s < 2 ^ s * 18446744073709551616 ^ L := by rw [Nat.mul_comm]; exact Nat.mul_lt_mul_of_pos_left hXb.out (Nat.pow_pos (by omega))
      have hXN : X * 2 ^ s < 18446744073709551616 ^ N := up_bound hXs s63 (by omega)
      obtain ⟨orig, horig⟩ : ∃ orig, orig = digs 18446744073709551616 (X * 2 ^ s) N := ⟨_, rfl⟩
      rw [← horig] at hou'
      have ho1 : orig.length = N := by rw [horig, digs_length]
      have ho2 : Digs 18446744073709551616 orig := by rw [horig]; exact digs_digs (by omega) _ _
      have ho3 : val 18446744073709551616 orig = X * 2 ^ s := by rw [horig, val_digs, Nat.mod_eq_of_lt hXN]
      have hstart : val 18446744073709551616 (orig.drop T) < V := by rw [val_dropB (by omega) ho2, ho3]; exact start_below hXs s63 v3 (by omega)
      have HST0 : Hid (orig.length = N ∧ Digs 18446744073709551616 orig ∧ val 18446744073709551616 orig = X * 2 ^ s) := ⟨ho1, ho2, ho3⟩
      have hdV : (digs 18446744073709551616 V K).getD nk 0 = dig 18446744073709551616 V nk := digs_getD _ _ _ _ (by omega)
      rw [← hdV] at v2
      have hvV : V = val 18446744073709551616 (digs 18446744073709551616 V K) := by rw [val_digs, Nat.mod_eq_of_lt v1]
      have HT := toHid hT
      have HRV := toHid hrv
      have HOU := toHid hou'
      have HV2 := toHid v2
      have HVV := toHid hvV
      have HS0 := toHid hstart
      have gT : (L : Int) - (K : Int) + 1 = (T : Int) ∨ (T = 0 ∧ (L : Int) - (K : Int) + 1 ≤ 0) := by omega
      obtain ⟨TI, hTI⟩ : ∃ TI, TI = (L : Int) - (K : Int) + 1 := ⟨_, rfl⟩
      have gTk : ∀ k : Nat, k ≤ T → ((k : Int) < TI ↔ k < T) := fun k hk => by omega
      rw [← hTI]
      clear hT hrv hou' v2 hvV hstart ho1 ho2 ho3 horig hdV hXN hXs gT cy hTI h0a h0b h0c
      go_loopw [63] (fun i wr => ∃ (k : Nat) (zs qs : List Nat), k ≤ T ∧ i = .int .i64 (k : Int) ∧ OwnN .u64 24 wr w.heap.size (.slice (some ⟨gu, 0, none⟩) N N) N zs ∧ OwnN .u64 24 wr w.heap.size (.slice (some ⟨(w.heap.size + 1), 0, none⟩) L L) L ((List.replicate T 0).take (T - k) ++ (qs ++ List.replicate (L - T) 0)) ∧ Kept (fun b => b = gu ∨ b = (w.heap.size + 1)) w5 wr ∧
          Hid ((zs.length = N ∧ Digs 18446744073709551616 zs) ∧ (qs.length = k ∧ Digs 18446744073709551616 qs) ∧ zs.take (T - k) = orig.take (T - k) ∧ val 18446744073709551616 (zs.drop (T - k)) < V ∧ V * val 18446744073709551616 qs + val 18446744073709551616 (zs.drop (T - k)) = val 18446744073709551616 (orig.drop (T - k)))) (fun i _ => T - (intOf i).toNat)
      case atStart =>
        refine ⟨0, orig, [], Nat.zero_le _, rfl, HOU.out, ?_, Kept.refl _ _, ⟨⟨HST0.out.1, HST0.out.2.1⟩, ⟨rfl, Digs.nil _⟩, rfl, by rw [Nat.sub_zero]; exact HS0.out, by rw [val, Nat.mul_zero, Nat.zero_add]⟩⟩
        rw [Nat.sub_zero, List.take_of_length_le (by simp), List.nil_append, List.replicate_append_replicate, show T + (L - T) = L by have := HT.out; omega]
        exact hoL5
      case round =>
        clear hoL5
        obtain ⟨k, zs, qs, hk, rfl, hou, hoq, hkp, HI⟩ := hrel
        by_cases hkT : k < T
        · have gk : (k : Int) < TI := (gTk k hk).2 hkT
          have hk0 : (0 : Int) ≤ (k : Int) := Int.natCast_nonneg _
          have hTT := HT.out
          obtain ⟨h0a, h0b, h0c, _⟩ := H0.out
          obtain ⟨j, hj⟩ : ∃ j, j = T - 1 - k := ⟨_, rfl⟩
          have hTk : T - k = j + 1 := by omega
          have hTk2 : T - (k + 1) = j := by omega
          have gj : (L : Int) - (K : Int) - (k : Int) = (j : Int) := by omega
          have gj1 : (j : Int) < (L : Int) := by omega
          have hjN : j + (K + 1) ≤ N := by omega
          obtain ⟨⟨i1, i2⟩, ⟨i3, i4⟩, i5, i6, i7⟩ := HI.out
          rw [hTk] at i5 i6 i7 hoq
          obtain ⟨U, hU⟩ : ∃ U, U = val 18446744073709551616 ((zs.drop j).take (K + 1)) := ⟨_, rfl⟩
          obtain ⟨dr1, dr2⟩ := div_roundB (by omega) i2 i1 HST0.out.1 hjN v1 hVp i6 i5 i7 U hU
          obtain ⟨l1, l2, l3, l4, l5⟩ := dr2 _ rfl
          obtain ⟨Q, hQ⟩ : ∃ Q, Q = U / V := ⟨_, rfl⟩
          obtain ⟨R, hR⟩ : ∃ R, R = U % V := ⟨_, rfl⟩
          have hQb : Q < 18446744073709551616 := by rw [hQ, Nat.div_lt_iff_lt_mul hVp, Nat.mul_comm]; exact dr1
          rw [← hR] at l1 l2 l3 l4 l5
          rw [← hQ] at l5
          have hrow : Row .u64 wr (.slice (some ⟨gv, 0, none⟩) K K) (digs 18446744073709551616 V K) := HRV.out.kept hkp (fun b hb e => by simp [Value.ownBlock] at hb; omega)
          have hTM := pTake gu w.heap.size N N j n nk K (N - j) (by omega) (by omega) zs (digs 18446744073709551616 V K) (some ⟨gv, 0, none⟩) K U V Q R wr hou i1 i2 hjN (by omega) (by omega) hrow (digs_digs (by omega) _ _) (fun b hb e => by simp [Value.ownBlock] at hb; omega) HV2.out hU HVV.out dr1 hQ hR
          have hC6 : ∀ W, OwnN .u64 24 W w.heap.size (.slice (some ⟨(w.heap.size + 1), 0, none⟩) L L) L ((List.replicate T 0).take (j + 1) ++ (qs ++ List.replicate (L - T) 0)) → W.cell? ⟨(w.heap.size + 1), j, none⟩ = some (.int .u64 0) := fun W h => by
            rw [World.ownsRow.cellAt h j (by omega), List.getElem?_map, List.getElem?_append_left (by rw [List.length_take, List.length_replicate]; omega), List.getElem?_take, if_pos (by omega), List.getElem?_replicate, if_pos (by omega)]
            rfl
          have hST6 : Hid (∀ W, OwnN .u64 24 W w.heap.size (.slice (some ⟨(w.heap.size + 1), 0, none⟩) L L) L ((List.replicate T 0).take (j + 1) ++ (qs ++ List.replicate (L - T) 0)) → OwnN .u64 24 (W.setCell ⟨(w.heap.size + 1), j, none⟩ (.int .u64 (Q : Int))) w.heap.size (.slice (some ⟨(w.heap.size + 1), 0, none⟩) L L) L ((List.replicate T 0).take j ++ ((Q :: qs) ++ List.replicate (L - T) 0))) := fun W h => by
            have := (World.ownsRow.stored h j (.int .u64 (Q : Int))).1
            unfold OwnN
            rw [List.cons_append, ← set_front (by rw [List.length_replicate]; omega), List.map_set]
            exact this
          have HNX : Hid (((zs.take j ++ (digs 18446744073709551616 R (K + 1) ++ zs.drop (j + (K + 1)))).length = N ∧ Digs 18446744073709551616 (zs.take j ++ (digs 18446744073709551616 R (K + 1) ++ zs.drop (j + (K + 1))))) ∧ ((Q :: qs).length = k + 1 ∧ Digs 18446744073709551616 (Q :: qs)) ∧ (zs.take j ++ (digs 18446744073709551616 R (K + 1) ++ zs.drop (j + (K + 1)))).take j = orig.take j ∧ val 18446744073709551616 ((zs.take j ++ (digs 18446744073709551616 R (K + 1) ++ zs.drop (j + (K + 1)))).drop j) < V ∧ V * val 18446744073709551616 (Q :: qs) + val 18446744073709551616 ((zs.take j ++ (digs 18446744073709551616 R (K + 1) ++ zs.drop (j + (K + 1)))).drop j) = val 18446744073709551616 (orig.drop j)) := ⟨⟨l1, l2⟩, ⟨by rw [List.length_cons, i3], fun d hd => by rcases List.mem_cons.1 hd with h | h; omega; exact i4 d h⟩, l3, l4, l5⟩
          have HTK2 := toHid hTk2
          have gs1 : (j : Int) ≤ (j : Int) + (K : Int) + 1 := by omega
          have gs2 : (j : Int) + (K : Int) + 1 ≤ (N : Int) := by omega
          clear HI hj hTk hTk2 i1 i2 i3 i4 i5 i6 i7 l1 l2 l3 l4 l5 dr1 dr2 hU hQ hR hrow h0a h0b h0c hTT
          generalize zs.take j ++ (digs 18446744073709551616 R (K + 1) ++ zs.drop (j + (K + 1))) = zs2 at *
          rw [show K + 1 = j + K + 1 - j by omega] at hTM
          go_wp2_with fail
          refine hTM.mono ?_
          rintro e w6 ⟨rfl, hou6, k6⟩
          have hoq6 := k6.own hoq (fun b hb e => by simp [Value.ownBlock] at hb; omega)
          have c6 := hC6 _ hoq6
          have f6 := World.ownsRow.frozenAt hoq6 j
          clear hTM hC6
          go_wp2_with fail
          go_roundw
          case rel =>
            have kb : Kept (fun b => b = (w.heap.size + 1)) w6 (w6.setCell ⟨(w.heap.size + 1), j, none⟩ (.int .u64 (Q : Int))) := (Kept.refl (fun b => b = (w.heap.size + 1)) w6).setCell ⟨(w.heap.size + 1), j, none⟩ (fun _ => rfl) _
            refine ⟨k + 1, zs2, Q :: qs, by omega, by go_num, kb.own hou6 (fun b hb e => by simp [Value.ownBlock] at hb; omega), ?_, (hkp.next k6 (fun _ _ e => .inl e)).next kb (fun _ _ e => .inr e), by rw [HTK2.out]; exact HNX⟩
            rw [HTK2.out]
            exact hST6.out _ hoq6
          case measure => simp [intOf]; omega
        · have gk : ¬ (k : Int) < TI := fun h => hkT ((gTk k hk).1 h)
          obtain rfl : k = T := by omega
          obtain ⟨h0a, h0b, h0c, _⟩ := H0.out
          have hTT := HT.out
          obtain ⟨⟨i1, i2⟩, ⟨i3, i4⟩, _, i6, i7⟩ := HI.out
          rw [Nat.sub_self, List.drop_zero] at i6 i7
          rw [List.drop_zero, HST0.out.2.2] at i7
          rw [Nat.sub_self, List.take_zero, List.nil_append] at hoq
          obtain ⟨d1, d2⟩ := shift_div (M := X) (y := Y) (p := 2 ^ s) (Nat.pow_pos (by omega))
          rw [← HVE.out, ← i7] at d1 d2
          rw [Nat.mul_add_div hVp, Nat.div_eq_of_lt i6, Nat.add_zero] at d1
          rw [Nat.mul_add_mod, Nat.mod_eq_of_lt i6] at d2
          have hqf : qs ++ List.replicate (L - k) 0 = digs 18446744073709551616 (X / Y) L := by
            rw [fill_digs i4 d1 (by omega), i3]
          rw [hqf] at hoq
          obtain ⟨Z, hZ⟩ : ∃ Z, Z = val 18446744073709551616 zs := ⟨_, rfl⟩
          rw [← hZ] at d2
          have hzg : ∀ i, zs.getD i 0 = dig 18446744073709551616 Z i := fun i => by rw [hZ]; exact (dig_val (by omega) i2 i).symm
          have hcu : ∀ W, Kept (fun b => b = w.heap.size) wr W → ∀ i, i < N → W.cell? ⟨gu, i, none⟩ = some (.int .u64 (dig 18446744073709551616 Z i : Nat)) := fun W kk i hi => by
            have h1 := kk.own hou (fun b hb e => by simp [Value.ownBlock] at hb; omega)
            rw [World.ownsRow.cellAt h1 i (by omega), List.getElem?_map, ← hzg, List.getD_eq_getElem?_getD, List.getElem?_eq_getElem (by omega)]
            rfl
          have hor := hkp.own hoM5 (fun b hb e => by simp [Value.ownBlock] at hb; omega)
          have HCU := toHid hcu
          have HQ2 := toHid hoq
          have HD2 := toHid d2
          have hKN : K + 1 ≤ N := by omega
          obtain ⟨s2, hs2⟩ : ∃ s2, s2 = 64 - s := ⟨_, rfl⟩
          have gs1 : (s : Int) ≤ 64 := by omega
          have gs2 : IntKind.i64.wrap (64 - (s : Int)) = (s2 : Int) := by rw [IntKind.wrap_i64]; omega
          have gs3 : (s2 : Int) ≤ 64 := by omega
          have HS2 := toHid hs2
          clear HI i1 i2 i3 i4 i6 i7 d1 d2 hqf hZ hzg hcu hoq hou hoM5 h0a h0b h0c hTT hs2
          go_wp2_with fail
          go_loopw [86] (fun i wz => ∃ (m : Nat), m ≤ K ∧ i = .int .i64 (m : Int) ∧ OwnN .u64 24 wz w.heap.size (.slice (some ⟨w.heap.size, 0, none⟩) M M) M (digs 18446744073709551616 (Z / 2 ^ s) m ++ List.replicate (M - m) 0) ∧ Kept (fun b => b = w.heap.size) wr wz) (fun i _ => K - (intOf i).toNat)
          case atStart => exact ⟨0, Nat.zero_le _, rfl, by rw [Nat.sub_zero]; exact hor, Kept.refl _ _⟩
          case round =>
            clear hor
            obtain ⟨m, hm, rfl, hor, hkz⟩ := hrel
            by_cases hmK : m < K
            · have hm0 : (0 : Int) ≤ (m : Int) := Int.natCast_nonneg _
              have hm1 : (m : Int) < (K : Int) := by omega
              obtain ⟨m1, hm1e⟩ : ∃ m1, m1 = m + 1 := ⟨_, rfl⟩
              have gm1 : IntKind.i64.wrap ((m : Int) + 1) = (m1 : Int) := by rw [IntKind.wrap_i64]; omega
              have gm2 : (m : Int) < (N : Int) := by omega
              have gm3 : (m1 : Int) < (N : Int) := by omega
              have gm4 : (m : Int) < (M : Int) := by omega
              have c1 := HCU.out _ hkz m (by omega)
              have c2 := HCU.out _ hkz m1 (by omega)
              have hdd := down_digit (Z := Z) (i := m) s63
              rw [← HS2.out, ← hm1e] at hdd
              have cr := fill_cell hor (digs_length _ _ _) (by omega)
              have fr := World.ownsRow.frozenAt hor m
              have hST : Hid (OwnN .u64 24 (wr.setCell ⟨w.heap.size, m, none⟩ (.int .u64 (dig 18446744073709551616 (Z / 2 ^ s) m : Nat))) w.heap.size (.slice (some ⟨w.heap.size, 0, none⟩) M M) M (digs 18446744073709551616 (Z / 2 ^ s) (m + 1) ++ List.replicate (M - (m + 1)) 0)) := by
                have := (World.ownsRow.stored hor m (.int .u64 (dig 18446744073709551616 (Z / 2 ^ s) m : Nat))).1
                unfold Hid OwnN
                rw [digs, ← set_snoc _ M m _ (digs_length _ _ _) (by omega), List.map_set]
                exact this
              obtain ⟨z, hz⟩ : ∃ z, z = dig 18446744073709551616 (Z / 2 ^ s) m := ⟨_, rfl⟩
              rw [← hz] at hdd hST
              obtain ⟨x1, hx1⟩ : ∃ x1, x1 = dig 18446744073709551616 Z m := ⟨_, rfl⟩
              obtain ⟨x2, hx2⟩ : ∃ x2, x2 = dig 18446744073709551616 Z m1 := ⟨_, rfl⟩
              rw [← hx1, ← hx2] at hdd
              rw [← hx1] at c1
              rw [← hx2] at c2
              obtain ⟨xl, hxl⟩ : ∃ xl, xl = x1 / 2 ^ s := ⟨_, rfl⟩
              rw [← hxl] at hdd
              have gxl : (x1 : Int) / 2 ^ s = (xl : Int) := by rw [hxl]; simp
              have HM1 := toHid hm1e
              clear hz hx1 hx2 hxl hm1e hor
              go_wp2_with fail
              go_still_tail 17, (by kernel_rfl)
              change wpList _ _ _ _ _ wr.drew
              go_wp2_with fail
              go_roundw
              case rel => exact ⟨m1, by have := HM1.out; omega, rfl, by rw [HM1.out]; exact hST.out, (hkz.setCell ⟨w.heap.size, m, none⟩ (fun _ => rfl) _).drew⟩
              case measure => have := HM1.out; simp [intOf]; omega
            · have hm1 : ¬ (m : Int) < (K : Int) := by omega
              obtain rfl : m = K := by omega
              rw [HD2.out] at hor
              have hf := fill_digs (m := M) (digs_digs (by omega) (X % Y) m) (V := X % Y) (by rw [val_digs, Nat.mod_eq_of_lt (Nat.lt_trans (Nat.mod_lt _ hY0) HN3.out)]) (by rw [digs_length]; omega)
              rw [digs_length] at hf
              rw [← hf] at hor
              have HQ3 := toHid (hkz.own HQ2.out (fun b hb e => by have e' : b = w.heap.size := e; simp [Value.ownBlock] at hb; omega))
              have HKK := toHid ((k15.next hkp (fun x hx e => by rcases e with e | e <;> omega)).next hkz (fun x hx e => by have e' : x = w.heap.size := e; omega))
              clear hf
              go_wp2_with fail
              go_ret2
              exact ⟨_, _, rfl, HQ3.out, hor, HKK.out⟩

end Go.Proofs.YtiljkgoafknefaaGreat

