/- Package product: takeMultiple. -/
import Derived.Test.YtcdeankllgpnfabQuE
namespace Go.Proofs.Ytcdeankllgpnfab
open Go.RowKit

/-- What was taken once too often is added again. -/
theorem add_back {B : Nat} (hB : 0 < B) {os : List Nat} {V U q R M : Nat} (hol : os.length = M + 1) (hod : Digs B os) (hV : V < B ^ M) (hval : val B os + V * (q + 1) = U + B ^ (M + 1)) (hR : V * q + R = U) (hRV : R < V) :
    os.getD M 0 + (val B (os.take M) + V) / B ^ M = B ∧ digs B (val B (os.take M) + V) M = digs B R M ∧ digs B R (M + 1) = digs B R M ++ [0] := by
  have e1 := val_take_drop B os M (by omega)
  rw [drop_consB (by omega), List.drop_of_length_le (by omega)] at e1
  simp only [val, Nat.mul_zero, Nat.add_zero] at e1
  have hlt := val_lt hB (hod.take M)
  rw [List.length_take, Nat.min_eq_left (by omega)] at hlt
  have ht : os.getD M 0 < B := hod.getD hB M
  generalize val B (os.take M) = lo at *
  generalize os.getD M 0 = top at *
  rw [e1, Nat.mul_add, Nat.mul_one, Nat.pow_succ] at hval
  have hp : 0 < B ^ M := Nat.pow_pos hB
  have hRP : R < B ^ M := by omega
  generalize hP : B ^ M = P at *
  have hS : lo + V = R + P * (B - top) := by
    have h1 : P * (B - top) = P * B - P * top := Nat.mul_sub P B top
    have h2 : P * top ≤ P * B := Nat.mul_le_mul_left _ (by omega)
    omega
  have hd1 : (lo + V) / P = B - top := by rw [hS, Nat.add_mul_div_left _ _ hp, Nat.div_eq_of_lt hRP, Nat.zero_add]
  refine ⟨by rw [hd1]; omega, ?_, ?_⟩
  · refine digs_val hB (digs_digs hB _ _) (digs_length _ _ _) ?_
    rw [val_digs, hP, hS, Nat.add_mul_mod_self_left]
  · rw [digs]
    congr 1
    rw [dig, hP, Nat.div_eq_of_lt hRP, Nat.zero_mod]

set_option maxRecDepth 20000 in
set_option maxHeartbeats 2000000 in
/-- takeMultiple. -/
theorem pTake (g base N cap j n n1 M c : Nat) (hn1 : n1 = n + 1) (hM : M = n + 2) (zs vs : List Nat) (bo : Option Addr) (bc U V Q R : Nat) (w : World) (ho : OwnN .u64 24 w base (.slice (some ⟨g, 0, none⟩) N cap) N zs) (hzl : zs.length = N) (hzd : Digs 18446744073709551616 zs) (hj : j + (M + 1) ≤ N) (hN : N ≤ 100000000) (hcc : M + 1 ≤ c)
    (hv : Row .u64 w (.slice bo M bc) vs) (hvd : Digs 18446744073709551616 vs) (hap : ∀ b, (Value.slice bo M bc).ownBlock = some b → b ≠ g) (hn : 9223372036854775808 ≤ vs.getD n1 0) (hU : U = val 18446744073709551616 ((zs.drop j).take (M + 1))) (hV : V = val 18446744073709551616 vs) (hlt : U < V * 18446744073709551616) (hQ : Q = U / V) (hR : R = U % V) :
    Calls Try.prog 44 #[.slice (some ⟨g, j, none⟩) (M + 1) c, .slice bo M bc] w fun e w' => e = .returned (.int .u64 (Q : Nat)) ∧
      OwnN .u64 24 w' base (.slice (some ⟨g, 0, none⟩) N cap) N (zs.take j ++ (digs 18446744073709551616 R (M + 1) ++ zs.drop (j + (M + 1)))) ∧ Kept (fun b => b = g) w w' := by
  obtain ⟨_, _, _, e1, hLv, _, _, _, hnum⟩ := hv.open
  cases e1
  have eV := toHid hLv.out
  have hsl : ((zs.drop j).take (M + 1)).length = n + 3 := by rw [List.length_take, List.length_drop, hzl]; omega
  have hsd : Digs 18446744073709551616 ((zs.drop j).take (M + 1)) := (hzd.drop j).take _
  have hge : ∀ k, k < M + 1 → ((zs.drop j).take (M + 1)).getD k 0 = zs.getD (j + k) 0 := fun k hk => by rw [List.getD_eq_getElem?_getD, List.getElem?_take, if_pos hk, List.getElem?_drop, ← List.getD_eq_getElem?_getD]
  have hcu : ∀ k, k < M + 1 → w.cell? ⟨g, j + k, none⟩ = some (.int .u64 (zs.getD (j + k) 0 : Nat)) := fun k hk => by
    rw [World.ownsRow.cellAt ho (j + k) (by omega), List.getElem?_map, List.getD_eq_getElem?_getD, List.getElem?_eq_getElem (by omega)]
    rfl
  have hOK := toHid (fun q hq h => guess_ok (q := q) (n := n) hsd hvd hsl (hLv.out.trans hM) (by rw [← hn1]; exact hn) (by rw [← hU, ← hV]; exact hlt) hq h)
  rw [← hU, ← hV, ← hM, ← hn1, hge M (by omega), hge n1 (by omega), hge n (by omega)] at hOK
  have cu2 := hcu M (by omega)
  have cu1 := hcu n1 (by omega)
  have cu0 := hcu n (by omega)
  obtain ⟨b2, off2, rfl, cv1⟩ := hnum n1 (by omega)
  obtain ⟨_, _, e2, cv0⟩ := hnum n (by omega)
  cases e2
  have b2' := hzd.getD (by omega) (j + M)
  have b1' := hzd.getD (by omega) (j + n1)
  have b0' := hzd.getD (by omega) (j + n)
  have d1' := hvd.getD (by omega) n1
  have d0' := hvd.getD (by omega) n
  have hG := fun W => pGuess (zs.getD (j + M) 0) (zs.getD (j + n1) 0) (zs.getD (j + n) 0) (vs.getD n1 0) (vs.getD n 0) b1' b0' d1' d0' hn W
  have hVp : 0 < V := by
    rcases Nat.eq_zero_or_pos V with h | h
    · rw [h] at hlt; omega
    · exact h
  have gw1 : IntKind.i64.wrap ((M : Int) - 1) = (n1 : Int) := by rw [IntKind.wrap_i64]; omega
  have gw2 : IntKind.i64.wrap ((M : Int) - 2) = (n : Int) := by rw [IntKind.wrap_i64]; omega
  have g1 : (M : Int) < (M : Int) + 1 := by omega
  have g2 : (n1 : Int) < (M : Int) + 1 := by omega
  have g3 : (n : Int) < (M : Int) + 1 := by omega
  have g4 : (n1 : Int) < (M : Int) := by omega
  have g5 : (n : Int) < (M : Int) := by omega
  have HO := toHid ho
  have HZL := toHid hzl
  have HZD := toHid hzd
  have HV := toHid hv
  have HVD := toHid hvd
  have HU := toHid hU
  have HVV := toHid hV
  have HQ := toHid hQ
  have HR := toHid hR
  have HAP := toHid hap
  have HM := toHid hM
  clear ho hzl hzd hv hvd hU hV hQ hR hLv hnum hsl hsd hge hcu hn hap hn1 hM
  generalize zs.getD (j + M) 0 = u2 at *
  generalize zs.getD (j + n1) 0 = u1 at *
  generalize zs.getD (j + n) 0 = u0 at *
  generalize vs.getD n1 0 = v1 at *
  generalize vs.getD n 0 = v0 at *
  go_enter Try.func44, Try.ntmps44
  go_wp2_with fail
  go_still_tail 24, (by kernel_rfl)
  change wpList _ _ _ _ _ w.drew
  go_wp2_with fail
  refine (hG _).mono ?_
  rintro e w1 ⟨q, rfl, hq, hqq, m, rfl⟩
  obtain ⟨t1, t2⟩ := hOK.out q hq hqq
  have hS := pSubRow g base N cap j M c q zs vs (.slice (some ⟨b2, off2, none⟩) M bc) (w.drew.drewN m) (((Kept.refl Nought w).drew.drewN m).own HO.out (fun _ _ f => f)) HZL.out HZD.out hj hN (HV.out.grew ((Kept.refl Nought w).drew.drewN m)) eV.out HVD.out (fun _ => HAP.out) hq
  rw [← HU.out, ← HVV.out] at hS
  have k1 := (Kept.refl (fun b => b = g) w).drew.drewN m
  generalize w.drew.drewN m = W1 at *
  clear hG hOK hqq cu2 cu1 cu0 cv1 cv0
  go_wp2_with fail
  refine hS.mono ?_
  rintro e w2 ⟨b, rfl, hb, os, hol, hod, hval, ho2, k2⟩
  clear hS
  by_cases hb1 : b = 1
  · subst hb1
    rw [Nat.mul_one] at hval
    have hVM : V < 18446744073709551616 ^ M := by
      rw [HVV.out, ← eV.out]
      exact val_lt (by omega) HVD.out
    have hdm := Nat.div_add_mod U V
    rw [← HQ.out, ← HR.out] at hdm
    rw [← HQ.out] at t1 t2
    have hRV : R < V := by rw [HR.out]; exact Nat.mod_lt _ hVp
    have hosl : val 18446744073709551616 os < 18446744073709551616 ^ (M + 1) := by
      have := val_lt (by omega) hod
      rwa [hol] at this
    have hqQ : q = Q + 1 := by
      have h1 : q ≠ Q := fun e => by
        rw [e] at hval
        exact absurd hval (Nat.ne_of_lt (by omega))
      exact Nat.le_antisymm t2 (by omega)
    subst hqQ
    obtain ⟨a1, a2, a3⟩ := add_back (by omega) hol hod hVM hval hdm hRV
    obtain ⟨zs2, hzs2⟩ : ∃ zs2, zs2 = zs.take j ++ (os ++ zs.drop (j + (M + 1))) := ⟨_, rfl⟩
    have hlj : (zs.take j).length = j := by rw [List.length_take, HZL.out]; omega
    have z1 : zs2.length = N := by rw [hzs2]; exact len_put HZL.out hol hj
    have z2 : Digs 18446744073709551616 zs2 := by rw [hzs2]; exact digs_take_put HZD.out hod
    have z3 : zs2.take j = zs.take j := by rw [hzs2, List.take_left' hlj]
    have z4 : zs2.drop j = os ++ zs.drop (j + (M + 1)) := by rw [hzs2, List.drop_left' hlj]
    have z5 : zs2.drop (j + (M + 1)) = zs.drop (j + (M + 1)) := by rw [← List.drop_drop, z4, List.drop_left' hol]
    have z6 : (zs2.drop j).take M = os.take M := by rw [z4, List.take_append_of_le_length (by omega)]
    have z7 : zs2.getD (j + M) 0 = os.getD M 0 := by
      rw [List.getD_eq_getElem?_getD, ← List.getElem?_drop, z4, List.getElem?_append_left (by omega), ← List.getD_eq_getElem?_getD]
    rw [← hzs2] at ho2
    obtain ⟨S, hS⟩ : ∃ S, S = val 18446744073709551616 (os.take M) + V := ⟨_, rfl⟩
    rw [← hS] at a1 a2
    obtain ⟨R2, hR2⟩ : ∃ R2, R2 = S / 18446744073709551616 ^ M := ⟨_, rfl⟩
    rw [← hR2, ← z7] at a1
    have hAR := fun W (kk : Kept Nought w2 W) => pAddRow g base N cap j M c 1 zs2 vs (.slice (some ⟨b2, off2, none⟩) M bc) W (kk.own ho2 (fun _ _ f => f)) z1 z2 (by omega) ((HV.out.kept' (k1.trans k2) (fun _ => HAP.out)).grew kk) eV.out HVD.out (fun _ => HAP.out) (by omega) R2 S (by rw [z6, Nat.mul_one, ← HVV.out]; exact hS) hR2
    have hcM : w2.cell? ⟨g, j + M, none⟩ = some (.int .u64 (zs2.getD (j + M) 0 : Nat)) := by
      rw [World.ownsRow.cellAt ho2 (j + M) (by omega), List.getElem?_map, List.getD_eq_getElem?_getD, List.getElem?_eq_getElem (by omega)]
      rfl
    have hC3 : ∀ W', OwnN .u64 24 W' base (.slice (some ⟨g, 0, none⟩) N cap) N (zs2.take j ++ (digs 18446744073709551616 S M ++ zs2.drop (j + M))) → W'.cell? ⟨g, j + M, none⟩ = some (.int .u64 (zs2.getD (j + M) 0 : Nat)) := fun W' h => part_cell h z1 (digs_length _ _ _) (by omega)
    have hF3 : ∀ W', OwnN .u64 24 W' base (.slice (some ⟨g, 0, none⟩) N cap) N (zs2.take j ++ (digs 18446744073709551616 S M ++ zs2.drop (j + M))) → W'.frozen? ⟨g, j + M, none⟩ = false := fun W' h => World.ownsRow.frozenAt h (j + M)
    have hST : Hid (∀ W', OwnN .u64 24 W' base (.slice (some ⟨g, 0, none⟩) N cap) N (zs2.take j ++ (digs 18446744073709551616 S M ++ zs2.drop (j + M))) → OwnN .u64 24 (W'.setCell ⟨g, j + M, none⟩ (.int .u64 0)) base (.slice (some ⟨g, 0, none⟩) N cap) N (zs.take j ++ (digs 18446744073709551616 R (M + 1) ++ zs.drop (j + (M + 1))))) := fun W' h => by
      have := (World.ownsRow.stored h (j + M) (.int .u64 0)).1
      unfold OwnN
      rw [a3, ← a2, ← z3, ← z5, ← part_set zs2 _ j M 0 (digs_length _ _ _) (by omega), List.map_set]
      exact this
    have hadd : IntKind.u64.wrap ((zs2.getD (j + M) 0 : Nat) + (R2 : Int)) = 0 := by rw [IntKind.wrap_u64]; omega
    change ∀ W, Kept Nought w2 W → Calls Try.prog 28 #[.slice (some ⟨g, j, none⟩) M c, .slice (some ⟨b2, off2, none⟩) M bc, .int .u64 1] W _ at hAR
    have gc : (M : Int) ≤ (c : Int) := by omega
    have K12 := toHid (k1.trans k2)
    clear hval hdm hRV hosl a1 a2 a3 hzs2 z1 z2 z3 z4 z5 z6 z7 hS hR2 ho2 k1 k2 hlj t1 t2 hVM
    generalize zs2.getD (j + M) 0 = tp at *
    generalize zs2.take j ++ (digs 18446744073709551616 S M ++ zs2.drop (j + M)) = zs3 at *
    go_wp2_with fail
    go_region_with (go_at_call 28; refine (hAR _ ((Kept.refl _ _).drew)).mono ?_; rintro e w3 ⟨rfl, ho3, k3⟩; have hc3 := hC3 _ ho3; have hf3 := hF3 _ ho3)
    all_goals
      go_wp2_with fail
      go_ret
      exact ⟨rfl, hST.out _ ho3, (((K12.out.drew).trans k3).setCell _ (fun _ => rfl) _)⟩
  · have hb0 : b = 0 := by omega
    subst hb0
    rw [Nat.mul_zero, Nat.add_zero] at hval
    have hqe : q = Q := by
      rw [HQ.out]
      exact quot_eq hVp t1 (by omega)
    have hoe : os = digs 18446744073709551616 R (M + 1) := digs_val (by omega) hod hol (by
      have h1 : val 18446744073709551616 os = R := by
        rw [HR.out]
        have := Nat.div_add_mod U V
        rw [← HQ.out, ← hqe] at this
        omega
      rw [← h1, Nat.mod_eq_of_lt]
      have := val_lt (by omega) hod
      rwa [hol] at this)
    have HQE := toHid hqe
    have HOE := toHid hoe
    clear hqe hoe hval t1 t2
    go_wp2_with fail
    go_ret
    rw [← HQE.out, ← HOE.out]
    exact ⟨rfl, ho2, k1.trans k2⟩

end Go.Proofs.Ytcdeankllgpnfab
