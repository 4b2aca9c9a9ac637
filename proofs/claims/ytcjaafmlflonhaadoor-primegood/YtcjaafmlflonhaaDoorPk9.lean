/- Put together of: Pri1 Siv1 Seq2 Seq3 Seq4 Arr0. -/
import Derived.Test.YtcjaafmlflonhaaDoorPk8

/- Package prime: mayBeDrawn, parts, Candidate. -/
namespace Go.Proofs.YtcjaafmlflonhaaDoor
open Go.RowKit

set_option maxHeartbeats 400000 in
/-- mayBeDrawn. -/
theorem pMay (k : Int) (R : Bool) (hR : R = decide (16 ≤ k ∧ k ≤ 4096)) (w : World) :
    Calls Tryd.prog 11 #[.int .i64 k] w fun e w' => e = .returned (.bool R) ∧ w' = w := by
  by_cases h1 : k ≥ 16
  · by_cases h2 : k ≤ 4096
    · obtain rfl : R = true := by rw [hR]; exact decide_eq_true ⟨h1, h2⟩
      clear hR
      go_enter Tryd.func11, Tryd.ntmps11
      go_wp2_with fail
      go_ret
      exact ⟨rfl, rfl⟩
    · obtain rfl : R = false := by rw [hR]; exact decide_eq_false fun h => h2 h.2
      clear hR
      go_enter Tryd.func11, Tryd.ntmps11
      go_wp2_with fail
      go_ret
      exact ⟨rfl, rfl⟩
  · obtain rfl : R = false := by rw [hR]; exact decide_eq_false fun h => h1 h.1
    clear hR
    go_enter Tryd.func11, Tryd.ntmps11
    go_wp2_with fail
    go_ret
    exact ⟨rfl, rfl⟩

set_option maxHeartbeats 400000 in
/-- parts. -/
theorem pParts (n s q : Nat) (hq : q = (n + s - 1) / s) (hn : n ≤ 4096) (hs0 : 0 < s) (hs : s ≤ 64) (w : World) :
    Calls Tryd.prog 12 #[.int .i64 (n : Int), .int .i64 (s : Int)] w fun e w' => e = .returned (.int .i64 (q : Int)) ∧ w' = w := by
  have g1 : ((n : Int) + (s : Int) - 1) / (s : Int) = (q : Int) := by
    rw [hq]
    have e : (n : Int) + (s : Int) - 1 = ((n + s - 1 : Nat) : Int) := by omega
    rw [e]
    rfl
  have g2 : ((n : Int) + (s : Int) - 1).tdiv (s : Int) = (q : Int) := by rw [Int.tdiv_eq_ediv_of_nonneg (by omega)]; exact g1
  have g3 : ¬ (s : Int) = 0 := by omega
  have g4 : ((s : Int) == 0) = false := by simpa using g3
  have hqb : q ≤ 5000 := by rw [hq]; exact Nat.le_trans (Nat.div_le_self _ _) (by omega)
  clear hq
  go_enter Tryd.func12, Tryd.ntmps12
  go_wp2_with fail
  go_ret
  exact ⟨rfl, rfl⟩

/-- The number while its bits are made 1. -/
def candY (X n : Nat) : Nat → Nat
  | 0 => X % 2 ^ n
  | 1 => X % 2 ^ n ||| 2 ^ (n - 1)
  | 2 => X % 2 ^ n ||| 2 ^ (n - 1) ||| 2 ^ (n - 2)
  | _ => X % 2 ^ n ||| 2 ^ (n - 1) ||| 2 ^ (n - 2) ||| 1

theorem own_lt_all {w : World} {base n : Nat} {e : TypeId} {g cap : Nat} {xs : List Value} (h : w.ownsRow base e 1 (.slice (some ⟨g, 0, none⟩) n cap) n xs) : base ≤ g := (h.lt g rfl).1

theorem own_dig {w : World} {base L cap g : Nat} {Y j : Nat} (h : OwnN .u64 33 w base (.slice (some ⟨g, 0, none⟩) L cap) L (digs 18446744073709551616 Y L)) (hj : j < L) : w.cell? ⟨g, j, none⟩ = some (.int .u64 (dig 18446744073709551616 Y j : Nat)) := by
  rw [World.ownsRow.cellAt h j (by omega), List.getElem?_map, List.getElem?_eq_getElem (by rw [digs_length]; exact hj)]
  have e := digs_getD 18446744073709551616 Y L j hj
  rw [List.getD_eq_getElem?_getD, List.getElem?_eq_getElem (by rw [digs_length]; exact hj)] at e
  simp only [Option.getD_some] at e
  rw [e]
  rfl

set_option maxRecDepth 20000 in
set_option maxHeartbeats 2000000 in
/-- Candidate. -/
theorem pCand (v : Value) (bs : List Nat) (k : Int) (h0 : -9223372036854775808 ≤ k) (h1 : k ≤ 9223372036854775807) (E : Nat) (RL : List Nat) (hE : E = candE bs k) (hRL : RL = if E = 0 then digs 18446744073709551616 (candN bs k.toNat) ((k.toNat + 63) / 64) else []) (w : World) (hu : Row .u8 w v bs) (hd : Digs 256 bs) :
    Calls Tryd.prog 6 #[v, .int .i64 k] w fun e w' => ∃ v', e = .returned (.tuple #[v', .int .i64 (E : Nat)]) ∧ Row .u64 w' v' RL ∧ (∀ b, v'.ownBlock = some b → w.heap.size ≤ b) ∧ Kept Nought w w' := by
  have HU := toHid hu
  obtain ⟨ao, m, cap, rfl, hm, -, -, -, -⟩ := hu.open
  have hE1 : Hid (k < 16 ∨ 4096 < k ∨ (m : Int) ≠ (k + 7) / 8 → E = 1 ∧ RL = []) := fun h => by
    have e1 : E = 1 := by rw [hE, candE, hm.out, if_pos h]
    exact ⟨e1, by rw [hRL, if_neg (by omega)]⟩
  by_cases hr : 16 ≤ k ∧ k ≤ 4096
  · have JM := pMay k true (decide_eq_true hr).symm w
    obtain ⟨n, rfl⟩ := Int.eq_ofNat_of_zero_le (show 0 ≤ k by omega)
    obtain ⟨z, hz⟩ : ∃ z, z = (n + 7) / 8 := ⟨_, rfl⟩
    obtain ⟨L, hL⟩ : ∃ L, L = (n + 63) / 64 := ⟨_, rfl⟩
    have JZ := pParts n 8 z (by omega) (by omega) (by omega) (by omega) w
    have JL := pParts n 64 L (by omega) (by omega) (by omega) (by omega) w
    by_cases hmz : m = z
    · have hE0 : E = 0 := by
        rw [hE, candE, if_neg]
        rw [hm.out]
        omega
      subst hE0
      rw [if_pos rfl] at hRL
      have hlt : bev bs < 2 ^ (64 * L) := by
        refine Nat.lt_of_lt_of_le (bev_ltB hd) ?_
        rw [hm.out, show (256 : Nat) = 2 ^ 8 from rfl, ← Nat.pow_mul]
        exact Nat.pow_le_pow_right (by omega) (by omega)
      have hw : wordsN (bev bs) ≤ L := by
        rw [wordsN_le, show (18446744073709551616 : Nat) = 2 ^ 64 from rfl, ← Nat.pow_mul]
        exact hlt
      have hLb : L ≤ 64 := by omega
      have hL1 : 1 ≤ L := by omega
      have JO := nOfO (.slice ao m cap) bs (L : Int) w hu hd
      rw [(res_ok (by omega) hw).1, (res_ok (by omega) hw).2, digs_length] at JO
      have HRL : Hid (RL = digs 18446744073709551616 (candY (bev bs) n 3) L) := by
        unfold Hid
        rw [hRL, hL]
        congr 1
        exact (cand_bits bs n (by omega)).symm
      obtain ⟨X, hX⟩ : ∃ X, X = bev bs := ⟨_, rfl⟩
      rw [← hX] at JO HRL
      obtain ⟨L1, hL1'⟩ : ∃ L1, L = L1 + 1 := ⟨L - 1, by omega⟩
      have gL : (L : Int) - 1 = (L1 : Int) := by omega
      obtain ⟨s, hs⟩ : ∃ s, s = 64 * L - n := ⟨_, rfl⟩
      have gs : 64 * (L : Int) - (n : Int) = (s : Int) := by omega
      have hsb : s < 64 := by omega
      obtain ⟨y, hy⟩ : ∃ y, y = 18446744073709551615 / 2 ^ s := ⟨_, rfl⟩
      have gy : (18446744073709551615 : Int) / 2 ^ s = (y : Int) := by rw [hy]; simp
      have hyb : y < 18446744073709551616 := by rw [hy]; exact Nat.lt_of_le_of_lt (Nat.div_le_self _ _) (by omega)
      have hxd : dig 18446744073709551616 X L1 < 18446744073709551616 := Nat.mod_lt _ (by omega)
      have HTOP : Hid ((digs 18446744073709551616 X L).set L1 (dig 18446744073709551616 X L1 &&& y) = digs 18446744073709551616 (candY X n 0) L) := by
        have := digs_top X n L (by omega) (by omega) (by omega)
        rw [← hs, ← hy, show L - 1 = L1 by omega] at this
        exact this
      have hand := u64_and_nat (dig 18446744073709551616 X L1) y hxd hyb
      obtain ⟨p1, hp1⟩ : ∃ p1, p1 = n - 1 := ⟨_, rfl⟩
      obtain ⟨p2, hp2⟩ : ∃ p2, p2 = n - 2 := ⟨_, rfl⟩
      have gp1 : (n : Int) - 1 = (p1 : Int) := by omega
      have gp2 : (n : Int) - 2 = (p2 : Int) := by omega
      have HOR : Hid (∀ i p, i < 3 → (p = p1 ∧ i = 0 ∨ p = p2 ∧ i = 1 ∨ p = 0 ∧ i = 2) → p ≤ 4096 ∧ p / 64 < L ∧ candY X n (i + 1) = candY X n i ||| 2 ^ p) := by
        rintro i p hi (⟨rfl, rfl⟩ | ⟨rfl, rfl⟩ | ⟨rfl, rfl⟩)
        · exact ⟨by omega, by omega, by rw [hp1]; rfl⟩
        · exact ⟨by omega, by omega, by rw [hp2]; rfl⟩
        · exact ⟨by omega, by omega, rfl⟩
      have hgz : ((m : Int) == (z : Int)) = true := by rw [hmz]; simp
      have hgz' : ((m : Int) != (z : Int)) = false := by rw [hmz]; simp
      have hL64 : L1 < L := by omega
      have hnb : n ≤ 4096 := by omega
      have hp1b : p1 ≤ 4096 := by omega
      have hp2b : p2 ≤ 4096 := by omega
      clear hE hRL hu hd hE1 hr hlt hw hX hs hy hp1 hp2 hL hz hL1'
      subst hmz
      go_enter Tryd.func6, Tryd.ntmps6
      go_wp2_with fail
      refine JM.mono ?_
      rintro e w1 ⟨rfl, rfl⟩
      go_wp2_with fail
      refine JZ.mono ?_
      rintro e w2 ⟨rfl, rfl⟩
      go_wp2_with fail
      refine JL.mono ?_
      rintro e w3 ⟨rfl, rfl⟩
      go_wp2_with fail
      refine JO.mono ?_
      rintro e w4 ⟨u, rfl, hO, k4⟩
      obtain ⟨g, c, rfl⟩ : ∃ g c, u = .slice (some ⟨g, 0, none⟩) L c := by
        rcases hO.2 with ⟨_, e⟩ | ⟨g, c, _, e, _⟩
        · omega
        · exact ⟨g, c, e⟩
      have hbg := own_lt_all hO
      have hc := own_dig hO hL64
      have hf := World.ownsRow.frozenAt hO L1
      have hst := (World.ownsRow.stored hO L1 (.int .u64 ((dig 18446744073709551616 X L1 &&& y : Nat) : Int))).1
      have hO5 : OwnN .u64 33 (w4.setCell ⟨g, L1, none⟩ (.int .u64 ((dig 18446744073709551616 X L1 &&& y : Nat) : Int))) w3.heap.size (.slice (some ⟨g, 0, none⟩) L c) L (digs 18446744073709551616 (candY X n 0) L) := by
        rw [← HTOP.out]
        unfold OwnN
        rw [List.map_set]
        exact hst
      have HO5 := toHid hO5
      have HK5 := toHid (k4.setCell ⟨g, L1, none⟩ (fun h => absurd h (by show ¬ g < _; omega)) (.int .u64 ((dig 18446744073709551616 X L1 &&& y : Nat) : Int)))
      clear JM JZ JL JO hO hst hO5 k4 HTOP
      generalize dig 18446744073709551616 X L1 &&& y = d5 at *
      generalize dig 18446744073709551616 X L1 = d4 at *
      go_wp2_with fail
      go_region
      all_goals
        go_wp2_with fail
        clear hc hf hand
        go_loopw [49] (fun iv wr => ∃ i : Nat, i ≤ 3 ∧ iv = .int .i64 (i : Int) ∧ Hid (OwnN .u64 33 wr w3.heap.size (.slice (some ⟨g, 0, none⟩) L c) L (digs 18446744073709551616 (candY X n i) L)) ∧ Hid (Kept Nought w3 wr)) (fun iv _ => 3 - (intOf iv).toNat)
        case atStart => exact ⟨0, by omega, rfl, (Kept.refl Nought _).drew.own HO5.out (fun _ _ f => f), HK5.out.drew⟩
        case round =>
          obtain ⟨i, hi, rfl, HO, HK⟩ := hrel
          by_cases hi3 : i < 3
          · obtain ⟨p, hidx, hpi⟩ : ∃ p : Nat, (∀ W, Sem.run Tryd.prog (Instr.index 37 (.agg #[.int .i64 (p1 : Int), .int .i64 (p2 : Int), .int .i64 0]) (.int .i64 (i : Int))) W = .ok (.int .i64 (p : Int)) W) ∧ (p = p1 ∧ i = 0 ∨ p = p2 ∧ i = 1 ∨ p = 0 ∧ i = 2) := by
              obtain rfl | rfl | rfl : i = 0 ∨ i = 1 ∨ i = 2 := by omega
              · exact ⟨p1, fun W => (by first | rfl | (change _ = _; kernel_rfl)), .inl ⟨rfl, rfl⟩⟩
              · exact ⟨p2, fun W => (by first | rfl | (change _ = _; kernel_rfl)), .inr (.inl ⟨rfl, rfl⟩)⟩
              · exact ⟨0, fun W => (by first | rfl | (change _ = _; kernel_rfl)), .inr (.inr ⟨rfl, rfl⟩)⟩
            obtain ⟨hpb, hpL, hY⟩ := HOR.out i p hi3 hpi
            have hoO := digs_or (candY X n i) p L hpL
            rw [← hY] at hoO
            obtain ⟨j, hj⟩ : ∃ j, j = p / 64 := ⟨_, rfl⟩
            obtain ⟨t, ht⟩ : ∃ t, t = p % 64 := ⟨_, rfl⟩
            rw [← hj, ← ht] at hoO
            rw [← hj] at hpL
            have gj : (p : Int) / 64 = (j : Int) := by omega
            have gj' : (p : Int).tdiv 64 = (j : Int) := by rw [Int.tdiv_eq_ediv_of_nonneg (by omega)]; exact gj
            have gt : (p : Int) % 64 = (t : Int) := by omega
            have gt' : (p : Int).tmod 64 = (t : Int) := by rw [Int.tmod_eq_emod_of_nonneg (by omega)]; exact gt
            have htb : t < 64 := by omega
            obtain ⟨q, hq⟩ : ∃ q, q = 2 ^ t := ⟨_, rfl⟩
            have hqb : q < 18446744073709551616 := by rw [hq]; exact Nat.pow_lt_pow_right (a := 2) (m := t) (n := 64) (by omega) htb
            have gq : IntKind.u64.wrap (2 ^ t) = (q : Int) := by
              have e0 : ((2 ^ t : Nat) : Int) = 2 ^ t := by simp
              rw [← e0, ← hq, IntKind.wrap_u64]
              omega
            rw [← hq] at hoO
            have hdb : dig 18446744073709551616 (candY X n i) j < 18446744073709551616 := Nat.mod_lt _ (by omega)
            have hor := u64_or_nat (dig 18446744073709551616 (candY X n i) j) q hdb hqb
            have hc := own_dig HO.out hpL
            have hf := World.ownsRow.frozenAt HO.out j
            have hst := (World.ownsRow.stored HO.out j (.int .u64 ((dig 18446744073709551616 (candY X n i) j ||| q : Nat) : Int))).1
            have hO6 : OwnN .u64 33 (wr.setCell ⟨g, j, none⟩ (.int .u64 ((dig 18446744073709551616 (candY X n i) j ||| q : Nat) : Int))) w3.heap.size (.slice (some ⟨g, 0, none⟩) L c) L (digs 18446744073709551616 (candY X n (i + 1)) L) := by
              rw [← hoO]
              unfold OwnN
              rw [List.map_set]
              exact hst
            have HO6 := toHid hO6
            have HK6 := toHid (HK.out.setCell ⟨g, j, none⟩ (fun h => absurd h (by show ¬ g < _; omega)) (.int .u64 ((dig 18446744073709551616 (candY X n i) j ||| q : Nat) : Int)))
            have gi : (i : Int) < 3 := by omega
            have gi0 : (0 : Int) ≤ (i : Int) := by omega
            clear hst hO6 hoO hY hpi hj ht hq hdb
            generalize dig 18446744073709551616 (candY X n i) j ||| q = d7 at *
            generalize dig 18446744073709551616 (candY X n i) j = d6 at *
            go_wp2_with fail
            go_region
            all_goals
              go_wp2_with fail
              go_roundw
              case rel => exact ⟨i + 1, by omega, by go_num, (Kept.refl Nought _).drew.own HO6.out (fun _ _ f => f), HK6.out.drew⟩
              case measure => simp [intOf]; omega
          · obtain rfl : i = 3 := by omega
            go_wp2_with fail
            refine bodyPost_ret (v := .tuple #[.slice (some ⟨g, 0, none⟩) L c, .int .i64 0]) (by simp [results, Tryd.results6, go_sem]) rfl ?_
            exact ⟨_, rfl, by rw [HRL.out]; exact Row.of_own (base := w3.heap.size) (e := 33) (by rw [digs_length]; exact HO.out), fun b hb => by cases hb; exact hbg, HK.out⟩
    · have HB := toHid (hE1.out (.inr (.inr (by rw [show ((n : Int) + 7) / 8 = (z : Int) by omega]; omega))))
      have hgz : ((m : Int) == (z : Int)) = false := by simp; omega
      have hgz' : ((m : Int) != (z : Int)) = true := by simp; omega
      have hne : ¬ (m : Int) = (z : Int) := by omega
      clear hE hRL hu hd hE1 hr hz hL hmz
      go_enter Tryd.func6, Tryd.ntmps6
      go_wp2_with fail
      refine JM.mono ?_
      rintro e w1 ⟨rfl, rfl⟩
      go_wp2_with fail
      refine JZ.mono ?_
      rintro e w2 ⟨rfl, rfl⟩
      go_wp2_with fail
      refine bodyPost_ret (v := .tuple #[.slice none 0 0, .int .i64 1]) (by simp [results, Tryd.results6, go_sem]) rfl ?_
      exact ⟨_, by rw [HB.out.1]; rfl, by rw [HB.out.2]; exact Row.nil _ _, (fun b hb => by cases hb), Kept.refl _ _⟩
  · have JM := pMay k false (decide_eq_false hr).symm w
    have HB := toHid (hE1.out (by omega))
    clear hE hRL hu hd hE1 hr
    go_enter Tryd.func6, Tryd.ntmps6
    go_wp2_with fail
    refine JM.mono ?_
    rintro e w1 ⟨rfl, rfl⟩
    go_wp2_with fail
    refine bodyPost_ret (v := .tuple #[.slice none 0 0, .int .i64 1]) (by simp [results, Tryd.results6, go_sem]) rfl ?_
    exact ⟨_, by rw [HB.out.1]; rfl, by rw [HB.out.2]; exact Row.nil _ _, (fun b hb => by cases hb), Kept.refl _ _⟩

end Go.Proofs.YtcjaafmlflonhaaDoor


/- Numbers of a sieve: which places are struck out; no program in it. -/
namespace Go.Proofs.YtcjaafmlflonhaaDoor
open Go.RowKit

/-- Place j is struck out once the primes below p had their multiples struck out. -/
def Struck (m p j : Nat) : Prop := j ≤ m ∧ ∃ q, PrimeN q ∧ q < p ∧ q * q ≤ j ∧ j % q = 0

/-- The places, as they lie in the array. -/
def StkL (m p : Nat) (zs : List Nat) : Prop := zs.length = 10001 ∧ ∀ j, zs.getD j 0 = 1 ↔ Struck m p j

/-- The places while the multiples of p up to t are struck out. -/
def StkM (m p t : Nat) (zs : List Nat) : Prop := zs.length = 10001 ∧ ∀ j, zs.getD j 0 = 1 ↔ (Struck m p j ∨ (j ≤ m ∧ p * p ≤ j ∧ j < t ∧ j % p = 0))

theorem stk_zero (m : Nat) : StkL m 2 (List.replicate 10001 0) := by
  refine ⟨List.length_replicate, fun j => ⟨fun h => ?_, fun h => ?_⟩⟩
  · rw [List.getD_eq_getElem?_getD, List.getElem?_replicate] at h
    split at h
    · cases h
    · cases h
  · obtain ⟨_, q, hq, h2, _⟩ := h
    exact absurd hq.1 (by omega)

/-- The least divisor above 1. -/
theorem least_div {n : Nat} (hn : 2 ≤ n) : ∃ d, 2 ≤ d ∧ d ≤ n ∧ n % d = 0 ∧ ∀ e, 2 ≤ e → e < d → n % e ≠ 0 := by
  have key : ∀ k, (∀ e, 2 ≤ e → e < n + 1 - k → n % e ≠ 0) ∨ ∃ d, 2 ≤ d ∧ d ≤ n ∧ n % d = 0 ∧ ∀ e, 2 ≤ e → e < d → n % e ≠ 0 := by
    intro k
    have : ∀ b, (∀ e, 2 ≤ e → e < b → n % e ≠ 0) ∨ ∃ d, 2 ≤ d ∧ d < b ∧ n % d = 0 ∧ ∀ e, 2 ≤ e → e < d → n % e ≠ 0 := by
      intro b
      induction b with
      | zero => exact .inl (fun e _ h => by omega)
      | succ b ih =>
        rcases ih with h | ⟨d, h1, h2, h3, h4⟩
        · by_cases hb : 2 ≤ b ∧ n % b = 0
          · exact .inr ⟨b, hb.1, by omega, hb.2, h⟩
          · refine .inl (fun e h1 h2 => ?_)
            by_cases eb : e = b
            · subst eb
              exact fun h3 => hb ⟨h1, h3⟩
            · exact h e h1 (by omega)
        · exact .inr ⟨d, h1, by omega, h3, h4⟩
    rcases this (n + 1) with h | ⟨d, h1, h2, h3, h4⟩
    · exact absurd (Nat.mod_self n) (h n hn (by omega))
    · exact .inr ⟨d, h1, by omega, h3, h4⟩
  rcases key 0 with h | h
  · exact absurd (Nat.mod_self n) (h n hn (by omega))
  · exact h

theorem least_prime {n d : Nat} (hd : 2 ≤ d) (h : n % d = 0) (hl : ∀ e, 2 ≤ e → e < d → n % e ≠ 0) : PrimeN d := by
  refine ⟨hd, fun e h1 h2 h3 => hl e h1 h2 ?_⟩
  exact Nat.mod_eq_zero_of_dvd (Nat.dvd_trans (Nat.dvd_of_mod_eq_zero h3) (Nat.dvd_of_mod_eq_zero h))

/-- What isn't struck out when its turn comes is a prime. -/
theorem stk_prime {m p : Nat} (h2 : 2 ≤ p) (hm : p ≤ m) : ¬ Struck m p p ↔ PrimeN p := by
  constructor
  · intro h
    obtain ⟨d, h3, h4, h5, h6⟩ := least_div h2
    by_cases hdp : d = p
    · subst hdp
      exact least_prime h3 h5 h6
    · exfalso
      refine h ⟨hm, d, least_prime h3 h5 h6, by omega, ?_, h5⟩
      obtain ⟨c, hc⟩ := Nat.dvd_of_mod_eq_zero h5
      have hc2 : d ≤ c := by
        rcases Nat.lt_or_ge c d with h7 | h7
        · exfalso
          have hc1 : 2 ≤ c := by
            rcases Nat.lt_or_ge c 2 with h8 | h8
            · have h01 : c = 0 ∨ c = 1 := by omega
              rcases h01 with rfl | rfl
              · omega
              · omega
            · exact h8
          refine h6 c hc1 h7 ?_
          rw [hc, Nat.mul_comm]
          exact Nat.mul_mod_right c d
        · exact h7
      rw [hc]
      exact Nat.mul_le_mul_left d hc2
  · rintro hp ⟨_, q, hq, h3, _, h5⟩
    exact hp.2 q hq.1 h3 h5

theorem StkL.skip {m p : Nat} {zs : List Nat} (h : StkL m p zs) (hp : ¬ PrimeN p) : StkL m (p + 1) zs := by
  refine ⟨h.1, fun j => (h.2 j).trans ⟨?_, ?_⟩⟩
  · rintro ⟨h1, q, h2, h3, h4, h5⟩
    exact ⟨h1, q, h2, by omega, h4, h5⟩
  · rintro ⟨h1, q, h2, h3, h4, h5⟩
    refine ⟨h1, q, h2, ?_, h4, h5⟩
    have : q ≠ p := fun e => hp (e ▸ h2)
    omega

theorem StkL.into {m p : Nat} {zs : List Nat} (h : StkL m p zs) : StkM m p (p * p) zs :=
  ⟨h.1, fun j => (h.2 j).trans ⟨.inl, fun e => by
    rcases e with e | ⟨_, h2, h3, _⟩
    · exact e
    · omega⟩⟩

theorem StkM.set {m p t : Nat} {zs : List Nat} (h : StkM m p t zs) (hm : m ≤ 10000) (ht : t ≤ m) (hp : p * p ≤ t) (hd : t % p = 0) (h0 : 0 < p) : StkM m p (t + p) (zs.set t 1) := by
  refine ⟨by rw [List.length_set]; exact h.1, fun j => ?_⟩
  by_cases hj : j = t
  · subst hj
    rw [List.getD_eq_getElem?_getD, List.getElem?_set_self (by rw [h.1]; omega)]
    exact ⟨fun _ => .inr ⟨ht, hp, by omega, hd⟩, fun _ => rfl⟩
  · have e1 : (zs.set t 1).getD j 0 = zs.getD j 0 := by
      rw [List.getD_eq_getElem?_getD, List.getD_eq_getElem?_getD, List.getElem?_set_ne (fun e => hj e.symm)]
    rw [e1, h.2 j]
    constructor
    · rintro (e | ⟨h1, h2, h3, h4⟩)
      · exact .inl e
      · exact .inr ⟨h1, h2, by omega, h4⟩
    · rintro (e | ⟨h1, h2, h3, h4⟩)
      · exact .inl e
      · refine .inr ⟨h1, h2, ?_, h4⟩
        rcases Nat.lt_or_ge j t with h5 | h5
        · exact h5
        · exfalso
          obtain ⟨r, rfl⟩ : ∃ r, j = t + r := ⟨j - t, by omega⟩
          rw [Nat.add_mod, hd, Nat.zero_add, Nat.mod_mod, Nat.mod_eq_of_lt (by omega)] at h4
          omega

theorem StkM.out {m p t : Nat} {zs : List Nat} (h : StkM m p t zs) (ht : m < t) (hp : PrimeN p) : StkL m (p + 1) zs := by
  refine ⟨h.1, fun j => (h.2 j).trans ⟨?_, ?_⟩⟩
  · rintro (⟨h1, q, h2, h3, h4, h5⟩ | ⟨h1, h2, _, h4⟩)
    · exact ⟨h1, q, h2, by omega, h4, h5⟩
    · exact ⟨h1, p, hp, by omega, h2, h4⟩
  · rintro ⟨h1, q, h2, h3, h4, h5⟩
    by_cases e : q = p
    · subst e
      exact .inr ⟨h1, h4, by omega, h5⟩
    · exact .inl ⟨h1, q, h2, by omega, h4, h5⟩

theorem primesTo_step {p : Nat} (h : 1 ≤ p) (hp : PrimeN p) : primesTo (p - 1) ++ [p] = primesTo p := by
  obtain ⟨q, rfl⟩ : ∃ q, p = q + 1 := ⟨p - 1, by omega⟩
  rw [Nat.add_sub_cancel, primesTo_succ, if_pos hp]

theorem primesTo_skip {p : Nat} (h : 1 ≤ p) (hp : ¬ PrimeN p) : primesTo (p - 1) = primesTo p := by
  obtain ⟨q, rfl⟩ : ∃ q, p = q + 1 := ⟨p - 1, by omega⟩
  rw [Nat.add_sub_cancel, primesTo_succ, if_neg hp, List.append_nil]

/-- Noughts, as many as they should be. -/
def zerB : List Value → Nat → Bool
  | [], n => n == 0
  | v :: l, n => match v with
    | .int .u8 0 => (match n with | 0 => false | m + 1 => zerB l m)
    | _ => false

theorem zerB_spec : ∀ (l : List Value) (n : Nat), zerB l n = true → l = List.replicate n (.int .u8 0)
  | [], n, h => by
    have : n = 0 := by simpa [zerB] using h
    subst this; rfl
  | v :: l, n, h => by
    unfold zerB at h
    split at h
    · cases n with
      | zero => cases h
      | succ m => rw [List.replicate_succ, ← zerB_spec l m h]
    · cases h

theorem Tryd.zeros16 : (match (Tryd.prog.info? 112).bind (fun i => i.zero) with | some (.agg cs) => zerB cs.toList 10001 | _ => false) = true := by kernel_rfl

/-- What a new array of places holds. -/
theorem zero16 : ∃ cs : Array Value, cs = ((List.replicate 10001 0).map fun z : Nat => Value.int .u8 (z : Int)).toArray ∧ ∀ w, Sem.run Tryd.prog (zeroValue 112) w = .ok (.agg cs) w := by
  have h := Tryd.zeros16
  cases hi : Tryd.prog.info? 112 with
  | none => rw [hi] at h; cases h
  | some i =>
    rw [hi] at h
    simp only [Option.bind_some] at h
    split at h
    · rename_i cs hz
      refine ⟨cs, ?_, fun w => ?_⟩
      · have e := zerB_spec _ _ h
        rw [List.map_replicate]
        show cs = (List.replicate 10001 (Value.int .u8 0)).toArray
        rw [← e]
      · simp only [zeroValue, typeInfo]
        simp [go_sem, hi, hz]
    · cases h

end Go.Proofs.YtcjaafmlflonhaaDoor


/- A range over a function whose iterator has memory of its own, which it writes between two rounds: what the caller keeps through it speaks of memory that lay ahead of the loop alone. -/
namespace Go.Proofs.YtcjaafmlflonhaaDoor
open Go.RowKit Go.Shelf

/-- How a round ends: of memory only the blocks of Sb were written, and new ones. -/
def leftC {α : Type} (Sb : Nat → Prop) (I : List α → World → Prop) (Ix : Code → List α → World → Prop) (s : List α) (W : World) : Exit → Act → World → Prop
  | .normal, _, W' => Kept Sb W W' ∧ I s W'
  | .ret, _, W' => Kept Sb W W' ∧ Ix .ret s W'
  | .exit i, _, W' => Kept Sb W W' ∧ Ix (.exit i) s W'
  | .goto t, _, W' => Kept Sb W W' ∧ Ix (.goto t) s W'
  | .panic _, _, _ => False
  | .outgrown, _, _ => False

theorem low_put {W : World} {B l : Nat} (o : Obj) (h : B ≤ l) : Below B W (W.putObj l o) :=
  ⟨rfl, rfl, rfl, by simp, fun _ hk => World.putObj_heap_other (by omega)⟩

theorem kept_put (W : World) (l : Nat) (o : Obj) : Kept (fun b => b = l) W (W.putObj l o) :=
  ⟨rfl, rfl, rfl, by simp, fun _ _ hk => World.putObj_heap_other hk⟩

theorem boxed_grew {w w' : World} {b : Nat} {t : TypeId} {v : Value} (h : Boxed w b t v) (k : Kept Nought w w') : Boxed w' b t v := (k.block _ h.lt (fun f => f)).trans h

theorem boxed_but {S : Nat → Prop} {w w' : World} {b : Nat} {t : TypeId} {v : Value} (h : Boxed w b t v) (k : Kept S w w') (hs : ¬ S b) : Boxed w' b t v := (k.block _ h.lt hs).trans h

/-- The loop's two books: at d the rounds' deferred calls (none), behind it the loop's own. -/
def Books (d : Nat) (r : Loop) (W : World) : Prop := W.heap[d + 1]? = some (.loop r) ∧ W.heap[d]? = some (.deferred (some []))

theorem Books.low {d : Nat} {r : Loop} {A C : World} (h : Books d r A) (k : Below (d + 2) A C) : Books d r C :=
  ⟨(k.block _ (by omega)).trans h.1, (k.block _ (by omega)).trans h.2⟩

theorem Books.lt {d : Nat} {r : Loop} {A : World} (h : Books d r A) : d + 1 < A.heap.size := (Array.getElem?_eq_some_iff.1 h.1).1

theorem Books.put {d : Nat} {r : Loop} {A : World} (h : Books d r A) (r' : Loop) : Books d r' (A.putObj (d + 1) (.loop r')) :=
  ⟨World.putObj_heap_same h.lt, (World.putObj_heap_other (by omega)).trans h.2⟩

theorem Books.kept {d : Nat} {r : Loop} {A C : World} {Sb : Nat → Prop} (h : Books d r A) (k : Kept Sb A C) (hs : ∀ b, Sb b → b < d) : Books d r C := by
  have hl := h.lt
  exact ⟨(k.block _ hl (fun e => by have := hs _ e; omega)).trans h.1, (k.block _ (by omega) (fun e => by have := hs _ e; omega)).trans h.2⟩

end Go.Proofs.YtcjaafmlflonhaaDoor


/- A range over a function whose iterator writes old memory too (the blocks of T): what the caller keeps through it speaks of other memory alone; how the iterator ends, and what it hands out, may speak of all. -/
namespace Go.Proofs.YtcjaafmlflonhaaDoor
open Go.RowKit Go.Shelf

/-- What stands through everything that leaves memory below B alone, but for the blocks of T. -/
def LowT {β : Type} (B : Nat) (T : Nat → Prop) (J : β → World → Prop) : Prop := ∀ s A C, J s A → Kept (fun x => T x ∨ B ≤ x) A C → J s C

theorem below_keptT {A C : World} {B : Nat} {T : Nat → Prop} (h : Below B A C) : Kept (fun x => T x ∨ B ≤ x) A C :=
  ⟨h.os, h.tape, h.output, h.size, fun i _ hs => h.block i (Nat.lt_of_not_le fun e => hs (.inr e))⟩

theorem LowT.below {β : Type} {B : Nat} {T : Nat → Prop} {J : β → World → Prop} (h : LowT B T J) {s : β} {A C : World} (j : J s A) (k : Below B A C) : J s C := h s A C j (below_keptT k)

/-- What stands while the loop's own books are turned. -/
def Turns {β : Type} (B : Nat) (J : β → World → Prop) : Prop := ∀ s A l o o', J s A → B ≤ l → A.heap[l]? = some o → o.isCells = false → J s (A.putObj l o')

end Go.Proofs.YtcjaafmlflonhaaDoor


/- A range over a function whose iterator writes new memory of its own alone (the blocks of T): what the caller keeps through it may speak of new memory too, but for those blocks. -/
namespace Go.Proofs.YtcjaafmlflonhaaDoor
open Go.RowKit Go.Shelf

/-- What stands while the blocks of T alone are written, and memory is made. -/
def LowU {β : Type} (T : Nat → Prop) (J : β → World → Prop) : Prop := ∀ s A C, J s A → Kept T A C → J s C

theorem Books.but {d : Nat} {r : Loop} {A C : World} {Sb : Nat → Prop} (h : Books d r A) (k : Kept Sb A C) (h0 : ¬ Sb d) (h1 : ¬ Sb (d + 1)) : Books d r C := by
  have hl := h.lt
  exact ⟨(k.block _ hl h1).trans h.1, (k.block _ (by omega) h0).trans h.2⟩

/-- An iterator that writes the blocks of T, and makes memory; what it hands out is told by X in the world of that call, how it ends by S. -/
def SeqU {α : Type} (n : Nat) (P : Program) (g : Nat) (lb : Array Value) (encs : α → Array Value) (X : List α → α → World → Prop) (Sb T : Nat → Prop) (S : List α → World → Prop) (w : World) : Prop :=
  ∀ (l : Nat) (J Jx : List α → World → Prop) (W : World), Kept Nought w W → l = w.heap.size + 1 → W.heap.size = w.heap.size + 2 →
    LowU T J →
    (∀ pre x A, J pre A → X pre x A → YieldAt Fence.wide (n - 1) P l (encs x) A fun e C =>
      (e = .returned (.bool true) ∧ J (pre ++ [x]) C ∧ Kept (fun b => Sb b ∨ b = l ∨ b + 1 = l) A C) ∨ (e = .returned (.bool false) ∧ Jx (pre ++ [x]) C)) →
    J [] W →
    CallsIn Fence.wide n P g (#[.func (.yield l) #[] #[]] ++ lb) W fun e C => (∃ v, e = .returned v) ∧ ((∃ s, S s C ∧ J s C) ∨ ∃ s, Jx s C)

/-- A range over such a function. -/
theorem wpIn_range_new {α : Type} {P : Program} {n : Nat} {g : Operand} {ps : Array Tmp} {assign body : Code} {Q : Exit → Act → World → Prop} {a : Act} {w : World} (h1 : 1 ≤ n) {gf : Nat} {lb : Array Value}
    (hg : a.eval g = .func (.func gf) #[] lb) (eg : ∀ args w, (callFunc gf args).run P w = .ok (.enter gf args) w)
    {encs : α → Array Value} {X : List α → α → World → Prop} {Sb T : Nat → Prop} {S : List α → World → Prop} (hseq : SeqU (n - 1) P gf lb encs X Sb T S w) (hps : ∀ x, (encs x).size = ps.size) (hSb : ¬ Sb w.heap.size ∧ ¬ Sb (w.heap.size + 1)) (hT : ¬ T w.heap.size ∧ ¬ T (w.heap.size + 1))
    (hX : ∀ pre x A l o o', X pre x A → A.heap[l]? = some o → o.isCells = false → X pre x (A.putObj l o'))
    (I : List α → World → Prop) (Ix : Code → List α → World → Prop) (hI : LowU T I) (hIt : Turns w.heap.size I) (hIx : ∀ c, Turns w.heap.size (Ix c)) (hS : Turns w.heap.size S) (h0 : I [] w) (a₁ : α → Act)
    (hassign : ∀ (l : Nat) (x : α) (W : World) (K : Act → World → Prop), K (a₁ x) W → assign.wpIn (Fence.wide.inRound l) (n - 1 - 1) P (Exit.then K (fun _ _ _ => False)) { tmps := (ps.zip (encs x)).foldl (fun t (p, v) => t.setIfInBounds p v) a.tmps, defers := [] } W)
    (hbody : ∀ (l : Nat) (pre : List α) (x : α) (W : World), I pre W → X pre x W → body.wpIn (Fence.wide.inRound l) (n - 1 - 1) P (leftC Sb I Ix (pre ++ [x]) W) (a₁ x) W)
    (hdone : ∀ (D : Nat) (s : List α) (W : World), w.heap.size ≤ D → S s W → I s W → W.heap[D]? = some (.deferred (some [])) → Q .normal { a with defers := { target := .collected D, args := #[] } :: a.defers } W)
    (hstop : ∀ (D : Nat) (c : Code) (s : List α) (W : World), w.heap.size ≤ D → Ix c s W → W.heap[D]? = some (.deferred (some [])) → c.wpIn Fence.wide n P Q { a with defers := { target := .collected D, args := #[] } :: a.defers } W) :
    (Code.rangeFunc g ps assign body).wpIn Fence.wide n P Q a w := by
  refine wpIn_rangeFunc fun fn hfn => ?_
  obtain ⟨rec, hrec⟩ : ∃ rec : LoopState → Option Code → Loop, rec = fun st pe => { state := st, pending := pe, fn, tmps := a.tmps, params := ps, assign, body, defers := w.heap.size } := ⟨_, rfl⟩
  obtain ⟨W1, hW1⟩ : ∃ W1, W1 = (w.alloc (.deferred (some []))).alloc (.loop (rec .ready none)) := ⟨_, rfl⟩
  have hs1 : W1.heap.size = w.heap.size + 2 := by rw [hW1]; simp
  have hk1 : Kept Nought w W1 := by rw [hW1]; exact ((Kept.refl _ w).alloc _).alloc _
  have hb1 : Books w.heap.size (rec .ready none) W1 := by
    rw [hW1]
    refine ⟨?_, (Below.heap_alloc _ _ _ (by simp)).trans (World.alloc_heap_new w _)⟩
    have := World.alloc_heap_new (w.alloc (.deferred (some []))) (.loop (rec .ready none))
    rwa [World.size_alloc] at this
  refine ⟨w.heap.size + 1, [{ target := .collected w.heap.size, args := #[] }], W1, { target := .fn (.func gf) lb, args := #[.func (.yield (w.heap.size + 1)) #[] #[]] }, W1, gf, #[.func (.yield (w.heap.size + 1)) #[] #[]] ++ lb, W1, ?_, ?_, fun _ _ => trivial, ?_, fun _ => h1, ?_⟩
  · rw [hW1, hrec]
    exact run_enterLoop_outer _ _ _ _ _
  · simp only [resolve, hg]
    simp [go_sem]
  · simp [invoke, go_sem, eg]
  · have turn : ∀ (jump : Option Code) (A : World), Books w.heap.size (rec .busy none) A → ∃ C, (Instr.endRound (w.heap.size + 1) jump).run P A = .ok (.bool jump.isNone) C ∧ Books w.heap.size (rec (if jump.isNone then .ready else .done) jump) C ∧ Below w.heap.size A C ∧ Kept (fun b => b = w.heap.size + 1) A C ∧ ∃ o', C = A.putObj (w.heap.size + 1) o' := fun jump A hb => by
      refine ⟨_, run_endRound (P := P) jump hb.1, ?_, low_put _ (by omega), kept_put _ _ _, _, rfl⟩
      have := hb.put { rec .busy none with state := if jump.isNone then .ready else .done, pending := jump }
      rw [hrec] at this ⊢
      exact this
    have hLow : ∀ {β : Type} {J : β → World → Prop} {r : Loop}, LowU T J → LowU T (fun s A => J s A ∧ Books w.heap.size r A) := fun hJ s A C h k =>
      ⟨hJ s A C h.1 k, h.2.but k hT.1 hT.2⟩
    refine (hseq (w.heap.size + 1) (fun s A => I s A ∧ Books w.heap.size (rec .ready none) A) (fun s A => ∃ c, Ix c s A ∧ Books w.heap.size (rec .done (some c)) A) W1 hk1 rfl hs1 (hLow hI) ?_ ⟨hI _ _ _ h0 hk1.any, hb1⟩).mono ?_
    · rintro pre x A ⟨hi, hb⟩ hx
      have hy := run_yield (P := P) (args := encs x) hb.1 (by rw [hrec]; exact hps x)
      rw [hrec] at hy
      refine ⟨fn, _, assign, body, hy, roundIn_of_wpIn hfn (hassign _ x A _ ⟨_, run_beginRound hb.1 (by rw [hrec]), ?_⟩)⟩
      have hb2 := hb.put { rec .ready none with state := .busy }
      have hx2 := hX pre x A _ _ (.loop { rec .ready none with state := .busy }) hx hb.1 rfl
      have hi2 := hIt _ _ _ _ (.loop { rec .ready none with state := .busy }) hi (by omega) hb.1 rfl
      have hk2 := kept_put A (w.heap.size + 1) (.loop { rec .ready none with state := .busy })
      have hb3 : ∀ C, Kept Sb (A.putObj (w.heap.size + 1) (.loop { rec .ready none with state := .busy })) C → Books w.heap.size (rec .busy none) C := fun C k => by
        have := hb2.but k hSb.1 hSb.2
        rw [hrec] at this ⊢
        exact this
      refine wpIn_mono (hbody _ pre x _ hi2 hx2) ?_
      generalize A.putObj (w.heap.size + 1) (.loop { rec .ready none with state := .busy }) = A2 at *
      have out : ∀ (c : Code) (C : World), Kept Sb A2 C → Ix c (pre ++ [x]) C → ∃ v C', (Instr.endRound (w.heap.size + 1) (some c)).run P C = .ok v C' ∧ ((Ending.returned v = .returned (.bool true) ∧ (I (pre ++ [x]) C' ∧ Books w.heap.size (rec .ready none) C') ∧ Kept (fun b => Sb b ∨ b = w.heap.size + 1 ∨ b + 1 = w.heap.size + 1) A C') ∨ (Ending.returned v = .returned (.bool false) ∧ ∃ c, Ix c (pre ++ [x]) C' ∧ Books w.heap.size (rec .done (some c)) C')) := fun c C k hc => by
        obtain ⟨C', hr, hb4, _, _, o', rfl⟩ := turn (some c) C (hb3 C k)
        exact ⟨_, _, hr, .inr ⟨rfl, c, hIx c _ _ _ _ o' hc (by omega) (hb3 C k).1 rfl, hb4⟩⟩
      rintro e a3 C hp
      cases e with
      | normal =>
        obtain ⟨k, hi3⟩ := hp
        obtain ⟨C', hr, hb4, hl4, hk4, o', rfl⟩ := turn none C (hb3 C k)
        exact ⟨_, _, hr, .inl ⟨rfl, ⟨hIt _ _ _ _ o' hi3 (by omega) (hb3 C k).1 rfl, hb4⟩, ((hk2.mono (fun _ _ e => .inr (.inl e))).next k (fun _ _ e => .inl e)).next hk4 (fun _ _ e => .inr (.inl e))⟩⟩
      | ret => exact out _ C hp.1 hp.2
      | exit i => exact out _ C hp.1 hp.2
      | goto t => exact out _ C hp.1 hp.2
      | panic c => exact hp.elim
      | outgrown => exact hp.elim
    · rintro e C ⟨⟨v, rfl⟩, (⟨s, hSs, hi, hb⟩ | ⟨s, c, hi, hb⟩)⟩
      · refine ⟨_, _, run_endLoop (P := P) hb.1 (by rw [hrec]; simp), ?_⟩
        rw [hrec] at hb ⊢
        exact hdone _ s _ (Nat.le_refl _) (hS _ _ _ _ _ hSs (by omega) hb.1 rfl) (hIt _ _ _ _ _ hi (by omega) hb.1 rfl) ((World.putObj_heap_other (by omega)).trans hb.2)
      · refine ⟨_, _, run_endLoop (P := P) hb.1 (by rw [hrec]; simp), ?_⟩
        rw [hrec] at hb ⊢
        exact hstop _ c s _ (Nat.le_refl _) (hIx c _ _ _ _ _ hi (by omega) hb.1 rfl) ((World.putObj_heap_other (by omega)).trans hb.2)

end Go.Proofs.YtcjaafmlflonhaaDoor


/- An array of numbers in memory. -/
namespace Go.Proofs.YtcjaafmlflonhaaDoor
open Go.RowKit

/-- Block b is an array that holds the numbers zs. -/
def Arr (k : IntKind) (t : TypeId) (w : World) (b : Nat) (zs : List Nat) : Prop := w.heap[b]? = some (.cells (zs.map fun z => Value.int k (z : Nat)).toArray t (0, 0))

theorem Arr.cell {k : IntKind} {t : TypeId} {w : World} {b : Nat} {zs : List Nat} (h : Arr k t w b zs) (i : Nat) (hi : i < zs.length) : w.cell? ⟨b, i, none⟩ = some (.int k (zs.getD i 0 : Nat)) := by
  rw [cell_of_row w b i _ _ _ h]
  simp [List.getElem?_eq_getElem hi]

theorem Arr.free {k : IntKind} {t : TypeId} {w : World} {b : Nat} {zs : List Nat} (h : Arr k t w b zs) (i : Nat) : w.frozen? ⟨b, i, none⟩ = false := by
  unfold Arr at h
  simp [World.frozen?, h]

theorem Arr.set {k : IntKind} {t : TypeId} {w : World} {b : Nat} {zs : List Nat} (h : Arr k t w b zs) (i z : Nat) : Arr k t (w.setCell ⟨b, i, none⟩ (.int k (z : Nat))) b (zs.set i z) := by
  have := heap_setCell_same w b i _ t (.int k (z : Nat)) h
  unfold Arr
  rw [this, List.map_set]
  simp

theorem Arr.kept {S : Nat → Prop} {k : IntKind} {t : TypeId} {w w' : World} {b : Nat} {zs : List Nat} (h : Arr k t w b zs) (kk : Kept S w w') (hs : ¬ S b) : Arr k t w' b zs := (kk.block b (lt_of_block h) hs).trans h

theorem Arr.grew {k : IntKind} {t : TypeId} {w w' : World} {b : Nat} {zs : List Nat} (h : Arr k t w b zs) (kk : Kept Nought w w') : Arr k t w' b zs := h.kept kk (fun f => f)

theorem Arr.other {k : IntKind} {t : TypeId} {w : World} {b : Nat} {zs : List Nat} (h : Arr k t w b zs) (a : Addr) (hne : b ≠ a.block) (u : Value) : Arr k t (w.setCell a u) b zs := heapAt_set h hne u

end Go.Proofs.YtcjaafmlflonhaaDoor

