/- Put together of: Pri0 Pri1. -/
import Derived.Test.YtcjaafmlflonhaaGreatDoorPk33
import Derived.Test.YtcjaafmlflonhaaGreatDoorPk38

/- A candidate's number: bits of words that are put together. -/
namespace Go.Proofs.YtcjaafmlflonhaaGreatDoor
open Go.RowKit

theorem digs_ext {B V n : Nat} {l : List Nat} (hl : l.length = n) (h : ∀ i, i < n → l.getD i 0 = dig B V i) : l = digs B V n := by
  refine List.ext_getElem? fun i => ?_
  by_cases hi : i < n
  · have h1 := h i hi
    have h2 := digs_getD B V n i hi
    rw [List.getD_eq_getElem?_getD, List.getElem?_eq_getElem (by omega)] at h1
    rw [List.getD_eq_getElem?_getD, List.getElem?_eq_getElem (by rw [digs_length]; omega)] at h2
    rw [List.getElem?_eq_getElem (by omega), List.getElem?_eq_getElem (by rw [digs_length]; omega)]
    simp only [Option.getD_some] at h1 h2
    rw [h1, h2]
  · rw [List.getElem?_eq_none (by omega), List.getElem?_eq_none (by rw [digs_length]; omega)]

theorem digs_bit (Y j i : Nat) : (dig 18446744073709551616 Y j).testBit i = (decide (i < 64) && Y.testBit (64 * j + i)) := by
  unfold dig
  rw [show (18446744073709551616 : Nat) = 2 ^ 64 from rfl, ← Nat.pow_mul, Nat.testBit_mod_two_pow, Nat.testBit_div_two_pow, Nat.add_comm i]

theorem getD_set {l : List Nat} {j i d : Nat} (hj : j < l.length) : (l.set j d).getD i 0 = if i = j then d else l.getD i 0 := by
  rw [List.getD_eq_getElem?_getD, List.getElem?_set, List.getD_eq_getElem?_getD]
  by_cases h : j = i
  · subst h
    simp [hj]
  · rw [if_neg h, if_neg (fun e => h e.symm)]

/-- A bit is made 1. -/
theorem digs_or (Y p L : Nat) (hp : p / 64 < L) : (digs 18446744073709551616 Y L).set (p / 64) (dig 18446744073709551616 Y (p / 64) ||| 2 ^ (p % 64)) = digs 18446744073709551616 (Y ||| 2 ^ p) L := by
  refine digs_ext (by rw [List.length_set, digs_length]) fun i hi => ?_
  rw [getD_set (by rw [digs_length]; exact hp), digs_getD _ _ _ _ hi]
  have hb : ∀ t, t < 64 → ((2 ^ p).testBit (64 * i + t) = decide (i = p / 64 ∧ t = p % 64)) := fun t ht => by
    rw [Nat.testBit_two_pow]
    exact decide_eq_decide.2 ⟨fun h => by omega, fun h => by omega⟩
  refine Nat.eq_of_testBit_eq fun t => ?_
  rw [digs_bit, Nat.testBit_or]
  by_cases ht : t < 64
  · rw [hb t ht]
    split
    · next h =>
      subst h
      rw [Nat.testBit_or, digs_bit, Nat.testBit_two_pow]
      by_cases h2 : t = p % 64
      · subst h2
        have h4 : p % 64 < 64 := Nat.mod_lt _ (by omega)
        simp [h4]
      · have h3 : ¬ p % 64 = t := fun e => h2 e.symm
        simp [ht, h2, h3]
    · next h =>
      rw [digs_bit]
      simp [ht, h]
  · split
    · next h =>
      subst h
      rw [Nat.testBit_or, digs_bit, Nat.testBit_two_pow]
      simp [ht]
      omega
    · next h =>
      rw [digs_bit]
      simp [ht]

/-- The bits above n of the highest word are made 0. -/
theorem digs_top (X n L : Nat) (h1 : 64 * L < n + 64) (h2 : n ≤ 64 * L) (hL : 1 ≤ L) :
    (digs 18446744073709551616 X L).set (L - 1) (dig 18446744073709551616 X (L - 1) &&& 18446744073709551615 / 2 ^ (64 * L - n)) = digs 18446744073709551616 (X % 2 ^ n) L := by
  have hy : 18446744073709551615 / 2 ^ (64 * L - n) = 2 ^ (64 - (64 * L - n)) - 1 := by
    have hs : 64 * L - n < 64 := by omega
    generalize 64 * L - n = s at hs
    have e : (18446744073709551615 : Nat) = 2 ^ s * (2 ^ (64 - s) - 1) + (2 ^ s - 1) := by
      have e1 : 2 ^ s * 2 ^ (64 - s) = 18446744073709551616 := by
        rw [← Nat.pow_add, show s + (64 - s) = 64 by omega]
      have p1 : 0 < 2 ^ s := Nat.pow_pos (by omega)
      have p2 : 0 < 2 ^ (64 - s) := Nat.pow_pos (by omega)
      rw [Nat.mul_sub, e1, Nat.mul_one]
      have : 2 ^ s ≤ 2 ^ 64 := Nat.pow_le_pow_right (by omega) (by omega)
      have : (2 : Nat) ^ 64 = 18446744073709551616 := rfl
      omega
    have p1 : 0 < 2 ^ s := Nat.pow_pos (by omega)
    rw [e, Nat.mul_add_div p1, Nat.div_eq_of_lt (by omega), Nat.add_zero]
  rw [hy]
  refine digs_ext (by rw [List.length_set, digs_length]) fun i hi => ?_
  rw [getD_set (by rw [digs_length]; omega), digs_getD _ _ _ _ hi]
  refine Nat.eq_of_testBit_eq fun t => ?_
  rw [digs_bit, Nat.testBit_mod_two_pow]
  split
  · next h =>
    subst h
    rw [Nat.and_two_pow_sub_one_eq_mod, Nat.testBit_mod_two_pow, digs_bit]
    by_cases ht : t < 64
    · have e : decide (t < 64 - (64 * L - n)) = decide (64 * (L - 1) + t < n) := decide_eq_decide.2 ⟨fun h => by omega, fun h => by omega⟩
      rw [e]
      simp [ht]
    · simp [ht]
  · next h =>
    rw [digs_bit]
    by_cases ht : t < 64
    · have e : 64 * i + t < n := by omega
      simp [ht, e]
    · simp [ht]

theorem or_one (x : Nat) : x ||| 1 = x + (if x % 2 = 0 then 1 else 0) := by
  have e1 : x = 2 ^ 1 * (x / 2) ||| x % 2 := by
    rw [← Nat.two_pow_add_eq_or_of_lt (by omega)]
    omega
  have e2 : (x % 2) ||| 1 = 1 := by
    rcases Nat.mod_two_eq_zero_or_one x with h | h <;> rw [h] <;> rfl
  rw [show x ||| 1 = (2 ^ 1 * (x / 2) ||| x % 2) ||| 1 by rw [← e1], Nat.or_assoc, e2, ← Nat.two_pow_add_eq_or_of_lt (by omega)]
  split <;> omega

/-- A candidate, bit by bit. -/
theorem cand_bits (bs : List Nat) (n : Nat) (hn : 16 ≤ n) : bev bs % 2 ^ n ||| 2 ^ (n - 1) ||| 2 ^ (n - 2) ||| 1 = candN bs n := by
  unfold candN
  generalize bev bs = X
  obtain ⟨m, rfl⟩ : ∃ m, n = m + 2 := ⟨n - 2, by omega⟩
  rw [show m + 2 - 1 = m + 1 by omega, show m + 2 - 2 = m by omega]
  have hr : X % 2 ^ m < 2 ^ m := Nat.mod_lt _ (Nat.pow_pos (by omega))
  have e : X % 2 ^ (m + 2) ||| 2 ^ (m + 1) ||| 2 ^ m = 2 ^ m * 3 + X % 2 ^ m := by
    refine Nat.eq_of_testBit_eq fun j => ?_
    rw [Nat.testBit_two_pow_mul_add _ hr, Nat.testBit_or, Nat.testBit_or, Nat.testBit_mod_two_pow, Nat.testBit_two_pow, Nat.testBit_two_pow, Nat.testBit_mod_two_pow]
    by_cases h1 : j < m
    · have a1 : ¬ m + 1 = j := by omega
      have a2 : ¬ m = j := by omega
      have a3 : j < m + 2 := by omega
      simp [h1, a1, a2, a3]
    · rw [if_neg h1]
      by_cases h2 : j = m
      · subst h2
        simp
      · by_cases h3 : j = m + 1
        · subst h3
          rw [show m + 1 - m = 1 by omega]
          simp
          decide
        · have a1 : ¬ m + 1 = j := fun e => h3 e.symm
          have a2 : ¬ m = j := fun e => h2 e.symm
          have a3 : ¬ j < m + 2 := by omega
          have a4 : Nat.testBit 3 (j - m) = false := Nat.testBit_lt_two_pow (by
            have : 2 ^ 2 ≤ 2 ^ (j - m) := Nat.pow_le_pow_right (by omega) (by omega)
            omega)
          simp [a1, a2, a3, a4]
  rw [e, or_one]
  have h2 : 2 ^ m % 2 = 0 := by
    rw [show m = (m - 1) + 1 by omega, Nat.pow_succ]
    omega
  generalize X % 2 ^ m = r at *
  split
  · next h => rw [if_pos (by omega)]; omega
  · next h => rw [if_neg (by omega)]; omega

end Go.Proofs.YtcjaafmlflonhaaGreatDoor


/- Package prime: mayBeDrawn, parts, Candidate. -/
namespace Go.Proofs.YtcjaafmlflonhaaGreatDoor
open Go.RowKit

set_option maxHeartbeats 400000 in
/-- mayBeDrawn. -/
theorem pMay (k : Int) (R : Bool) (hR : R = decide (16 ≤ k ∧ k ≤ 4096)) (w : World) :
    Calls Tryz.prog 20 #[.int .i64 k] w fun e w' => e = .returned (.bool R) ∧ w' = w := by
  by_cases h1 : k ≥ 16
  · by_cases h2 : k ≤ 4096
    · obtain rfl : R = true := by rw [hR]; exact decide_eq_true ⟨h1, h2⟩
      clear hR
      go_enter Tryz.func20, Tryz.ntmps20
      go_wp2_with fail
      go_ret
      exact ⟨rfl, rfl⟩
    · obtain rfl : R = false := by rw [hR]; exact decide_eq_false fun h => h2 h.2
      clear hR
      go_enter Tryz.func20, Tryz.ntmps20
      go_wp2_with fail
      go_ret
      exact ⟨rfl, rfl⟩
  · obtain rfl : R = false := by rw [hR]; exact decide_eq_false fun h => h1 h.1
    clear hR
    go_enter Tryz.func20, Tryz.ntmps20
    go_wp2_with fail
    go_ret
    exact ⟨rfl, rfl⟩

set_option maxHeartbeats 400000 in
/-- parts. -/
theorem pParts (n s q : Nat) (hq : q = (n + s - 1) / s) (hn : n ≤ 4096) (hs0 : 0 < s) (hs : s ≤ 64) (w : World) :
    Calls Tryz.prog 33 #[.int .i64 (n : Int), .int .i64 (s : Int)] w fun e w' => e = .returned (.int .i64 (q : Int)) ∧ w' = w := by
  have g1 : ((n : Int) + (s : Int) - 1) / (s : Int) = (q : Int) := by
    rw [hq]
    have e : (n : Int) + (s : Int) - 1 = ((n + s - 1 : Nat) : Int) := by omega
    rw [e]
    rfl
  have g2 : ((n : Int) + (s : Int) - 1).tdiv (s : Int) = (q : Int) := by rw [Int.tdiv_eq_ediv_of_nonneg (by omega)]; exact g1
  have g3 : ¬ (s : Int) = 0 := by omega
  have g4 : ((s : Int) == 0) = false := by simpa using g3
  have hqb : q ≤ 5000 := by rw [hq]; exact Nat.le_trans (Nat.div_le_self _ _) (by omega)
  clear hq
  go_enter Tryz.func33, Tryz.ntmps33
  go_wp2_with fail
  go_ret
  exact ⟨rfl, rfl⟩

/-- The number while its bits are made 1. -/
def candY (X n : Nat) : Nat → Nat
  | 0 => X % 2 ^ n
  | 1 => X % 2 ^ n ||| 2 ^ (n - 1)
  | 2 => X % 2 ^ n ||| 2 ^ (n - 1) ||| 2 ^ (n - 2)
  | _ => X % 2 ^ n ||| 2 ^ (n - 1) ||| 2 ^ (n - 2) ||| 1

theorem own_lt_all {w : World} {base n : Nat} {e : TypeId} {g cap : Nat} {xs : List Value} (h : w.ownsRow base e 1 (.slice (some ⟨g, 0, none⟩) n cap) n xs) : base ≤ g := (h.lt g rfl).1

theorem own_dig {w : World} {base L cap g : Nat} {Y j : Nat} (h : OwnN .u64 23 w base (.slice (some ⟨g, 0, none⟩) L cap) L (digs 18446744073709551616 Y L)) (hj : j < L) : w.cell? ⟨g, j, none⟩ = some (.int .u64 (dig 18446744073709551616 Y j : Nat)) := by
  rw [World.ownsRow.cellAt h j (by omega), List.getElem?_map, List.getElem?_eq_getElem (by rw [digs_length]; exact hj)]
  have e := digs_getD 18446744073709551616 Y L j hj
  rw [List.getD_eq_getElem?_getD, List.getElem?_eq_getElem (by rw [digs_length]; exact hj)] at e
  simp only [Option.getD_some] at e
  rw [e]
  rfl

set_option maxRecDepth 20000 in
set_option maxHeartbeats 2000000 in
/-- Candidate. -/
theorem pCand (v : Value) (bs : List Nat) (k : Int) (h0 : -9223372036854775808 ≤ k) (h1 : k ≤ 9223372036854775807) (E : Nat) (RL : List Nat) (hE : E = candE bs k) (hRL : RL = if E = 0 then digs 18446744073709551616 (candN bs k.toNat) ((k.toNat + 63) / 64) else []) (w : World) (hu : Row .u8 w v bs) (hd : Digs 256 bs) :
    Calls Tryz.prog 15 #[v, .int .i64 k] w fun e w' => ∃ v', e = .returned (.tuple #[v', .int .i64 (E : Nat)]) ∧ Row .u64 w' v' RL ∧ (∀ b, v'.ownBlock = some b → w.heap.size ≤ b) ∧ Kept Nought w w' := by
  have HU := toHid hu
  obtain ⟨ao, m, cap, rfl, hm, -, -, -, -⟩ := hu.open
  have hE1 : Hid (k < 16 ∨ 4096 < k ∨ (m : Int) ≠ (k + 7) / 8 → E = 1 ∧ RL = []) := fun h => by
    have e1 : E = 1 := by rw [hE, candE, hm.out, if_pos h]
    exact ⟨e1, by rw [hRL, if_neg (by omega)]⟩
  by_cases hr : 16 ≤ k ∧ k ≤ 4096
  · have JM := pMay k true (decide_eq_true hr).symm w
    obtain ⟨n, rfl⟩ := Int.eq_ofNat_of_zero_le (show 0 ≤ k by omega)
    obtain ⟨z, hz⟩ : ∃ z, z = (n + 7) / 8 := ⟨_, rfl⟩
    obtain ⟨L, hL⟩ : ∃ L, L = (n + 63) / 64 := ⟨_, rfl⟩
    have JZ := pParts n 8 z (by omega) (by omega) (by omega) (by omega) w
    have JL := pParts n 64 L (by omega) (by omega) (by omega) (by omega) w
    by_cases hmz : m = z
    · have hE0 : E = 0 := by
        rw [hE, candE, if_neg]
        rw [hm.out]
        omega
      subst hE0
      rw [if_pos rfl] at hRL
      have hlt : bev bs < 2 ^ (64 * L) := by
        refine Nat.lt_of_lt_of_le (bev_ltB hd) ?_
        rw [hm.out, show (256 : Nat) = 2 ^ 8 from rfl, ← Nat.pow_mul]
        exact Nat.pow_le_pow_right (by omega) (by omega)
      have hw : wordsN (bev bs) ≤ L := by
        rw [wordsN_le, show (18446744073709551616 : Nat) = 2 ^ 64 from rfl, ← Nat.pow_mul]
        exact hlt
      have hLb : L ≤ 64 := by omega
      have hL1 : 1 ≤ L := by omega
      have JO := nOfO (.slice ao m cap) bs (L : Int) w hu hd
      rw [(res_ok (by omega) hw).1, (res_ok (by omega) hw).2, digs_length] at JO
      have HRL : Hid (RL = digs 18446744073709551616 (candY (bev bs) n 3) L) := by
        unfold Hid
        rw [hRL, hL]
        congr 1
        exact (cand_bits bs n (by omega)).symm
      obtain ⟨X, hX⟩ : ∃ X, X = bev bs := ⟨_, rfl⟩
      rw [← hX] at JO HRL
      obtain ⟨L1, hL1'⟩ : ∃ L1, L = L1 + 1 := ⟨L - 1, by omega⟩
      have gL : (L : Int) - 1 = (L1 : Int) := by omega
      obtain ⟨s, hs⟩ : ∃ s, s = 64 * L - n := ⟨_, rfl⟩
      have gs : 64 * (L : Int) - (n : Int) = (s : Int) := by omega
      have hsb : s < 64 := by omega
      obtain ⟨y, hy⟩ : ∃ y, y = 18446744073709551615 / 2 ^ s := ⟨_, rfl⟩
      have gy : (18446744073709551615 : Int) / 2 ^ s = (y : Int) := by rw [hy]; simp
      have hyb : y < 18446744073709551616 := by rw [hy]; exact Nat.lt_of_le_of_lt (Nat.div_le_self _ _) (by omega)
      have hxd : dig 18446744073709551616 X L1 < 18446744073709551616 := Nat.mod_lt _ (by omega)
      have HTOP : Hid ((digs 18446744073709551616 X L).set L1 (dig 18446744073709551616 X L1 &&& y) = digs 18446744073709551616 (candY X n 0) L) := by
        have := digs_top X n L (by omega) (by omega) (by omega)
        rw [← hs, ← hy, show L - 1 = L1 by omega] at this
        exact this
      have hand := u64_and_nat (dig 18446744073709551616 X L1) y hxd hyb
      obtain ⟨p1, hp1⟩ : ∃ p1, p1 = n - 1 := ⟨_, rfl⟩
      obtain ⟨p2, hp2⟩ : ∃ p2, p2 = n - 2 := ⟨_, rfl⟩
      have gp1 : (n : Int) - 1 = (p1 : Int) := by omega
      have gp2 : (n : Int) - 2 = (p2 : Int) := by omega
      have HOR : Hid (∀ i p, i < 3 → (p = p1 ∧ i = 0 ∨ p = p2 ∧ i = 1 ∨ p = 0 ∧ i = 2) → p ≤ 4096 ∧ p / 64 < L ∧ candY X n (i + 1) = candY X n i ||| 2 ^ p) := by
        rintro i p hi (⟨rfl, rfl⟩ | ⟨rfl, rfl⟩ | ⟨rfl, rfl⟩)
        · exact ⟨by omega, by omega, by rw [hp1]; rfl⟩
        · exact ⟨by omega, by omega, by rw [hp2]; rfl⟩
        · exact ⟨by omega, by omega, rfl⟩
      have hgz : ((m : Int) == (z : Int)) = true := by rw [hmz]; simp
      have hgz' : ((m : Int) != (z : Int)) = false := by rw [hmz]; simp
      have hL64 : L1 < L := by omega
      have hnb : n ≤ 4096 := by omega
      have hp1b : p1 ≤ 4096 := by omega
      have hp2b : p2 ≤ 4096 := by omega
      clear hE hRL hu hd hE1 hr hlt hw hX hs hy hp1 hp2 hL hz hL1'
      subst hmz
      go_enter Tryz.func15, Tryz.ntmps15
      go_wp2_with fail
      refine JM.mono ?_
      rintro e w1 ⟨rfl, rfl⟩
      go_wp2_with fail
      refine JZ.mono ?_
      rintro e w2 ⟨rfl, rfl⟩
      go_wp2_with fail
      refine JL.mono ?_
      rintro e w3 ⟨rfl, rfl⟩
      go_wp2_with fail
      refine JO.mono ?_
      rintro e w4 ⟨u, rfl, hO, k4⟩
      obtain ⟨g, c, rfl⟩ : ∃ g c, u = .slice (some ⟨g, 0, none⟩) L c := by
        rcases hO.2 with ⟨_, e⟩ | ⟨g, c, _, e, _⟩
        · omega
        · exact ⟨g, c, e⟩
      have hbg := own_lt_all hO
      have hc := own_dig hO hL64
      have hf := World.ownsRow.frozenAt hO L1
      have hst := (World.ownsRow.stored hO L1 (.int .u64 ((dig 18446744073709551616 X L1 &&& y : Nat) : Int))).1
      have hO5 : OwnN .u64 23 (w4.setCell ⟨g, L1, none⟩ (.int .u64 ((dig 18446744073709551616 X L1 &&& y : Nat) : Int))) w3.heap.size (.slice (some ⟨g, 0, none⟩) L c) L (digs 18446744073709551616 (candY X n 0) L) := by
        rw [← HTOP.out]
        unfold OwnN
        rw [List.map_set]
        exact hst
      have HO5 := toHid hO5
      have HK5 := toHid (k4.setCell ⟨g, L1, none⟩ (fun h => absurd h (by show ¬ g < _; omega)) (.int .u64 ((dig 18446744073709551616 X L1 &&& y : Nat) : Int)))
      clear JM JZ JL JO hO hst hO5 k4 HTOP
      generalize dig 18446744073709551616 X L1 &&& y = d5 at *
      generalize dig 18446744073709551616 X L1 = d4 at *
      go_wp2_with fail
      go_region
      all_goals
        go_wp2_with fail
        clear hc hf hand
        go_loopw [49] (fun iv wr => ∃ i : Nat, i ≤ 3 ∧ iv = .int .i64 (i : Int) ∧ Hid (OwnN .u64 23 wr w3.heap.size (.slice (some ⟨g, 0, none⟩) L c) L (digs 18446744073709551616 (candY X n i) L)) ∧ Hid (Kept Nought w3 wr)) (fun iv _ => 3 - (intOf iv).toNat)
        case atStart => exact ⟨0, by omega, rfl, (Kept.refl Nought _).drew.own HO5.out (fun _ _ f => f), HK5.out.drew⟩
        case round =>
          obtain ⟨i, hi, rfl, HO, HK⟩ := hrel
          by_cases hi3 : i < 3
          · obtain ⟨p, hidx, hpi⟩ : ∃ p : Nat, (∀ W, Sem.run Tryz.prog (Instr.index 75 (.agg #[.int .i64 (p1 : Int), .int .i64 (p2 : Int), .int .i64 0]) (.int .i64 (i : Int))) W = .ok (.int .i64 (p : Int)) W) ∧ (p = p1 ∧ i = 0 ∨ p = p2 ∧ i = 1 ∨ p = 0 ∧ i = 2) := by
              obtain rfl | rfl | rfl : i = 0 ∨ i = 1 ∨ i = 2 := by omega
              · exact ⟨p1, fun W => (by first | rfl | (change _ = _; kernel_rfl)), .inl ⟨rfl, rfl⟩⟩
              · exact ⟨p2, fun W => (by first | rfl | (change _ = _; kernel_rfl)), .inr (.inl ⟨rfl, rfl⟩)⟩
              · exact ⟨0, fun W => (by first | rfl | (change _ = _; kernel_rfl)), .inr (.inr ⟨rfl, rfl⟩)⟩
            obtain ⟨hpb, hpL, hY⟩ := HOR.out i p hi3 hpi
            have hoO := digs_or (candY X n i) p L hpL
            rw [← hY] at hoO
            obtain ⟨j, hj⟩ : ∃ j, j = p / 64 := ⟨_, rfl⟩
            obtain ⟨t, ht⟩ : ∃ t, t = p % 64 := ⟨_, rfl⟩
            rw [← hj, ← ht] at hoO
            rw [← hj] at hpL
            have gj : (p : Int) / 64 = (j : Int) := by omega
            have gj' : (p : Int).tdiv 64 = (j : Int) := by rw [Int.tdiv_eq_ediv_of_nonneg (by omega)]; exact gj
            have gt : (p : Int) % 64 = (t : Int) := by omega
            have gt' : (p : Int).tmod 64 = (t : Int) := by rw [Int.tmod_eq_emod_of_nonneg (by omega)]; exact gt
            have htb : t < 64 := by omega
            obtain ⟨q, hq⟩ : ∃ q, q = 2 ^ t := ⟨_, rfl⟩
            have hqb : q < 18446744073709551616 := by rw [hq]; exact Nat.pow_lt_pow_right (a := 2) (m := t) (n := 64) (by omega) htb
            have gq : IntKind.u64.wrap (2 ^ t) = (q : Int) := by
              have e0 : ((2 ^ t : Nat) : Int) = 2 ^ t := by simp
              rw [← e0, ← hq, IntKind.wrap_u64]
              omega
            rw [← hq] at hoO
            have hdb : dig 18446744073709551616 (candY X n i) j < 18446744073709551616 := Nat.mod_lt _ (by omega)
            have hor := u64_or_nat (dig 18446744073709551616 (candY X n i) j) q hdb hqb
            have hc := own_dig HO.out hpL
            have hf := World.ownsRow.frozenAt HO.out j
            have hst := (World.ownsRow.stored HO.out j (.int .u64 ((dig 18446744073709551616 (candY X n i) j ||| q : Nat) : Int))).1
            have hO6 : OwnN .u64 23 (wr.setCell ⟨g, j, none⟩ (.int .u64 ((dig 18446744073709551616 (candY X n i) j ||| q : Nat) : Int))) w3.heap.size (.slice (some ⟨g, 0, none⟩) L c) L (digs 18446744073709551616 (candY X n (i + 1)) L) := by
              rw [← hoO]
              unfold OwnN
              rw [List.map_set]
              exact hst
            have HO6 := toHid hO6
            have HK6 := toHid (HK.out.setCell ⟨g, j, none⟩ (fun h => absurd h (by show ¬ g < _; omega)) (.int .u64 ((dig 18446744073709551616 (candY X n i) j ||| q : Nat) : Int)))
            have gi : (i : Int) < 3 := by omega
            have gi0 : (0 : Int) ≤ (i : Int) := by omega
            clear hst hO6 hoO hY hpi hj ht hq hdb
            generalize dig 18446744073709551616 (candY X n i) j ||| q = d7 at *
            generalize dig 18446744073709551616 (candY X n i) j = d6 at *
            go_wp2_with fail
            go_region
            all_goals
              go_wp2_with fail
              go_roundw
              case rel => exact ⟨i + 1, by omega, by go_num, (Kept.refl Nought _).drew.own HO6.out (fun _ _ f => f), HK6.out.drew⟩
              case measure => simp [intOf]; omega
          · obtain rfl : i = 3 := by omega
            go_wp2_with fail
            refine bodyPost_ret (v := .tuple #[.slice (some ⟨g, 0, none⟩) L c, .int .i64 0]) (by simp [results, Tryz.results15, go_sem]) rfl ?_
            exact ⟨_, rfl, by rw [HRL.out]; exact Row.of_own (base := w3.heap.size) (e := 23) (by rw [digs_length]; exact HO.out), fun b hb => by cases hb; exact hbg, HK.out⟩
    · have HB := toHid (hE1.out (.inr (.inr (by rw [show ((n : Int) + 7) / 8 = (z : Int) by omega]; omega))))
      have hgz : ((m : Int) == (z : Int)) = false := by simp; omega
      have hgz' : ((m : Int) != (z : Int)) = true := by simp; omega
      have hne : ¬ (m : Int) = (z : Int) := by omega
      clear hE hRL hu hd hE1 hr hz hL hmz
      go_enter Tryz.func15, Tryz.ntmps15
      go_wp2_with fail
      refine JM.mono ?_
      rintro e w1 ⟨rfl, rfl⟩
      go_wp2_with fail
      refine JZ.mono ?_
      rintro e w2 ⟨rfl, rfl⟩
      go_wp2_with fail
      refine bodyPost_ret (v := .tuple #[.slice none 0 0, .int .i64 1]) (by simp [results, Tryz.results15, go_sem]) rfl ?_
      exact ⟨_, by rw [HB.out.1]; rfl, by rw [HB.out.2]; exact Row.nil _ _, (fun b hb => by cases hb), Kept.refl _ _⟩
  · have JM := pMay k false (decide_eq_false hr).symm w
    have HB := toHid (hE1.out (by omega))
    clear hE hRL hu hd hE1 hr
    go_enter Tryz.func15, Tryz.ntmps15
    go_wp2_with fail
    refine JM.mono ?_
    rintro e w1 ⟨rfl, rfl⟩
    go_wp2_with fail
    refine bodyPost_ret (v := .tuple #[.slice none 0 0, .int .i64 1]) (by simp [results, Tryz.results15, go_sem]) rfl ?_
    exact ⟨_, by rw [HB.out.1]; rfl, by rw [HB.out.2]; exact Row.nil _ _, (fun b hb => by cases hb), Kept.refl _ _⟩

end Go.Proofs.YtcjaafmlflonhaaGreatDoor

