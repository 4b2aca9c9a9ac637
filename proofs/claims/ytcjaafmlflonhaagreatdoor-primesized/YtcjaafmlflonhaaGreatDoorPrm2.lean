/- The plain side of layer 17 (package sconceref16): odd, Strong. -/
import Derived.Test.YtcjaafmlflonhaaGreatDoorPrm1
import Derived.Test.YtcjaafmlflonhaaGreatDoorBigM
namespace Go.Proofs.YtcjaafmlflonhaaGreatDoor
open Go.RowKit

/-- What odd answers. -/
def oddE (X : Nat) : Nat := if 130 < wordsN X then 2 else if X ≤ 3 ∨ X % 2 = 0 then 1 else 0

theorem wordsTrim {xs : List Nat} {k : Nat} (hd : Digs 18446744073709551616 xs) (hk : k ≤ xs.length) (hz : ∀ i, k ≤ i → xs.getD i 0 = 0) (ht : k = 0 ∨ xs.getD (k - 1) 0 ≠ 0) : wordsN (val 18446744073709551616 xs) = k := by
  have hl : (xs.take k).length = k := by rw [List.length_take]; omega
  have hT := trimmed_take hk ht
  have hv := take_trim (B := 18446744073709551616) hk hz
  have h1 := fun n => len_le_iff (B := 18446744073709551616) (by omega) (hd.take k) hT n
  rw [hl, hv] at h1
  have h2 := fun n => wordsN_le (val 18446744073709551616 xs) n
  have h3 := (h2 k).2 ((h1 k).1 (Nat.le_refl _))
  have h4 := (h1 _).2 ((h2 _).1 (Nat.le_refl _))
  omega

theorem bigLow {w : World} {v : Value} {X : Nat} (h : IsBig w v X) (hX : 0 < X) : ∃ b off n cap d, v = .slice (some ⟨b, off, none⟩) n cap ∧ 0 < n ∧ w.cell? ⟨b, off, none⟩ = some (.int .u32 ((d : Nat) : Int)) ∧ d % 2 = X % 2 ∧ d < 4294967296 := by
  obtain ⟨ds, hr, hd, _, rfl, _⟩ := h
  cases ds with
  | nil => simp [val] at hX
  | cons d ds =>
    obtain ⟨ao, n, cap, rfl, hL, _, _, _, h4⟩ := hr.open
    have hn : 0 < n := by rw [← hL.out]; simp
    obtain ⟨b, off, rfl, hc⟩ := h4 0 hn
    refine ⟨b, off, n, cap, d, rfl, hn, by simpa using hc, ?_, hd d (by simp)⟩
    simp only [val]
    omega

theorem cmpN_le {a b : Nat} (h : a ≤ b) : cmpN a b ≤ 0 := by
  unfold cmpN
  split
  · omega
  · rw [if_pos (by omega)]
    omega

set_option maxRecDepth 20000 in
set_option maxHeartbeats 1000000 in
/-- odd. -/
theorem r16odd (ao : Option Addr) (L cap : Nat) (xs : List Nat) (E : Nat) (hE : E = oddE (val 18446744073709551616 xs)) (w : World) (hu : Row .u64 w (.slice ao L cap) xs) (hdx : Digs 18446744073709551616 xs) (hLb : L ≤ 1000000) :
    Calls Tryz.prog 53 #[.slice ao L cap] w fun e w' => e = .returned (.int .i64 (E : Int)) ∧ Kept Nought w w' := by
  have hu' := hu
  obtain ⟨_, _, _, e1, hL, c1, c2, c3, h4⟩ := hu.open
  cases e1
  have HC : Hid (∀ k, k ≤ L → Row .u64 w (.slice ao k cap) (xs.take k)) := fun k hk => hu'.cut (by rw [hL.out]; exact hk)
  have HZ : Hid (∀ i, L ≤ i → xs.getD i 0 = 0) := fun i hi => by have := hL.out; rw [List.getD_eq_getElem?_getD, List.getElem?_eq_none (by omega)]; rfl
  have HD := toHid hdx
  have HE := toHid hE
  have HLL := toHid hL
  clear hu hu' hdx hE hL c3
  go_enter Tryz.func53, Tryz.ntmps53
  go_wp2_with fail
  go_loopw [3] (fun kv wr => wr = w ∧ ∃ k : Nat, k ≤ L ∧ kv = .int .i64 (k : Int) ∧ Hid (∀ i, k ≤ i → xs.getD i 0 = 0)) (fun kv _ => (intOf kv).toNat)
  case atStart => exact ⟨rfl, L, Nat.le_refl _, rfl, HZ⟩
  case round =>
    obtain ⟨rfl, k, hk, rfl, hz⟩ := hrel
    have hgo : ∀ (ht : Hid (k = 0 ∨ xs.getD (k - 1) 0 ≠ 0)), wordsN (val 18446744073709551616 xs) = k ∧ val 18446744073709551616 (xs.take k) = val 18446744073709551616 xs := fun ht => ⟨wordsTrim HD.out (by rw [HLL.out.out]; exact hk) hz.out ht.out, take_trim (by rw [HLL.out.out]; exact hk) hz.out⟩
    by_cases hst : k = 0 ∨ xs.getD (k - 1) 0 ≠ 0
    · obtain ⟨hw, hv⟩ := hgo hst
      have hrow := HC.out k hk
      have hdt : Digs 18446744073709551616 (xs.take k) := HD.out.take k
      have hO := rOf _ _ wr hrow hdt (by rw [List.length_take, HLL.out.out]; omega)
      rw [hv] at hO
      have HE2 : Hid (E = if 130 < k then 2 else if val 18446744073709551616 xs ≤ 3 ∨ val 18446744073709551616 xs % 2 = 0 then 1 else 0) := by
        unfold Hid
        rw [HE.out, oddE, hw]
      generalize val 18446744073709551616 xs = X at *
      clear hgo hrow hdt hw hv
      by_cases hk0 : k = 0
      · subst hk0
        rw [if_neg (by omega)] at HE2
        go_wp2_with fail
        refine hO.mono ?_
        rintro e w1 ⟨v1, rfl, hb1, _, k1⟩
        have hS := rSmall 3 (by omega) w1
        clear hO
        go_wp2_with fail
        refine hS.mono ?_
        rintro e w2 ⟨v2, rfl, hb2, _, k2⟩
        have hb3 := hb1.grew k2
        have hC := rCmp v1 v2 X 3 w2 hb3 hb2
        have K2 := k1.trans k2
        clear hS hb1 hb2
        by_cases h3 : X ≤ 3
        · have HT : Hid (E = 1) := by unfold Hid; rw [HE2.out, if_pos (.inl h3)]
          have hc := cmpN_le h3
          generalize cmpN X 3 = cc at *
          go_wp2_with fail
          refine hC.mono ?_
          rintro e w3 ⟨rfl, m3, rfl⟩
          go_wp2_with fail
          go_ret
          exact ⟨by rw [HT.out]; rfl, K2.drewN m3⟩
        · rw [cmpN_gt (show 3 < X by omega)] at hC
          obtain ⟨b5, off5, n5, cap5, d5, rfl, hn5, hc5, hd5, hd6⟩ := bigLow hb3 (by omega)
          have gn5 : (0 : Int) < (n5 : Int) := by omega
          go_wp2_with fail
          refine hC.mono ?_
          rintro e w3 ⟨rfl, m3, rfl⟩
          have hc6 : (w2.drewN m3).cell? ⟨b5, off5, none⟩ = some (.int .u32 (d5 : Int)) := ((Kept.refl Nought w2).drewN m3).cellN hc5
          have hm5 : (d5 : Int).tmod 2 = ((d5 % 2 : Nat) : Int) := by rw [Int.tmod_eq_emod_of_nonneg (by omega)]; omega
          clear hC hc5
          by_cases h2 : X % 2 = 0
          · have HT : Hid (E = 1) := by unfold Hid; rw [HE2.out, if_pos (.inr h2)]
            have hz5 : (d5 : Int) % 2 = 0 := by omega
            rw [show d5 % 2 = 0 by omega] at hm5
            go_wp2_with fail
            go_ret
            exact ⟨by rw [HT.out]; rfl, K2.drewN m3⟩
          · have HT : Hid (E = 0) := by unfold Hid; rw [HE2.out, if_neg (by omega)]
            have hz5 : (d5 : Int) % 2 = 1 := by omega
            rw [show d5 % 2 = 1 by omega] at hm5
            go_wp2_with fail
            go_ret
            exact ⟨by rw [HT.out]; rfl, K2.drewN m3⟩
      · have hne : xs.getD (k - 1) 0 ≠ 0 := by
          rcases hst with h | h
          · exact absurd h hk0
          · exact h
        obtain ⟨q, rfl⟩ : ∃ q, k = q + 1 := ⟨k - 1, by omega⟩
        rw [Nat.add_sub_cancel] at hne
        obtain ⟨b, off, rfl, hc⟩ := h4 q (by omega)
        generalize xs.getD q 0 = z at *
        have gz : ¬ (z : Int) = 0 := by omega
        have gq : ((q + 1 : Nat) : Int) - 1 = (q : Int) := by omega
        have gq1 : (q : Int) < (L : Int) := by omega
        clear h4
        generalize hkk : q + 1 = k at *
        by_cases h130 : 130 < k
        · have g3 : (k : Int) > 130 := by omega
          have HT : Hid (E = 2) := by unfold Hid; rw [HE2.out, if_pos h130]
          clear hO HE2
          go_wp2_with fail
          go_ret
          exact ⟨by rw [HT.out]; rfl, Kept.refl _ _⟩
        · have g3 : ¬ (k : Int) > 130 := by omega
          rw [if_neg h130] at HE2
          go_wp2_with fail
          refine hO.mono ?_
          rintro e w1 ⟨v1, rfl, hb1, _, k1⟩
          have hS := rSmall 3 (by omega) w1
          clear hO
          go_wp2_with fail
          refine hS.mono ?_
          rintro e w2 ⟨v2, rfl, hb2, _, k2⟩
          have hb3 := hb1.grew k2
          have hC := rCmp v1 v2 X 3 w2 hb3 hb2
          have K2 := k1.trans k2
          clear hS hb1 hb2
          by_cases h3 : X ≤ 3
          · have HT : Hid (E = 1) := by unfold Hid; rw [HE2.out, if_pos (.inl h3)]
            have hc := cmpN_le h3
            generalize cmpN X 3 = cc at *
            go_wp2_with fail
            refine hC.mono ?_
            rintro e w3 ⟨rfl, m3, rfl⟩
            go_wp2_with fail
            go_ret
            exact ⟨by rw [HT.out]; rfl, K2.drewN m3⟩
          · rw [cmpN_gt (show 3 < X by omega)] at hC
            obtain ⟨b5, off5, n5, cap5, d5, rfl, hn5, hc5, hd5, hd6⟩ := bigLow hb3 (by omega)
            have gn5 : (0 : Int) < (n5 : Int) := by omega
            go_wp2_with fail
            refine hC.mono ?_
            rintro e w3 ⟨rfl, m3, rfl⟩
            have hc6 : (w2.drewN m3).cell? ⟨b5, off5, none⟩ = some (.int .u32 (d5 : Int)) := ((Kept.refl Nought w2).drewN m3).cellN hc5
            have hm5 : (d5 : Int).tmod 2 = ((d5 % 2 : Nat) : Int) := by rw [Int.tmod_eq_emod_of_nonneg (by omega)]; omega
            clear hC hc5
            by_cases h2 : X % 2 = 0
            · have HT : Hid (E = 1) := by unfold Hid; rw [HE2.out, if_pos (.inr h2)]
              have hz5 : (d5 : Int) % 2 = 0 := by omega
              rw [show d5 % 2 = 0 by omega] at hm5
              go_wp2_with fail
              go_ret
              exact ⟨by rw [HT.out]; rfl, K2.drewN m3⟩
            · have HT : Hid (E = 0) := by unfold Hid; rw [HE2.out, if_neg (by omega)]
              have hz5 : (d5 : Int) % 2 = 1 := by omega
              rw [show d5 % 2 = 1 by omega] at hm5
              go_wp2_with fail
              go_ret
              exact ⟨by rw [HT.out]; rfl, K2.drewN m3⟩
    · have hk0 : ¬ k = 0 := fun h => hst (.inl h)
      have hz0 : xs.getD (k - 1) 0 = 0 := Classical.byContradiction fun h => hst (.inr h)
      obtain ⟨q, rfl⟩ : ∃ q, k = q + 1 := ⟨k - 1, by omega⟩
      rw [Nat.add_sub_cancel] at hz0
      obtain ⟨b, off, rfl, hc⟩ := h4 q (by omega)
      have HA : Hid (∀ i, q ≤ i → xs.getD i 0 = 0) := fun i hi => by
        by_cases e : i = q
        · subst e; exact hz0
        · exact hz.out i (by omega)
      rw [hz0] at hc
      have gq : ((q + 1 : Nat) : Int) - 1 = (q : Int) := by omega
      have gq1 : (q : Int) < (L : Int) := by omega
      clear h4 hz0 hst hgo hk0
      go_wp2_with fail
      go_roundw
      case rel => exact ⟨trivial, q, by omega, by go_num, HA⟩
      case measure => simp [intOf]

end Go.Proofs.YtcjaafmlflonhaaGreatDoor
