/- The plain side of layer 15: Below. -/
import Derived.Test.YtcjaafmlflonhaaGreatDoorScr2
import Derived.Test.YtcjaafmlflonhaaGreatDoorBev1
namespace Go.Proofs.YtcjaafmlflonhaaGreatDoor
open Go.RowKit

/-- Draws of z bytes, cut to t bits, until one is above 0 and below M: the number (0: there is none), how many draws, what is left. -/
def belF (M t z : Nat) : Nat → List Nat → Nat → Nat × Nat × List Nat
  | 0, _, _ => (0, 0, [])
  | f + 1, bs, k => if bs.length < z then (0, 0, []) else if 0 < bev (bs.take z) % 2 ^ t ∧ bev (bs.take z) % 2 ^ t < M then (bev (bs.take z) % 2 ^ t, k, bs.drop z) else belF M t z f (bs.drop z) (k + 1)

def belN (M : Nat) (bs : List Nat) : Nat × Nat × List Nat := belF M (blen M) ((blen M + 7) / 8) (bs.length + 1) bs 1

theorem belF_lt (M t z : Nat) (hM : 0 < M) : ∀ f bs k, (belF M t z f bs k).1 < M
  | 0, _, _ => hM
  | f + 1, bs, k => by
    unfold belF
    split
    · exact hM
    · split
      · next h => exact h.2
      · exact belF_lt M t z hM f _ _

theorem belF_rest (M t z : Nat) : ∀ f bs k, ∃ n, (belF M t z f bs k).2.2 = bs.drop n
  | 0, bs, _ => ⟨bs.length, by rw [List.drop_length]; rfl⟩
  | f + 1, bs, k => by
    unfold belF
    split
    · exact ⟨bs.length, by rw [List.drop_length]⟩
    · split
      · exact ⟨z, rfl⟩
      · obtain ⟨n, hn⟩ := belF_rest M t z f (bs.drop z) (k + 1)
        exact ⟨z + n, by rw [hn, List.drop_drop]⟩

theorem belF_pos (M t z : Nat) : ∀ f bs k, 0 < k → (belF M t z f bs k).1 ≠ 0 → 0 < (belF M t z f bs k).2.1
  | 0, _, _, _, h => absurd rfl h
  | f + 1, bs, k, hk, h => by
    unfold belF at *
    split at h
    · exact absurd rfl h
    · next h1 =>
      rw [if_neg h1]
      split at h
      · next h2 => rw [if_pos h2]; exact hk
      · next h2 => rw [if_neg h2]; exact belF_pos M t z f _ _ (by omega) h

/-- What Below answers of a number of the words xs. -/
def belE (xs bs : List Nat) : Nat := if 300 < xs.length then 2 else if val 18446744073709551616 xs < 2 then 1 else if (belN (val 18446744073709551616 xs) bs).1 = 0 then 150 else 0
def belX (xs bs : List Nat) : List Nat := if belE xs bs = 0 then digs 18446744073709551616 (belN (val 18446744073709551616 xs) bs).1 xs.length else []
def belK (xs bs : List Nat) : Nat := if belE xs bs = 0 then (belN (val 18446744073709551616 xs) bs).2.1 else 0
def belR (xs bs : List Nat) : List Nat := if 300 < xs.length ∨ val 18446744073709551616 xs < 2 then bs else (belN (val 18446744073709551616 xs) bs).2.2

set_option maxRecDepth 20000 in
set_option maxHeartbeats 1000000 in
/-- Below, of a number that is too long or too small. -/
theorem r15BelowBad (b B : Nat) (bs xs : List Nat) (v : Value) (w : World) (h : ScrAt w b B bs) (hv : Row .u64 w v xs) (hd : Digs 18446744073709551616 xs) (hl : xs.length ≤ 1000000) (hbad : 300 < xs.length ∨ val 18446744073709551616 xs < 2) :
    Calls Tryz.prog 54 #[.pointer (some ⟨b, 0, none⟩), v] w fun e w' => e = .returned (.tuple #[.slice none 0 0, .int .i64 0, .int .i64 (belE xs bs : Nat)]) ∧ ScrAt w' b B bs ∧ Kept Nought w w' := by
  have H := toHid h
  have J := toHid fun W (k : Kept Nought w W) => rOf v xs W (hv.grew k) hd (by omega)
  obtain ⟨ao, L, cap, rfl, hL, hLc, hcm, _, _⟩ := hv.open
  have hLb : L ≤ 1000000 := by have := hL.out; omega
  clear h hv hd
  by_cases h1 : 300 < L
  · have e1 : belE xs bs = 2 := by unfold belE; rw [hL.out, if_pos h1]
    rw [e1]
    have g1 : (L : Int) > 300 := by omega
    have g2 : (300 : Int) < (L : Int) := by omega
    clear e1 hbad J
    go_enter Tryz.func54, Tryz.ntmps54
    go_wp2_with fail
    refine bodyPost_ret (v := .tuple #[.slice none 0 0, .int .i64 0, .int .i64 2]) (by simp [results, Tryz.results54, go_sem]) rfl ?_
    exact ⟨rfl, H.out, Kept.refl _ _⟩
  · have hV : val 18446744073709551616 xs < 2 := by
      have := hL.out
      rcases hbad with h | h
      · omega
      · exact h
    have e1 : belE xs bs = 1 := by unfold belE; rw [hL.out, if_neg h1, if_pos hV]
    rw [e1]
    have g1 : ¬ (L : Int) > 300 := by omega
    have g2 : ¬ (300 : Int) < (L : Int) := by omega
    generalize val 18446744073709551616 xs = V at *
    have hcmp : cmpN V 2 = -1 := cmpN_lt hV
    have HC := toHid hcmp
    clear e1 hbad hV hcmp
    go_enter Tryz.func54, Tryz.ntmps54
    go_wp2_with fail
    refine (J.out _ (Kept.refl _ _)).mono ?_
    rintro e w1 ⟨v1, rfl, hb1, f1, k1⟩
    have J2 := toHid (rSmall 2 (by omega) w1)
    have HB1 := toHid hb1
    have HK1 := toHid k1
    clear hb1 f1 k1 J
    go_wp2_with fail
    refine J2.out.mono ?_
    rintro e w2 ⟨v2, rfl, hb2, f2, k2⟩
    have J3 := rCmp v1 v2 V 2 w2 (HB1.out.grew k2) hb2
    rw [HC.out] at J3
    have J3 := toHid J3
    have HK2 := toHid (HK1.out.trans k2)
    clear hb2 f2 k2 J2
    go_wp2_with fail
    refine J3.out.mono ?_
    rintro e w3 ⟨rfl, nn, rfl⟩
    clear J3
    go_wp2_with fail
    refine bodyPost_ret (v := .tuple #[.slice none 0 0, .int .i64 0, .int .i64 1]) (by simp [results, Tryz.results54, go_sem]) rfl ?_
    exact ⟨rfl, H.out.grew (HK2.out.drewN nn), HK2.out.drewN nn⟩

end Go.Proofs.YtcjaafmlflonhaaGreatDoor
