/- slices.Concat of any rows of bytes. -/
import Derived.Test.YthnkganmccgaeaaDoorCat1
import Derived.Test.YthnkganmccgaeaaDoorCut0
namespace Go.Proofs.YthnkganmccgaeaaDoor
open Go.RowKit

/-- The first t of some numbers, added up. -/
def sumT (L : Nat → Nat) : Nat → Nat
  | 0 => 0
  | t + 1 => sumT L t + L t

/-- The first t of some rows, one behind the other. -/
def catT (Z : Nat → List Nat) : Nat → List Nat
  | 0 => []
  | t + 1 => catT Z t ++ Z t

theorem sumT_le {L : Nat → Nat} {t : Nat} : ∀ {T : Nat}, t ≤ T → sumT L t ≤ sumT L T
  | 0, h => by
    obtain rfl : t = 0 := by omega
    exact Nat.le_refl _
  | T + 1, h => by
    by_cases e : t = T + 1
    · subst e
      exact Nat.le_refl _
    · exact Nat.le_trans (sumT_le (T := T) (by omega)) (Nat.le_add_right _ _)

theorem catT_len {L : Nat → Nat} {Z : Nat → List Nat} {T : Nat} (h : ∀ i, i < T → (Z i).length = L i) : ∀ {t : Nat}, t ≤ T → (catT Z t).length = sumT L t
  | 0, _ => rfl
  | t + 1, ht => by
    unfold catT sumT
    rw [List.length_append, catT_len h (t := t) (by omega), h t (by omega)]

set_option maxRecDepth 20000 in
set_option maxHeartbeats 2000000 in
/-- slices.Concat of any rows. -/
theorem sConcatN (lb off T : Nat) (A : Nat → Option Addr) (L C : Nat → Nat) (Z : Nat → List Nat) (w : World) (hT : T ≤ 1000) (hc : ∀ i, i < T → w.cell? ⟨lb, off + i, none⟩ = some (.slice (A i) (L i) (C i))) (hr : ∀ i, i < T → Row .u8 w (.slice (A i) (L i) (C i)) (Z i)) (h0 : 0 < sumT L T) (hl : sumT L T ≤ 10000000) :
    Calls Tryd.prog 22 #[.slice (some ⟨lb, off, none⟩) T T] w fun e w' => ∃ v', e = .returned v' ∧ OwnB w' w.heap.size v' (catT Z T) ∧ Kept Nought w w' := by
  have HLen : Hid (∀ i, i < T → (Z i).length = L i) := fun i hi => by
    obtain ⟨_, _, _, e1, hL, _, _, _, _⟩ := (hr i hi).open
    cases e1
    exact hL.out
  obtain ⟨N, hN⟩ : ∃ N, N = sumT L T := ⟨_, rfl⟩
  have HLE : Hid (∀ t, t < T → sumT L (t + 1) ≤ N) := fun t ht => by rw [hN]; exact sumT_le ht
  rw [← hN] at h0 hl
  have JG := toHid (fun W => sGrow N h0 (by omega) W)
  have JC : Hid (∀ W, Kept Nought w W → ∀ i, i < T → W.cell? ⟨lb, off + i, none⟩ = some (.slice (A i) (L i) (C i))) := fun W k i hi => k.cellN (hc i hi)
  have JX : Hid (∀ W, Kept Nought w W → ∀ i, i < T → Row .u8 W (.slice (A i) (L i) (C i)) (Z i)) := fun W k i hi => (hr i hi).grew k
  have HN := toHid hN
  clear hr hN hc
  go_enter Tryd.func22, Tryd.ntmps22
  go_wp2_with fail
  go_loopw [3, 11] (fun sv iv wr => ∃ t S : Nat, t ≤ T ∧ S ≤ N ∧ iv = .int .i64 (t : Int) ∧ sv = .int .i64 (S : Int) ∧ Hid (S = sumT L t) ∧ Hid (Kept Nought w wr)) (fun _ iv _ => T - (intOf iv).toNat)
  case atStart => exact ⟨0, 0, by omega, by omega, rfl, rfl, rfl, Kept.refl _ _⟩
  case round =>
    obtain ⟨t, S, ht, hSN, rfl, rfl, HS, HK0⟩ := hrel
    by_cases htT : t < T
    · have g1 : (t : Int) < (T : Int) := by omega
      have d0 := JC.out _ HK0.out t htT
      have hle := HLE.out t htT
      obtain ⟨ao, hao⟩ : ∃ ao, ao = A t := ⟨_, rfl⟩
      obtain ⟨l, hll⟩ : ∃ l, l = L t := ⟨_, rfl⟩
      obtain ⟨cp, hcp⟩ : ∃ cp, cp = C t := ⟨_, rfl⟩
      rw [← hao, ← hll, ← hcp] at d0
      obtain ⟨S2, hS2⟩ : ∃ S2, S2 = S + l := ⟨_, rfl⟩
      have HS2 : Hid (S2 = sumT L (t + 1)) := by
        unfold Hid
        rw [hS2, HS.out, hll]
        rfl
      rw [← HS2.out] at hle
      have gS : (S : Int) + (l : Int) = (S2 : Int) := by omega
      have gn : ¬ (S2 : Int) < 0 := by omega
      clear hao hll hcp hS2 HS
      go_wp2_with fail
      go_roundw
      case rel => exact ⟨t + 1, S2, by omega, hle, by go_num, rfl, HS2.out, HK0.out⟩
      case measure => simp [intOf]; omega
    · obtain rfl : t = T := by omega
      obtain rfl : S = N := HS.out.trans HN.out.symm
      have g1 : ¬ (t : Int) < (t : Int) := by omega
      have gNN : ¬ (S : Int) < 0 := by omega
      go_wp2_with fail
      refine (JG.out _).mono ?_
      rintro e w1 ⟨v1, rfl, o1, k1⟩
      obtain ⟨vo1, vc1, rfl⟩ := own_slice o1
      have HO1 := toHid (OwnB.base o1 HK0.out.size)
      have HK1 := toHid (HK0.out.trans k1)
      clear o1 k1 HK0 HS
      go_wp2_with fail
      go_loopw [6, 27] (fun ov iv wr => ∃ (k : Nat) (ls : List Nat) (n : Nat) (ao : Option Addr) (cc : Nat), k ≤ t ∧ iv = .int .i64 (k : Int) ∧ ov = .slice ao n cc ∧ n ≤ S ∧ Hid (ls = catT Z k) ∧ Hid (ls.length = n) ∧ Hid (OwnB wr w.heap.size (.slice ao n cc) ls) ∧ Hid (Kept Nought w wr)) (fun _ iv _ => t - (intOf iv).toNat)
      case atStart => exact ⟨0, [], 0, _, _, by omega, rfl, rfl, by omega, rfl, rfl, HO1.out, HK1.out⟩
      case round =>
        clear HO1 HK1
        obtain ⟨k, ls, n, ao, cc, hk, rfl, rfl, hn, HLS, HLN, HO, HK⟩ := hrel
        by_cases hkt : k < t
        · have g2 : (k : Int) < (t : Int) := by omega
          have d0 := JC.out _ HK.out k hkt
          have r0 := JX.out _ HK.out k hkt
          have hle := HLE.out k hkt
          have hlen := HLen.out k hkt
          have HZ : Hid (ls ++ Z k = catT Z (k + 1)) := by
            unfold Hid
            rw [HLS.out]
            rfl
          have hls : (ls ++ Z k).length ≤ S := by
            rw [HZ.out, catT_len HLen.out (by omega)]
            exact hle
          obtain ⟨bo, hbo⟩ : ∃ ao, ao = A k := ⟨_, rfl⟩
          obtain ⟨l, hll⟩ : ∃ l, l = L k := ⟨_, rfl⟩
          obtain ⟨cp, hcp⟩ : ∃ cp, cp = C k := ⟨_, rfl⟩
          rw [← hbo, ← hll, ← hcp] at d0 r0
          have HR := toHid r0
          have HLS2 := toHid hls
          obtain ⟨zs, hzs⟩ : ∃ zs, zs = Z k := ⟨_, rfl⟩
          rw [← hzs] at HR HZ HLS2
          have hsz := HK.out.size
          clear r0 hle hlen hls hbo hll hcp hzs HLS
          go_wp2_with (at_builtin; refine wpList_append_nm rfl _ _ rfl w.heap.size _ ls rfl HO.out _ rfl zs HR.out ?qc hsz ?_)
          case qc =>
            have h1 := HLS2.out
            rw [List.length_append] at h1
            omega
          intro l4 ao4 n4 c4 w4 e4 f4 ho4 kk4
          have HO4 := toHid ho4
          have HK4 : Hid (Kept Nought w w4) := HK.out.next kk4 (fun x hx h => by omega)
          have HL4 : Hid (l4 = catT Z (k + 1)) := e4.out.trans HZ.out
          have hn4 : n4 ≤ S := by
            have h1 := HLS2.out
            rw [← e4.out, f4.out] at h1
            exact h1
          clear ho4 kk4 HO HK d0 hsz e4
          go_wp2_with fail
          go_roundw
          case rel => exact ⟨k + 1, l4, n4, _, _, by omega, by go_num, rfl, hn4, HL4.out, f4.out, HO4.out, HK4.out⟩
          case measure => simp [intOf]; omega
        · obtain rfl : k = t := by omega
          have g2 : ¬ (k : Int) < (k : Int) := by omega
          go_wp2_with fail
          go_ret
          exact ⟨_, rfl, by rw [← HLS.out]; exact HO.out, HK.out⟩

end Go.Proofs.YthnkganmccgaeaaDoor
