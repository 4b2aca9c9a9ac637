/- Put together of: Ivn9. -/
import Derived.Test.YtiljkgoafknefaaGreatPk20
import Derived.Test.YtiljkgoafknefaaGreatPk24
import Derived.Test.YtiljkgoafknefaaGreatPk26

/- Package inverse: needed, Divisor, Coprime. -/
namespace Go.Proofs.YtiljkgoafknefaaGreat
open Go.RowKit

/-- The number that a slice of words is, 0 where it is none. -/
def numOf (w : World) : Value → Nat
  | .slice (some a) n _ => val 18446744073709551616 ((List.range n).map fun i => cellN w ⟨a.block, a.off + i, none⟩)
  | _ => 0

theorem Row.num {w : World} {v : Value} {ds : List Nat} (h1 : Row .u64 w v ds) : numOf w v = val 18446744073709551616 ds := by
  obtain ⟨ao, cap, rfl, _, _, _, hc⟩ := h1
  cases ao with
  | none =>
    have : ds = [] := by
      rcases ds with _ | ⟨d, r⟩
      · rfl
      · obtain ⟨b, off, e, _⟩ := hc 0 (by simp)
        cases e
    subst this
    rfl
  | some a =>
    show val 18446744073709551616 ((List.range ds.length).map fun i => cellN w ⟨a.block, a.off + i, none⟩) = _
    congr 1
    refine List.ext_getElem (by simp) (fun i h1 h2 => ?_)
    obtain ⟨b, off, e, hcell⟩ := hc i h2
    cases e
    rw [List.getElem_map, List.getElem_range]
    unfold cellN
    rw [hcell, List.getD_eq_getElem?_getD, List.getElem?_eq_getElem h2]
    simp

theorem val_cut {xs : List Nat} {m : Nat} (hm : m ≤ xs.length) (h : val 18446744073709551616 xs < 18446744073709551616 ^ m) : val 18446744073709551616 (xs.take m) = val 18446744073709551616 xs := by
  have e := val_take_drop 18446744073709551616 xs m hm
  rcases Nat.eq_zero_or_pos (val 18446744073709551616 (xs.drop m)) with h0 | h0
  · rw [h0] at e
    omega
  · have := Nat.mul_le_mul_left (18446744073709551616 ^ m) h0
    omega

set_option maxRecDepth 20000 in
set_option maxHeartbeats 1000000 in
/-- needed. -/
theorem iNeed (ao : Option Addr) (n cap : Nat) (xs : List Nat) (w : World) (h : Row .u64 w (.slice ao n cap) xs) (hd : Digs 18446744073709551616 xs) (hl : n ≤ 300) :
    Calls Tryz.prog 83 #[.slice ao n cap] w fun e w' => ∃ (ao' : Option Addr) (m cap' : Nat) (ys : List Nat), e = .returned (.slice ao' m cap') ∧ m ≤ n ∧ Row .u64 w (.slice ao' m cap') ys ∧ Digs 18446744073709551616 ys ∧ val 18446744073709551616 ys = val 18446744073709551616 xs ∧ w' = w := by
  have hB := nBits _ xs w h hd (by obtain ⟨_, _, _, e, h', _⟩ := h.open; cases e; rw [h'.out]; omega)
  obtain ⟨_, _, _, e1, hL, hnc, hcm, hnil, _⟩ := h.open
  cases e1
  obtain ⟨m, hm⟩ : ∃ m, m = wordsN (val 18446744073709551616 xs) := ⟨_, rfl⟩
  have hmn : m ≤ n := by
    rw [hm, ← hL.out]
    exact (wordsN_le _ _).2 (val_lt (by omega) hd)
  have hbl := needs_words (val 18446744073709551616 xs)
  rw [← hm] at hbl
  have hbb : blen (val 18446744073709551616 xs) ≤ 64 * n := by
    rw [blen_le, ← B64, ← hL.out]
    exact val_lt (by omega) hd
  have hv : val 18446744073709551616 (xs.take m) = val 18446744073709551616 xs := val_cut (by rw [hL.out]; exact hmn) ((wordsN_le _ _).1 (by omega))
  have HRow := toHid (h.cut (m := m) (by rw [hL.out]; exact hmn))
  have HD := toHid (hd.take m)
  have HV := toHid hv
  obtain ⟨b, hb⟩ : ∃ b, b = blen (val 18446744073709551616 xs) := ⟨_, rfl⟩
  rw [← hb] at hB hbl hbb
  have g1 : ((b : Int) + 64 - 1) / 64 = (m : Int) := by omega
  have g2 : (m : Int) ≤ (cap : Int) := by omega
  have g0 : (0 : Int) ≤ (m : Int) := Int.natCast_nonneg _
  have hcap : n ≤ cap := hnc
  clear hv hbl hb h hd hL hm
  go_enter Tryz.func83, Tryz.ntmps83
  go_wp2_with fail
  refine hB.mono ?_
  rintro e w1 ⟨rfl, rfl⟩
  clear hB
  go_wp2_with fail
  go_ret
  exact ⟨_, _, _, _, rfl, hmn, HRow.out, HD.out, HV.out, rfl⟩

theorem gcd_fits {A C n : Nat} (hA : A < 18446744073709551616 ^ n) (hC : C < 18446744073709551616 ^ n) : Nat.gcd A C < 18446744073709551616 ^ n := by
  rcases Nat.eq_zero_or_pos A with h | h
  · rw [h, Nat.gcd_zero_left]; exact hC
  · exact Nat.lt_of_le_of_lt (Nat.gcd_le_left _ h) hA

theorem res_fits {V n : Nat} (h : V < 18446744073709551616 ^ n) (hn : n ≤ 300) : resCode V (n : Int) = 0 ∧ resList V (n : Int) = digs 18446744073709551616 V n := by
  have hw := (wordsN_le V n).2 h
  have e : resCode V (n : Int) = 0 := by
    unfold resCode
    rw [if_neg (by omega), if_neg (by omega)]
  exact ⟨e, by unfold resList; rw [if_pos e]; rfl⟩

set_option maxRecDepth 40000 in
set_option maxHeartbeats 4000000 in
/-- Divisor. -/
theorem iDivisor (ao bo : Option Addr) (L M cap dap : Nat) (xs ys : List Nat) (E : Nat) (hE : E = if okLen L M = true then 0 else 2) (RL : List Nat) (hRL : RL = if E = 0 then digs 18446744073709551616 (Nat.gcd (val 18446744073709551616 xs) (val 18446744073709551616 ys)) (max L M) else []) (w : World) (hu : Row .u64 w (.slice ao L cap) xs) (hv : Row .u64 w (.slice bo M dap) ys) (hdx : Digs 18446744073709551616 xs) (hdy : Digs 18446744073709551616 ys) :
    Calls Tryz.prog 58 #[.slice ao L cap, .slice bo M dap] w fun e w' => ∃ v', e = .returned (.tuple #[v', .int .i64 (E : Nat)]) ∧ Row .u64 w' v' RL ∧ Kept Nought w w' := by
  have lx : xs.length = L := by obtain ⟨_, _, _, e, h, _⟩ := hu.open; cases e; exact h.out
  have ly : ys.length = M := by obtain ⟨_, _, _, e, h, _⟩ := hv.open; cases e; exact h.out
  have hmax : max (L : Int) (M : Int) = ((max L M : Nat) : Int) := by omega
  by_cases hok : L ≤ 300 ∧ M ≤ 300
  · rw [if_pos (by unfold okLen; exact decide_eq_true hok)] at hE
    subst hE
    rw [if_pos rfl] at hRL
    have hA : val 18446744073709551616 xs < 18446744073709551616 ^ max L M := Nat.lt_of_lt_of_le (val_lt (by omega) hdx) (Nat.pow_le_pow_right (by omega) (by omega))
    have hC : val 18446744073709551616 ys < 18446744073709551616 ^ max L M := Nat.lt_of_lt_of_le (val_lt (by omega) hdy) (Nat.pow_le_pow_right (by omega) (by omega))
    have hG := gcd_fits hA hC
    have hN3 : max L M ≤ 300 := by omega
    obtain ⟨r1, r2⟩ := res_fits hG hN3
    have g1 : ¬ ((max L M : Nat) : Int) > 300 := by omega
    have HU := toHid hu
    have HV := toHid hv
    have HX := toHid hdx
    have HY := toHid hdy
    have HRL := toHid hRL
    have HR1 := toHid r1
    have HR2 := toHid r2
    obtain ⟨G, hGd⟩ : ∃ G, G = Nat.gcd (val 18446744073709551616 xs) (val 18446744073709551616 ys) := ⟨_, rfl⟩
    rw [← hGd] at HR1 HR2 HRL
    have HGd := toHid hGd.symm
    generalize max L M = N at *
    clear hu hv hdx hdy hRL r1 r2 hG hA hC hGd lx ly
    go_enter Tryz.func58, Tryz.ntmps58
    go_wp2_with fail
    go_loopw [0, 1] (fun a b wr => ∃ (ao bo : Option Addr) (L M cap dap : Nat) (xs ys : List Nat), a = .slice ao L cap ∧ b = .slice bo M dap ∧ L ≤ 300 ∧ M ≤ 300 ∧ Hid (Row .u64 wr (.slice ao L cap) xs) ∧ Hid (Row .u64 wr (.slice bo M dap) ys) ∧ Hid (Digs 18446744073709551616 xs) ∧ Hid (Digs 18446744073709551616 ys) ∧ Hid (Nat.gcd (val 18446744073709551616 xs) (val 18446744073709551616 ys) = G) ∧ Hid (Kept Nought w wr)) (fun _ b wr => numOf wr b)
    case atStart => exact ⟨ao, bo, L, M, cap, dap, xs, ys, rfl, rfl, hok.1, hok.2, HU.out, HV.out, HX.out, HY.out, HGd.out, Kept.refl _ _⟩
    case round =>
      clear HU HV HX HY HGd hok
      obtain ⟨ao, bo, L, M, cap, dap, xs, ys, rfl, rfl, hL, hM, HU, HV, HX, HY, HG, HK⟩ := hrel
      have ly : ys.length = M := by obtain ⟨_, _, _, e, h, _⟩ := HV.out.open; cases e; exact h.out
      have hB := nBits _ ys wr HV.out HY.out (by rw [ly]; omega)
      have hnum := HV.out.num
      by_cases h0 : val 18446744073709551616 ys = 0
      · have hbl : blen (val 18446744073709551616 ys) = 0 := by rw [h0]; rfl
        rw [hbl] at hB
        have hG2 := HG.out
        rw [h0, Nat.gcd_zero_right] at hG2
        have hRs := nResize _ xs (N : Int) wr HU.out HX.out
        rw [hG2, HR1.out, HR2.out] at hRs
        have HKK := toHid HK.out
        clear hnum hbl hG2 h0 ly
        go_wp2_with fail
        refine hB.mono ?_
        rintro e w1 ⟨rfl, rfl⟩
        clear hB
        go_wp2_with fail
        refine hRs.mono ?_
        rintro e w2 ⟨v2, rfl, hr2, k2⟩
        go_wp2_with fail
        go_ret2
        refine ⟨_, by first | rfl | trivial, ?_, HKK.out.trans k2⟩
        rw [HRL.out]
        exact hr2
      · obtain ⟨E, hE⟩ : ∃ E, E = divE (val 18446744073709551616 ys) L M := ⟨_, rfl⟩
        obtain ⟨e1, _, e3⟩ := div_good (X := val 18446744073709551616 xs) (Y := val 18446744073709551616 ys) (L := L) (M := M) ⟨hL, hM⟩ h0
        have hQ := pQuick ao bo L M cap dap xs ys 0 e1.symm wr HU.out HV.out HX.out HY.out
        rw [e3] at hQ
        have hbp : 0 < blen (val 18446744073709551616 ys) := by
          rcases Nat.eq_zero_or_pos (blen (val 18446744073709551616 ys)) with h | h
          · have := (blen_le (val 18446744073709551616 ys) 0).1 (by omega)
            rw [Nat.pow_zero] at this
            omega
          · exact h
        obtain ⟨bl, hbl⟩ : ∃ bl, bl = blen (val 18446744073709551616 ys) := ⟨_, rfl⟩
        rw [← hbl] at hB hbp
        have gb : (bl : Int) > 0 := by omega
        have hlt : val 18446744073709551616 xs % val 18446744073709551616 ys < val 18446744073709551616 ys := Nat.mod_lt _ (by omega)
        have lyB : val 18446744073709551616 ys < 18446744073709551616 ^ M := by rw [← ly]; exact val_lt (by omega) HY.out
        have HMod : Hid (val 18446744073709551616 (digs 18446744073709551616 (val 18446744073709551616 xs % val 18446744073709551616 ys) M) = val 18446744073709551616 xs % val 18446744073709551616 ys) := by
          unfold Hid
          rw [val_digs, Nat.mod_eq_of_lt (by omega)]
        have HGN : Hid (Nat.gcd (val 18446744073709551616 ys) (val 18446744073709551616 xs % val 18446744073709551616 ys) = G) := by
          unfold Hid
          rw [← HG.out, Nat.gcd_comm (val 18446744073709551616 ys), ← Nat.gcd_rec, Nat.gcd_comm]
        have HLT := toHid hlt
        have HNUM := toHid hnum
        clear hE e1 e3 hbl hlt lyB h0 HG hnum ly
        go_wp2_with fail
        refine hB.mono ?_
        rintro e w1 ⟨rfl, rfl⟩
        clear hB
        go_wp2_with fail
        refine hQ.mono ?_
        rintro e w2 ⟨v1, v2, rfl, hr1, hr2, k2⟩
        obtain ⟨ro, rn, rc, rfl, hrl, _⟩ := hr2.open
        have ern : rn = M := by rw [← hrl.out, digs_length]
        subst ern
        have hNd := iNeed ro rn rc _ w2 hr2 (digs_digs (by omega) _ _) hM
        clear hQ hr1 hrl
        go_wp2_with fail
        refine hNd.mono ?_
        rintro e w3 ⟨ao', m', cap', zs, rfl, hm', hr3, hd3, hv3, rfl⟩
        rw [HMod.out] at hv3
        have HR3 := toHid hr3
        have HD3 := toHid hd3
        have HV3 := toHid hv3
        have HV2 := toHid (HV.out.grew k2)
        have HK2 := toHid (HK.out.trans k2)
        clear hNd hr2 hr3 hd3 hv3 k2
        go_wp2_with fail
        go_roundw
        case rel => exact ⟨bo, ao', rn, m', dap, cap', ys, zs, rfl, rfl, hM, by omega, HV2.out, HR3.out, HY.out, HD3.out, by unfold Hid; rw [HV3.out]; exact HGN.out, HK2.out⟩
        case measure => rw [HR3.out.num, HV3.out, HNUM.out]; exact HLT.out
  · rw [if_neg (by unfold okLen; simpa using hok)] at hE
    subst hE
    rw [if_neg (by omega)] at hRL
    subst hRL
    have g1 : ((max L M : Nat) : Int) > 300 := by omega
    clear hu hv hdx hdy lx ly
    generalize max L M = N at *
    go_enter Tryz.func58, Tryz.ntmps58
    go_wp2
    go_ret2
    exact ⟨_, rfl, Row.nil _ _, Kept.refl _ _⟩

end Go.Proofs.YtiljkgoafknefaaGreat

