/- Package key: exponent, where there is one. (written by wip/gen/kex4.py) -/
import Derived.Test.YtiljkgoafknefaaGreatKex4
namespace Go.Proofs.YtiljkgoafknefaaGreat
open Go.RowKit

set_option maxRecDepth 20000 in
set_option maxHeartbeats 4000000 in
/-- exponent. -/
theorem kExp (co : Option Addr) (L cap : Nat) (cs : List Nat) (C e : Nat) (hC : C = val 18446744073709551616 cs) (h2 : 2 ≤ C) (h3 : 3 ≤ e) (heo : e % 2 = 1) (heb : e < 18446744073709551616) (hL : L ≤ 299) (hg : Nat.gcd C e = 1) (w : World) (hu : Row .u64 w (.slice co L cap) cs) (hd : Digs 18446744073709551616 cs) :
    Calls Tryz.prog 42 #[.int .u64 (e : Nat), .slice co L cap] w fun r w' => ∃ vo vc d, r = .returned (.slice vo (L + 1) vc) ∧ Hid (d < C ∧ e * d % C = 1) ∧ Row .u64 w' (.slice vo (L + 1) vc) (digs 18446744073709551616 d (L + 1)) ∧ Kept Nought w w' := by
  obtain ⟨_, _, _, e1, hl, -, -, -, -⟩ := hu.open
  cases e1
  have hw1 : wordsN e = 1 := words_single (by omega) heb
  have JW := kWord e heb w
  obtain ⟨i0, hi0, hz0, hz1, hz2⟩ := info_parts Tryz.info24
  have hL1 : 1 ≤ L := by
    rcases Nat.eq_zero_or_pos L with h | h
    · have h5 := hl.out
      rw [h] at h5
      rw [List.length_eq_zero_iff.1 h5] at hC
      have : val 18446744073709551616 [] = 0 := rfl
      omega
    · exact h
  have hCL : C < 18446744073709551616 ^ L := by rw [hC, ← hl.out]; exact val_lt (by omega) hd
  have J1 : Hid (∀ W zo zc, Kept Nought w W → Row .u64 W (.slice zo 1 zc) [e] → Calls Tryz.prog 41 #[.slice co L cap, .slice zo 1 zc] W fun r w' => ∃ vo vc T, r = .returned (.slice vo 1 vc) ∧ Hid (T < e ∧ C * T % e = 1) ∧ Row .u64 w' (.slice vo 1 vc) (digs 18446744073709551616 T 1) ∧ Kept Nought W w') := fun W zo zc k hr => kInv co zo L 1 cap zc cs [e] C e hC (val_single e).symm (by omega) heo hw1.symm (by omega) (by omega) hg W (hu.grew k) hr hd (Digs.one heb)
  have JM : Hid (∀ W zo zc S, S < 18446744073709551616 → Kept Nought w W → Row .u64 W (.slice zo 1 zc) [1] → Calls Tryz.prog 76 #[.pointer none, .slice co L cap, .int .u64 (S : Nat), .slice zo 1 zc] W fun r w' => ∃ vo vc, r = .returned (.tuple #[.slice vo L vc, .int .u64 (((1 + C * S) / 18446744073709551616 ^ L : Nat) : Int)]) ∧ OwnN .u64 24 w' W.heap.size (.slice vo L vc) L (digs 18446744073709551616 (1 + C * S) L) ∧ Kept Nought W w') := fun W zo zc S hS k hr => by
    have hm : max L 1 = L := by omega
    have h := pMulWordF none co zo L 1 cap zc cs [1] S hS ((1 + C * S) / 18446744073709551616 ^ L) (by rw [val_single, ← hC]; unfold mwTop; rw [if_pos (by omega), hm]) W (TrRoom.none W 300 (by omega)) (RowT.none (hu.grew k)) (RowT.none hr) hd (Digs.one (by omega))
    rw [val_single, ← hC, hm] at h
    refine h.mono ?_
    rintro r w' ⟨v', rfl, _, ho, o', hdid⟩
    have ho := ho (by omega)
    obtain ⟨vo, vc, rfl⟩ := own_slice ho
    exact ⟨vo, vc, rfl, ho, hdid.none.2⟩
  have JQ : Hid (∀ W S vo vc zo zc, S < e → Row .u64 W (.slice vo (L + 1) vc) (digs 18446744073709551616 (1 + C * S) L ++ [(1 + C * S) / 18446744073709551616 ^ L]) → Row .u64 W (.slice zo 1 zc) [e] → Calls Tryz.prog 59 #[.slice vo (L + 1) vc, .slice zo 1 zc] W fun r w' => ∃ qo qc, r = .returned (.slice qo (L + 1) qc) ∧ Row .u64 w' (.slice qo (L + 1) qc) (digs 18446744073709551616 ((1 + C * S) / e) (L + 1)) ∧ Kept Nought W w') := fun W S vo vc zo zc hS h1 h4 => by
    have hlt : 1 + C * S < 18446744073709551616 ^ L * 18446744073709551616 := by
      have a1 : C * S + 1 ≤ C * e := by
        have := Nat.mul_le_mul_left C (show S + 1 ≤ e by omega)
        rw [Nat.mul_add, Nat.mul_one] at this
        omega
      have a2 : C * e < 18446744073709551616 ^ L * 18446744073709551616 := Nat.mul_lt_mul_of_lt_of_lt hCL heb
      omega
    have hc : (1 + C * S) / 18446744073709551616 ^ L < 18446744073709551616 := Nat.div_lt_of_lt_mul hlt
    refine kQuo vo zo (L + 1) 1 vc zc (digs 18446744073709551616 (1 + C * S) L ++ [(1 + C * S) / 18446744073709551616 ^ L]) [e] (1 + C * S) e ?_ (val_single e).symm (by omega) (by omega) (by omega) W h1 h4 ((digs_digs (by omega) _ _).append (Digs.one hc)) (Digs.one heb)
    rw [val_snoc, val_digs, digs_length, Nat.mod_add_div]
  have JE := fun W => kWord e heb W
  have J0 := fun W => kWord 1 (by omega) W
  have HN : Hid (∀ T, T < e → C * T % e = 1 → (1 + C * (e - T)) / e < C ∧ e * ((1 + C * (e - T)) / e) % C = 1) := fun T h h' => exp_num h2 h3 h h'
  clear hu hd hl hC h2 heo hg hw1 hCL
  go_enter Tryz.func42, Tryz.ntmps42
  go_wp2_with fail
  refine JW.mono ?_
  rintro r w1 ⟨zo, zc, rfl, hr, k1⟩
  have J2 := J1.out w1 zo zc k1 hr
  clear JW hr J1
  go_wp2_with fail
  refine J2.mono ?_
  rintro r w2 ⟨ao2, tc, T, rfl, HT, hr2, k2⟩
  have hTe := HT.out.1
  rw [digs_single (by omega)] at hr2
  obtain ⟨_, _, _, e1, _, _, _, _, hnum⟩ := hr2.open
  cases e1
  obtain ⟨b, off, rfl, c0⟩ := hnum 0 (by omega)
  have c0' : w2.cell? ⟨b, off, none⟩ = some (.int .u64 (T : Nat)) := c0
  obtain ⟨S, hS⟩ : ∃ S, S = e - T := ⟨_, rfl⟩
  have HSe : Hid (S < e) := by
    unfold Hid
    rcases Nat.eq_zero_or_pos T with h | h
    · have h9 := HT.out.2
      subst h
      rw [Nat.mul_zero, Nat.zero_mod] at h9
      exact absurd h9 (by decide)
    · omega
  have HF : Hid ((1 + C * S) / e < C ∧ e * ((1 + C * S) / e) % C = 1) := by rw [hS]; exact HN.out T hTe HT.out.2
  have HK2 := toHid (k1.trans k2)
  have gs : IntKind.u64.wrap ((e : Int) - (T : Int)) = (S : Int) := by rw [IntKind.wrap_u64]; omega
  have hW := J0 w2
  have hTe' : (T : Int) ≤ (e : Int) := by omega
  clear J2 hr2 k1 k2 c0 hnum hS HN HT J0
  go_wp2_with fail
  refine hW.mono ?_
  rintro r w3 ⟨yo, yc, rfl, hr3, k3⟩
  have HK3 := toHid (HK2.out.trans k3)
  have J3 := JM.out w3 yo yc S (by have := HSe.out; omega) HK3.out hr3
  clear hW k3 hr3 c0'
  go_wp2_with fail
  refine J3.mono ?_
  rintro r w4 ⟨vo, vc, rfl, ho4, k4⟩
  have HK4 := toHid (HK3.out.trans k4)
  have HO4 := toHid ho4
  have HB4 : Hid (w.heap.size ≤ w3.heap.size) := HK3.out.size
  have HB5 : Hid (w3.heap.size ≤ w4.heap.size) := k4.size
  obtain ⟨c, hc⟩ : ∃ c, c = (1 + C * S) / 18446744073709551616 ^ L := ⟨_, rfl⟩
  rw [← hc]
  have HCC := toHid hc
  have hE5 := fun W => JE W
  clear J3 ho4 k4 hc JM
  go_wp2_with (at_builtin; refine wpList_append_own _ rfl _ _ 23 rfl w3.heap.size 24 i0 (.int .u64 0) 1 8 Tryz.underlying23 hi0 hz0 hz1 hz2 rfl (by decide) _ _ _ rfl (World.ownsRow.alloc HO4.out _) ⟨w4.heap.size, 0, none⟩ 1 1 [.int .u64 (c : Nat)] rfl rfl (cell_one_new _ _ _) (by intro u hu; simp at hu; subst hu; rfl) (by unfold maxLen; omega) (by omega) (by have := HB5.out; simp; omega) ?_)
  intro v5 w5 hown hgrow _
  have hown' : OwnN .u64 24 w5 w3.heap.size v5 (L + 1) (digs 18446744073709551616 (1 + C * S) L ++ [c]) := by
    unfold OwnN
    rw [List.map_append]
    exact hown
  have HK5 : Hid (Kept Nought w w5) := (HK4.out.alloc _).grown hgrow (fun k hk hlt => by have h1 := (HO4.out.lt k hk).1; have h2 := HB4.out; omega)
  obtain ⟨vo5, vc5, rfl⟩ := own_slice hown'
  have HR5 := toHid (own_row' hown' (by rw [List.length_append, digs_length]; rfl))
  have J5 := hE5 w5
  clear hown hown' hgrow HO4 HK4 HB4 HB5 hE5
  go_wp2_with fail
  refine J5.mono ?_
  rintro r w6 ⟨zo2, zc2, rfl, hr6, k6⟩
  have J6 := JQ.out w6 S vo5 vc5 zo2 zc2 HSe.out (by rw [← HCC.out]; exact HR5.out.grew k6) hr6
  have HK6 := toHid (HK5.out.trans k6)
  clear J5 hr6 k6
  go_wp2_with fail
  refine J6.mono ?_
  rintro r w7 ⟨qo, qc, rfl, hr7, k7⟩
  have HR7 := toHid hr7
  have HK7 := toHid (HK6.out.trans k7)
  clear J6 hr7 k7
  go_wp2
  go_ret
  exact ⟨_, _, _, rfl, HF.out, HR7.out, HK7.out⟩

end Go.Proofs.YtiljkgoafknefaaGreat
