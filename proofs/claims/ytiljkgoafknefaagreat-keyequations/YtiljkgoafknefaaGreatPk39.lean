/- Put together of: Kex7 LimQ. -/
import Derived.Test.YtiljkgoafknefaaGreatPk14
import Derived.Test.YtiljkgoafknefaaGreatPk20
import Derived.Test.YtiljkgoafknefaaGreatPk38
import Derived.Deep.RegionHeld3

/- Package key: Of, of numbers that make a key. (written by wip/gen/kex6.py) -/
namespace Go.Proofs.YtiljkgoafknefaaGreat
open Go.RowKit

set_option maxRecDepth 40000 in
set_option maxHeartbeats 16000000 in
/-- What Of attempts: a key. -/
theorem kOf1F (bP bQ bE bK : Nat) (ao bo : Option Addr) (L M cap dap : Nat) (xs ys : List Nat) (P Q e B : Nat) (hP : P = val 18446744073709551616 xs) (hQ : Q = val 18446744073709551616 ys) (hok : L ≤ 300 ∧ halfOk P) (hok2 : M ≤ 300 ∧ halfOk Q) (hgood : pubE (keyWords P Q) e = 0) (hg : Nat.gcd Q P = 1) (hgc : Nat.gcd (comN P Q) e = 1) (a w : World) (hu : Row .u64 w (.slice ao L cap) xs) (hv : Row .u64 w (.slice bo M dap) ys) (hdx : Digs 18446744073709551616 xs) (hdy : Digs 18446744073709551616 ys) (b0 : w.cell? ⟨bP, 0, none⟩ = some (.slice ao L cap)) (b1 : w.cell? ⟨bQ, 0, none⟩ = some (.slice bo M dap)) (b2 : w.cell? ⟨bE, 0, none⟩ = some (.int .u64 (e : Int))) (ha : Kept Nought a w) (haK : a.heap.size ≤ bK) (hB : w.heap.size = B + 1) (bx : w.heap[bK]? = some (.cells zeroKey 32 (0, 0))) :
    Calls Tryz.prog 37 #[.pointer (some ⟨bP, 0, none⟩), .pointer (some ⟨bQ, 0, none⟩), .pointer (some ⟨bE, 0, none⟩), .pointer (some ⟨bK, 0, none⟩)] w fun r w' => OfEnd L M P Q e B bK a w r w' := by
  have hN0 : 0 < P * Q := Nat.mul_pos (by have := hok.2.1; omega) (by have := hok2.2.1; omega)
  obtain ⟨np, hnp⟩ : ∃ np, np = wordsN P := ⟨_, rfl⟩
  obtain ⟨nq, hnq⟩ : ∃ nq, nq = wordsN Q := ⟨_, rfl⟩
  obtain ⟨nw, hnw⟩ : ∃ nw, nw = wordsN (P * Q) := ⟨_, rfl⟩
  have hp3 := hok.2.1
  have hq3 := hok2.2.1
  have hpo := hok.2.2.1
  have hnp1 : np ≤ 128 := by rw [hnp]; exact words_of_bits (n := 128) (by have := hok.2.2.2; omega)
  have hnq1 : nq ≤ 128 := by rw [hnq]; exact words_of_bits (n := 128) (by have := hok2.2.2.2; omega)
  have hPl : P < 18446744073709551616 ^ np := (wordsN_le P np).1 (by omega)
  have hQl : Q < 18446744073709551616 ^ nq := (wordsN_le Q nq).1 (by omega)
  have hNl : P * Q < 18446744073709551616 ^ (np + nq) := by rw [Nat.pow_add]; exact Nat.mul_lt_mul_of_lt_of_lt hPl hQl
  have hnw1 : nw ≤ np + nq := by rw [hnw]; exact (wordsN_le _ _).2 hNl
  have hNw : P * Q < 18446744073709551616 ^ nw := (wordsN_le _ nw).1 (by omega)
  have vP : val 18446744073709551616 (digs 18446744073709551616 P np) = P := by rw [val_digs, Nat.mod_eq_of_lt hPl]
  have vQ : val 18446744073709551616 (digs 18446744073709551616 Q nq) = Q := by rw [val_digs, Nat.mod_eq_of_lt hQl]
  have vN : val 18446744073709551616 (digs 18446744073709551616 (P * Q) nw) = P * Q := by rw [val_digs, Nat.mod_eq_of_lt hNw]
  have dP : Digs 18446744073709551616 (digs 18446744073709551616 P np) := digs_digs (by omega) _ _
  have dQ : Digs 18446744073709551616 (digs 18446744073709551616 Q nq) := digs_digs (by omega) _ _
  have dN : Digs 18446744073709551616 (digs 18446744073709551616 (P * Q) nw) := digs_digs (by omega) _ _
  have hkw : keyWords P Q = digs 18446744073709551616 (P * Q) nw := by rw [hnw]; exact keyWords_eq hN0
  have KD : Kept Nought w w.drew := (Kept.refl Nought w).drew
  have J1 := kHalf ao L cap xs P np hP hnp hok w.drew (hu.grew KD) hdx
  have J2 : Hid (∀ W, Kept Nought w W → Calls Tryz.prog 38 #[.slice bo M dap] W fun e w' => ∃ vo vc, e = .returned (.slice vo nq vc) ∧ Row .u64 w' (.slice vo nq vc) (digs 18446744073709551616 Q nq) ∧ Fresh W (.slice vo nq vc) ∧ Kept Nought W w') := fun W k => kHalf bo M dap ys Q nq hQ hnq hok2 W (hv.grew k) hdy
  have JMul : Hid (∀ W va ca vb cb, Row .u64 W (.slice va np ca) (digs 18446744073709551616 P np) → Row .u64 W (.slice vb nq cb) (digs 18446744073709551616 Q nq) → Calls Tryz.prog 40 #[.pointer none, .slice va np ca, .slice vb nq cb] W fun e w' => ∃ vo vc, e = .returned (.slice vo (np + nq) vc) ∧ Row .u64 w' (.slice vo (np + nq) vc) (digs 18446744073709551616 (P * Q) (np + nq)) ∧ Kept Nought W w') := fun W va ca vb cb h1 h2 => by
    refine (mul0 va vb np nq ca cb _ _ W h1 h2 dP dQ).mono ?_
    rintro e w' ⟨v', rfl, hr, k⟩
    rw [vP, vQ] at hr
    unfold mulAns at hr
    rw [if_pos (by omega)] at hr
    obtain ⟨vo, vn, vc, rfl, hl, _, _, _, _⟩ := hr.open
    obtain rfl : np + nq = vn := by rw [← hl.out, digs_length]
    exact ⟨_, _, rfl, hr, k⟩
  have JN : Hid (∀ W v c, Row .u64 W (.slice v (np + nq) c) (digs 18446744073709551616 (P * Q) (np + nq)) → Calls Tryz.prog 39 #[.slice v (np + nq) c] W fun e w' => ∃ vo vc, e = .returned (.slice vo nw vc) ∧ Row .u64 w' (.slice vo nw vc) (digs 18446744073709551616 (P * Q) nw) ∧ Fresh W (.slice vo nw vc) ∧ Kept Nought W w') := fun W v c h => kNeed v (np + nq) c _ (P * Q) nw (by rw [val_digs, Nat.mod_eq_of_lt hNl]) hnw (by omega) W h (digs_digs (by omega) _ _) (by rw [digs_length]; omega)
  have JPub : Hid (∀ W v c, Row .u64 W (.slice v nw c) (digs 18446744073709551616 (P * Q) nw) → Calls Tryz.prog 10 #[.slice v nw c, .int .u64 (e : Nat)] W fun r w' => r = .returned (.int .i64 ((pubE (digs 18446744073709551616 (P * Q) nw) e : Nat) : Int)) ∧ Kept Nought W w') := fun W v c h => kPub v nw c _ e W h dN (by omega)
  have hpub := hgood
  rw [hkw] at hpub
  have hpf := (pub_iff dN (by rw [digs_length]; omega) e).1 hpub
  rw [vN] at hpf
  obtain ⟨-, -, he3, he4, heo⟩ := hpf
  rw [hpub] at JPub
  have hR := kRefuseNo 190
  have JI : Hid (∀ W va ca vb cb, Row .u64 W (.slice va nq ca) (digs 18446744073709551616 Q nq) → Row .u64 W (.slice vb np cb) (digs 18446744073709551616 P np) → Calls Tryz.prog 41 #[.slice va nq ca, .slice vb np cb] W fun e w' => ∃ vo vc T, e = .returned (.slice vo np vc) ∧ Hid (T < P ∧ Q * T % P = 1) ∧ Row .u64 w' (.slice vo np vc) (digs 18446744073709551616 T np) ∧ Kept Nought W w') := fun W va ca vb cb h1 h2 => kInv va vb nq np ca cb _ _ Q P vQ.symm vP.symm (by omega) hpo hnp (by omega) (by omega) hg W h1 h2 dQ dP
  obtain ⟨C, hC⟩ : ∃ C, C = comN P Q := ⟨_, rfl⟩
  obtain ⟨nc, hnc⟩ : ∃ nc, nc = wordsN C := ⟨_, rfl⟩
  have hCl : C < 18446744073709551616 ^ (np + nq) := by rw [hC]; exact com_fits hPl hQl (by omega) (by omega)
  have hnc1 : nc ≤ np + nq := by rw [hnc]; exact (wordsN_le _ _).2 hCl
  have hCn : C < 18446744073709551616 ^ nc := (wordsN_le C nc).1 (by omega)
  have vC : val 18446744073709551616 (digs 18446744073709551616 C nc) = C := by rw [val_digs, Nat.mod_eq_of_lt hCn]
  have hC2 : 2 ≤ C := by rw [hC]; exact com_ge hp3 hq3
  have JCom : Hid (∀ W va ca vb cb, Row .u64 W (.slice va np ca) (digs 18446744073709551616 P np) → Row .u64 W (.slice vb nq cb) (digs 18446744073709551616 Q nq) → Calls Tryz.prog 18 #[.slice va np ca, .slice vb nq cb] W fun e w' => ∃ vo vc, e = .returned (.tuple #[.slice vo nc vc, .int .i64 0]) ∧ Row .u64 w' (.slice vo nc vc) (digs 18446744073709551616 C nc) ∧ Kept Nought W w') := fun W va ca vb cb h1 h2 => by
    refine (kCom va vb np nq ca cb _ _ P Q 0 _ vP.symm vQ.symm (by omega) (by omega) (.inl ⟨rfl, by omega, by omega⟩) (by rw [if_pos rfl, ← hC, ← hnc]) W h1 h2 dP dQ).mono ?_
    rintro e w' ⟨v', rfl, hr, _, k⟩
    obtain ⟨vo, vn, vc, rfl, hl, _, _, _, _⟩ := hr.open
    obtain rfl : nc = vn := by rw [← hl.out, digs_length]
    exact ⟨_, _, rfl, hr, k⟩
  have hST := fun v n c W => kStepN v n c W
  have JX : Hid (∀ W v c, Row .u64 W (.slice v nc c) (digs 18446744073709551616 C nc) → Calls Tryz.prog 42 #[.int .u64 (e : Nat), .slice v nc c] W fun r w' => ∃ vo vc d, r = .returned (.slice vo (nc + 1) vc) ∧ Hid (d < C ∧ e * d % C = 1) ∧ Row .u64 w' (.slice vo (nc + 1) vc) (digs 18446744073709551616 d (nc + 1)) ∧ Kept Nought W w') := fun W v c h => kExp v nc c _ C e vC.symm hC2 he3 heo (by omega) (by omega) (by rw [hC]; exact hgc) W h (digs_digs (by omega) _ _)
  obtain ⟨m, hm⟩ : ∃ m, m = max np nq := ⟨_, rfl⟩
  have hmax : max (np : Int) (nq : Int) = (m : Int) := by omega
  have hCP : C < P * Q := by
    have h1 : C ≤ (P - 1) * (Q - 1) := by
      rw [hC, comN]
      exact Nat.mul_le_mul_right _ (Nat.div_le_self _ _)
    have h2 : (P - 1) * (Q - 1) ≤ (P - 1) * Q := Nat.mul_le_mul_left _ (by omega)
    have h3 : (P - 1) * Q < P * Q := Nat.mul_lt_mul_of_pos_right (by omega) (by omega)
    omega
  have hPm : P < 18446744073709551616 ^ m := Nat.lt_of_lt_of_le hPl (Nat.pow_le_pow_right (by omega) (by omega))
  have hQm : Q < 18446744073709551616 ^ m := Nat.lt_of_lt_of_le hQl (Nat.pow_le_pow_right (by omega) (by omega))
  have F1 : Hid (∀ W v c d, d < C → Row .u64 W (.slice v (nc + 1) c) (digs 18446744073709551616 d (nc + 1)) → Calls Tryz.prog 44 #[.slice v (nc + 1) c, .int .i64 (nw : Nat)] W fun e w' => ∃ vo vc, e = .returned (.slice vo nw vc) ∧ Row .u64 w' (.slice vo nw vc) (digs 18446744073709551616 d nw) ∧ Fresh W (.slice vo nw vc) ∧ Kept Nought W w') := fun W v c d hdC h => kFit v (nc + 1) c _ d nw (by rw [val_digs, Nat.mod_eq_of_lt]; exact Nat.lt_of_lt_of_le (Nat.lt_trans hdC hCn) (Nat.pow_le_pow_right (by omega) (by omega))) (by omega) (by omega) W h (digs_digs (by omega) _ _)
  have FP : Hid (∀ W v c X, X ≤ P → Row .u64 W (.slice v np c) (digs 18446744073709551616 X np) → Calls Tryz.prog 44 #[.slice v np c, .int .i64 (m : Nat)] W fun e w' => ∃ vo vc, e = .returned (.slice vo m vc) ∧ Row .u64 w' (.slice vo m vc) (digs 18446744073709551616 X m) ∧ Fresh W (.slice vo m vc) ∧ Kept Nought W w') := fun W v c X hX h => kFit v np c _ X m (by rw [val_digs, Nat.mod_eq_of_lt (by omega)]) (by omega) (by omega) W h (digs_digs (by omega) _ _)
  have FQ : Hid (∀ W v c X, X ≤ Q → Row .u64 W (.slice v nq c) (digs 18446744073709551616 X nq) → Calls Tryz.prog 44 #[.slice v nq c, .int .i64 (m : Nat)] W fun e w' => ∃ vo vc, e = .returned (.slice vo m vc) ∧ Row .u64 w' (.slice vo m vc) (digs 18446744073709551616 X m) ∧ Fresh W (.slice vo m vc) ∧ Kept Nought W w') := fun W v c X hX h => kFit v nq c _ X m (by rw [val_digs, Nat.mod_eq_of_lt (by omega)]) (by omega) (by omega) W h (digs_digs (by omega) _ _)
  have LP : Hid (∀ W v c, Row .u64 W (.slice v np c) (digs 18446744073709551616 P np) → Calls Tryz.prog 46 #[.slice v np c] W fun e w' => ∃ vo vc, e = .returned (.slice vo np vc) ∧ Row .u64 w' (.slice vo np vc) (digs 18446744073709551616 (P - 1) np) ∧ Kept Nought W w') := fun W v c h => kLess v np c _ P vP.symm (by omega) (digs_length _ _ _) (by omega) W h dP
  have LQ : Hid (∀ W v c, Row .u64 W (.slice v nq c) (digs 18446744073709551616 Q nq) → Calls Tryz.prog 46 #[.slice v nq c] W fun e w' => ∃ vo vc, e = .returned (.slice vo nq vc) ∧ Row .u64 w' (.slice vo nq vc) (digs 18446744073709551616 (Q - 1) nq) ∧ Kept Nought W w') := fun W v c h => kLess v nq c _ Q vQ.symm (by omega) (digs_length _ _ _) (by omega) W h dQ
  have RP : Hid (∀ W v c v2 c2 d, d < C → Row .u64 W (.slice v (nc + 1) c) (digs 18446744073709551616 d (nc + 1)) → Row .u64 W (.slice v2 np c2) (digs 18446744073709551616 (P - 1) np) → Calls Tryz.prog 45 #[.slice v (nc + 1) c, .slice v2 np c2] W fun e w' => ∃ vo vc, e = .returned (.slice vo np vc) ∧ Row .u64 w' (.slice vo np vc) (digs 18446744073709551616 (d % (P - 1)) np) ∧ Kept Nought W w') := fun W v c v2 c2 d hdC h1 h2 => kRest v v2 (nc + 1) np c c2 _ _ d (P - 1) (by rw [val_digs, Nat.mod_eq_of_lt]; exact Nat.lt_of_lt_of_le (Nat.lt_trans hdC hCn) (Nat.pow_le_pow_right (by omega) (by omega))) (by rw [val_digs, Nat.mod_eq_of_lt (by omega)]) (by omega) (by omega) (by omega) W h1 h2 (digs_digs (by omega) _ _) (digs_digs (by omega) _ _)
  have RQ : Hid (∀ W v c v2 c2 d, d < C → Row .u64 W (.slice v (nc + 1) c) (digs 18446744073709551616 d (nc + 1)) → Row .u64 W (.slice v2 nq c2) (digs 18446744073709551616 (Q - 1) nq) → Calls Tryz.prog 45 #[.slice v (nc + 1) c, .slice v2 nq c2] W fun e w' => ∃ vo vc, e = .returned (.slice vo nq vc) ∧ Row .u64 w' (.slice vo nq vc) (digs 18446744073709551616 (d % (Q - 1)) nq) ∧ Kept Nought W w') := fun W v c v2 c2 d hdC h1 h2 => kRest v v2 (nc + 1) nq c c2 _ _ d (Q - 1) (by rw [val_digs, Nat.mod_eq_of_lt]; exact Nat.lt_of_lt_of_le (Nat.lt_trans hdC hCn) (Nat.pow_le_pow_right (by omega) (by omega))) (by rw [val_digs, Nat.mod_eq_of_lt (by omega)]) (by omega) (by omega) (by omega) W h1 h2 (digs_digs (by omega) _ _) (digs_digs (by omega) _ _)
  have HMP : Hid (∀ d, d % (P - 1) ≤ P) := fun d => by have := Nat.mod_lt d (show 0 < P - 1 by omega); omega
  have HMQ : Hid (∀ d, d % (Q - 1) ≤ Q) := fun d => by have := Nat.mod_lt d (show 0 < Q - 1 by omega); omega
  have HKW := toHid hkw
  have HMM : Hid (m = max (wordsN P) (wordsN Q)) := by rw [hm, hnp, hnq]; rfl
  have HCC := toHid hC
  have HOK : Hid (keyOk L M P Q e) := ⟨⟨hok.1, hok2.1⟩, hok.2, hok2.2, by rw [Nat.gcd_comm]; exact hg, hgood, by rw [Nat.gcd_comm]; exact hgc⟩
  have HBK : Hid (∀ W, Kept Nought w W → W.heap[bK]? = some (.cells zeroKey 32 (0, 0))) := fun W k => (k.block _ (lt_of_block bx) (fun f => f)).trans bx
  have HBL : Hid (bK < w.heap.size) := lt_of_block bx
  have HHB := toHid hB
  have HA := toHid ha
  have HAK := toHid haK
  have hne : bE ≠ bK := fun h => by
    subst h
    rw [cell_of_row w _ 0 _ _ _ bx] at b2
    cases b2
  clear he3 he4 heo hg hgc hC hnc hCl hnc1 hCn vC hC2 hm hCP hPm hQm ha haK hB bx hu hv hdx hdy hP hQ hok hok2 hN0 hnp hnq hnw hp3 hq3 hpo hnp1 hnq1 hPl hQl hNl hnw1 hNw vP vQ vN dP dQ dN hkw hpub hgood
  go_enter Tryz.func37, Tryz.ntmps37
  go_wp2_with fail
  refine wp_region_held_drew (S := fun w' => w'.cell? ⟨bP, 0, none⟩ = some (.slice ao L cap) ∧ w'.cell? ⟨bQ, 0, none⟩ = some (.slice bo M dap)) (by kernel_rfl) ⟨b0, b1⟩ (fun hS => ?_)
  refine takeH 0 (some 10) (.slice ao L cap) rfl rfl (by kernel_rfl) (by kernel_rfl) (by kernel_rfl) (fun _ _ _ h => h) (.inl ⟨by rfl, fun w h => by simp [execOp, go_sem, h.1]⟩) hS ?_
  simp only [Act.put, List.setIfInBounds_toArray, List.set_cons_succ, List.set_cons_zero]
  refine takeH 2 (some 12) (.slice bo M dap) rfl rfl (by kernel_rfl) (by kernel_rfl) (by kernel_rfl) (fun _ _ _ h => h) (.inl ⟨by rfl, fun w h => by simp [execOp, go_sem, h.2]⟩) hS ?_
  simp only [Act.put, List.setIfInBounds_toArray, List.set_cons_succ, List.set_cons_zero]
  refine callG 1 (some 11) (by kernel_rfl) rfl rfl (by rfl) 38 _ _ [.slice ao L cap] rfl rfl (fun _ _ => by simp [go_sem]) (J1) ?_
  rintro e w4 ⟨vp, cp, rfl, rp4, _, k4⟩
  have hS4 : w4.cell? ⟨bP, 0, none⟩ = some (.slice ao L cap) ∧ w4.cell? ⟨bQ, 0, none⟩ = some (.slice bo M dap) := ⟨k4.cellN hS.1, k4.cellN hS.2⟩
  refine .inl ⟨_, rfl, hS4, ?_⟩
  simp only [Act.put, List.setIfInBounds_toArray, List.set_cons_succ, List.set_cons_zero]
  refine callG 3 (some 13) (by kernel_rfl) rfl rfl (by rfl) 38 _ _ [.slice bo M dap] rfl rfl (fun _ _ => by simp [go_sem]) (J2.out w4 (KD.trans k4)) ?_
  rintro e w5 ⟨vq, cq, rfl, rq5, _, k5⟩
  have hS5 : w5.cell? ⟨bP, 0, none⟩ = some (.slice ao L cap) ∧ w5.cell? ⟨bQ, 0, none⟩ = some (.slice bo M dap) := ⟨k5.cellN hS4.1, k5.cellN hS4.2⟩
  refine .inl ⟨_, rfl, hS5, ?_⟩
  simp only [Act.put, List.setIfInBounds_toArray, List.set_cons_succ, List.set_cons_zero]
  refine takeH 4 (some 4) (.slice vp np cp) rfl rfl (by kernel_rfl) (by kernel_rfl) (by kernel_rfl) (fun _ _ _ h => h) (.inl ⟨by rfl, fun w h => by simp [execOp, go_sem]⟩) hS5 ?_
  simp only [Act.put, List.setIfInBounds_toArray, List.set_cons_succ, List.set_cons_zero]
  refine takeH 5 (some 5) (.slice vq nq cq) rfl rfl (by kernel_rfl) (by kernel_rfl) (by kernel_rfl) (fun _ _ _ h => h) (.inl ⟨by rfl, fun w h => by simp [execOp, go_sem]⟩) hS5 ?_
  simp only [Act.put, List.setIfInBounds_toArray, List.set_cons_succ, List.set_cons_zero]
  refine wpAnyH_done (by kernel_rfl) ?_ _
  have HK5 := toHid ((KD.trans k4).trans k5)
  have HP5 := toHid (rp4.grew k5)
  have HQ5 := toHid rq5
  have J5 := JMul.out w5 vp cp vq cq HP5.out HQ5.out
  clear J1 J2 KD k4 k5 rp4 rq5 hS hS4 hS5 JMul b0 b1
  go_wp2_with fail
  refine J5.mono ?_
  rintro e6 w6 ⟨vm, cm, rfl, hr6, k6⟩
  have J6 := JN.out w6 vm cm hr6
  clear J5 hr6 JN
  go_wp2_with fail
  refine J6.mono ?_
  rintro e6 w7 ⟨vn, cn, rfl, hr7, hf7, k7⟩
  have HK7 := toHid (HK5.out.trans (k6.trans k7))
  have HP7 := toHid (HP5.out.grew (k6.trans k7))
  have HQ7 := toHid (HQ5.out.grew (k6.trans k7))
  have HN7 := toHid hr7
  have HF7 := toHid (hf7.after (HK5.out.trans k6))
  have J7 := JPub.out w7 vn cn hr7
  have c7 := HK7.out.cellN b2
  clear J6 hr7 hf7 k6 k7 HK5 HP5 HQ5 JPub
  go_wp2_with fail
  refine J7.mono ?_
  rintro e6 w8 ⟨rfl, k8⟩
  have HK8 := toHid (HK7.out.trans k8)
  have HP8 := toHid (HP7.out.grew k8)
  have HQ8 := toHid (HQ7.out.grew k8)
  have HN8 := toHid (HN7.out.grew k8)
  clear J7 k8 HK7 HP7 HQ7 HN7
  go_wp2_with fail
  refine (hR _).mono ?_
  rintro e6 w9 ⟨rfl, rfl⟩
  have J9 := JI.out w9 vq cq vp cp HQ8.out HP8.out
  clear hR JI
  go_wp2_with fail
  refine J9.mono ?_
  rintro e6 w10 ⟨vi, ci, T, rfl, HT, hr10, k10⟩
  have HK10 := toHid (HK8.out.trans k10)
  have HP10 := toHid (HP8.out.grew k10)
  have HQ10 := toHid (HQ8.out.grew k10)
  have HN10 := toHid (HN8.out.grew k10)
  have HI10 := toHid hr10
  have KD10 : Kept Nought w10 w10.drew := (Kept.refl Nought w10).drew
  have c10 := HK10.out.cellN b2
  clear J9 hr10 k10 HK8 HP8 HQ8 HN8 c7
  go_wp2_with fail
  refine wp_region_held_drew (S := fun w' => w'.cell? ⟨bE, 0, none⟩ = some (.int .u64 (e : Int))) (by kernel_rfl) c10 (fun hS => ?_)
  refine takeH 0 (some 26) (.int .u64 (e : Int)) rfl rfl (by kernel_rfl) (by kernel_rfl) (by kernel_rfl) (fun _ _ _ h => h) (.inl ⟨by rfl, fun w h => by simp [execOp, go_sem, h]⟩) hS ?_
  simp only [Act.put, List.setIfInBounds_toArray, List.set_cons_succ, List.set_cons_zero]
  refine takeH 1 (some 27) (.slice vp np cp) rfl rfl (by kernel_rfl) (by kernel_rfl) (by kernel_rfl) (fun _ _ _ h => h) (.inl ⟨by rfl, fun w h => by simp [execOp, go_sem]⟩) hS ?_
  simp only [Act.put, List.setIfInBounds_toArray, List.set_cons_succ, List.set_cons_zero]
  refine takeH 2 (some 28) (.slice vq nq cq) rfl rfl (by kernel_rfl) (by kernel_rfl) (by kernel_rfl) (fun _ _ _ h => h) (.inl ⟨by rfl, fun w h => by simp [execOp, go_sem]⟩) hS ?_
  simp only [Act.put, List.setIfInBounds_toArray, List.set_cons_succ, List.set_cons_zero]
  refine callG 3 (some 29) (by kernel_rfl) rfl rfl (by rfl) 18 _ _ [.slice vp np cp, .slice vq nq cq] rfl rfl (fun _ _ => by simp [go_sem]) (JCom.out _ vp cp vq cq (HP10.out.grew KD10) (HQ10.out.grew KD10)) ?_
  rintro e6 w11 ⟨vc, cc, rfl, hr11, k11⟩
  have hS11 := k11.cellN hS
  refine .inl ⟨_, rfl, hS11, ?_⟩
  simp only [Act.put, List.setIfInBounds_toArray, List.set_cons_succ, List.set_cons_zero]
  refine takeH 4 (some 30) (.slice vc nc cc) rfl rfl (by kernel_rfl) (by kernel_rfl) (by kernel_rfl) (fun _ _ _ h => h) (.inl ⟨by rfl, fun w h => by simp [execOp, go_sem]⟩) hS11 ?_
  simp only [Act.put, List.setIfInBounds_toArray, List.set_cons_succ, List.set_cons_zero]
  refine takeH 5 (some 31) (.int .i64 0) rfl rfl (by kernel_rfl) (by kernel_rfl) (by kernel_rfl) (fun _ _ _ h => h) (.inl ⟨by rfl, fun w h => by simp [execOp, go_sem]⟩) hS11 ?_
  simp only [Act.put, List.setIfInBounds_toArray, List.set_cons_succ, List.set_cons_zero]
  refine callG 6 (some 32) (by kernel_rfl) rfl rfl (by rfl) 43 _ _ [.slice vc nc cc, .int .i64 0] rfl rfl (fun _ _ => by simp [go_sem]) (hST vc nc cc w11) ?_
  rintro e6 w12 ⟨rfl, hw12⟩
  subst hw12
  refine .inl ⟨_, rfl, hS11, ?_⟩
  simp only [Act.put, List.setIfInBounds_toArray, List.set_cons_succ, List.set_cons_zero]
  refine callG 7 (some 33) (by kernel_rfl) rfl rfl (by rfl) 42 _ _ [.int .u64 (e : Int), .slice vc nc cc] rfl rfl (fun _ _ => by simp [go_sem]) (JX.out _ vc cc hr11) ?_
  rintro e6 w13 ⟨vd, cd, d, rfl, HD, hr13, k13⟩
  have hS13 := k13.cellN hS11
  refine .inl ⟨_, rfl, hS13, ?_⟩
  simp only [Act.put, List.setIfInBounds_toArray, List.set_cons_succ, List.set_cons_zero]
  refine takeH 8 (some 8) (.slice vd (nc + 1) cd) rfl rfl (by kernel_rfl) (by kernel_rfl) (by kernel_rfl) (fun _ _ _ h => h) (.inl ⟨by rfl, fun w h => by simp [execOp, go_sem]⟩) hS13 ?_
  simp only [Act.put, List.setIfInBounds_toArray, List.set_cons_succ, List.set_cons_zero]
  refine wpAnyH_done (by kernel_rfl) ?_ _
  have HK14 := toHid (HK10.out.trans ((KD10.trans k11).trans k13))
  have kk14 := (KD10.trans k11).trans k13
  have HP14 := toHid (HP10.out.grew kk14)
  have HQ14 := toHid (HQ10.out.grew kk14)
  have HN14 := toHid (HN10.out.grew kk14)
  have HI14 := toHid (HI10.out.grew kk14)
  have HD14 := toHid hr13
  have c14 := HK14.out.cellN b2
  clear HK10 HP10 HQ10 HN10 HI10 KD10 k11 k13 kk14 hr11 hr13 hS hS11 hS13 c10 JCom JX hST
  have K14 : Kept Nought w13 w13.drew := (Kept.refl Nought w13).drew
  go_wp2_with fail
  go_region_held3 (fun w' => w'.cell? ⟨bE, 0, none⟩ = some (.int .u64 (e : Int)))
    (((try dsimp only); first | (with_reducible assumption) | (with_reducible refine keep8 ?_ ?_; (with_reducible assumption); (dsimp only; exact hne)) | (go_keep; done)))
    (first
    | (go_at_call 44; refine (FP.out _ vi ci T (Nat.le_of_lt HT.out.1) (HI14.out.grew K23)).mono ?_; rintro e6 w24 ⟨z10, y10, rfl, s10, f10, k24⟩; have K24 := K23.trans k24; have c24 := K24.cellN c14; have hB24 := HBK.out w24 (HK14.out.trans K24); obtain ⟨g0, g1, g2, g3, g4, g5, g6, g7⟩ := cells8 hB24; have q0 := frees8 hB24 0; have q1 := frees8 hB24 1; have q2 := frees8 hB24 2; have q3 := frees8 hB24 3; have q4 := frees8 hB24 4; have q5 := frees8 hB24 5; have q6 := frees8 hB24 6; have q7 := frees8 hB24 7)
    | (go_at_call 44; refine (FQ.out _ z8 y8 _ (HMQ.out d) s8).mono ?_; rintro e6 w23 ⟨z9, y9, rfl, s9, f9, k23⟩; have K23 := K22.trans k23; have c23 := K23.cellN c14)
    | (go_at_call 45; refine (RQ.out _ vd cd z7 y7 d HD.out.1 (HD14.out.grew K21) s7).mono ?_; rintro e6 w22 ⟨z8, y8, rfl, s8, k22⟩; have K22 := K21.trans k22; have c22 := K22.cellN c14)
    | (go_at_call 46; refine (LQ.out _ vq cq (HQ14.out.grew K20)).mono ?_; rintro e6 w21 ⟨z7, y7, rfl, s7, k21⟩; have K21 := K20.trans k21; have c21 := K21.cellN c14)
    | (go_at_call 44; refine (FP.out _ z5 y5 _ (HMP.out d) s5).mono ?_; rintro e6 w20 ⟨z6, y6, rfl, s6, f6, k20⟩; have K20 := K19.trans k20; have c20 := K20.cellN c14)
    | (go_at_call 45; refine (RP.out _ vd cd z4 y4 d HD.out.1 (HD14.out.grew K18) s4).mono ?_; rintro e6 w19 ⟨z5, y5, rfl, s5, k19⟩; have K19 := K18.trans k19; have c19 := K19.cellN c14)
    | (go_at_call 46; refine (LP.out _ vp cp (HP14.out.grew K17)).mono ?_; rintro e6 w18 ⟨z4, y4, rfl, s4, k18⟩; have K18 := K17.trans k18; have c18 := K18.cellN c14)
    | (go_at_call 44; refine (FQ.out _ vq cq Q (Nat.le_refl _) (HQ14.out.grew K16)).mono ?_; rintro e6 w17 ⟨z3, y3, rfl, s3, f3, k17⟩; have K17 := K16.trans k17; have c17 := K17.cellN c14)
    | (go_at_call 44; refine (FP.out _ vp cp P (Nat.le_refl _) (HP14.out.grew K15)).mono ?_; rintro e6 w16 ⟨z2, y2, rfl, s2, f2, k16⟩; have K16 := K15.trans k16; have c16 := K16.cellN c14)
    | (go_at_call 44; refine (F1.out _ vd cd d HD.out.1 (HD14.out.grew K14)).mono ?_; rintro e6 w15 ⟨z1, y1, rfl, s1, f1, k15⟩; have K15 := K14.trans k15; have c15 := K15.cellN c14))
  go_end0
  have e1 : Fresh w (.slice z1 nw y1) := fun x hx => by have h1 := f1 x hx; have h2 := (HK14.out.trans K14).size; omega
  have e2 : Fresh w (.slice z2 m y2) := f2.after (HK14.out.trans K15)
  have e3 : Fresh w (.slice z3 m y3) := f3.after (HK14.out.trans K16)
  have e6 : Fresh w (.slice z6 m y6) := f6.after (HK14.out.trans K19)
  have e9 : Fresh w (.slice z9 m y9) := f9.after (HK14.out.trans K22)
  have e10 : Fresh w (.slice z10 m y10) := f10.after (HK14.out.trans K23)
  obtain ⟨z1', z2', z3'⟩ := stored8 (HA.out.trans (HK14.out.trans K24)) HAK.out hB24 (.slice vn nw cn) (.int .u64 (e : Nat)) (.slice z1 nw y1) (.slice z2 m y2) (.slice z3 m y3) (.slice z6 m y6) (.slice z9 m y9) (.slice z10 m y10)
  unfold put8w at z1' z2' z3'
  have hfar : ∀ v, Fresh w v → ∀ x, v.ownBlock = some x → B < x := fun v h x hx => by have h1 := h x hx; have h2 := HHB.out; omega
  have hnk : ∀ v, Fresh w v → ∀ x, v.ownBlock = some x → ¬ x = bK := fun v h x hx hxe => by have h1 := h x hx; have h2 := HBL.out; omega
  have d16 := k16.trans (k17.trans (k18.trans (k19.trans (k20.trans (k21.trans (k22.trans (k23.trans k24)))))))
  have d17 := k17.trans (k18.trans (k19.trans (k20.trans (k21.trans (k22.trans (k23.trans k24))))))
  have d18 := k18.trans (k19.trans (k20.trans (k21.trans (k22.trans (k23.trans k24)))))
  have d21 := k21.trans (k22.trans (k23.trans k24))
  refine .inl ⟨HOK.out, rfl, _, z1', ⟨_, _, _, _, _, _, _, d, T, rfl, ?_, ?_, ?_, ?_, ?_, ?_, ?_, ?_, HT.out.1, HT.out.2, ?_⟩, key_far (hfar _ HF7.out) (hfar _ e1) (hfar _ e2) (hfar _ e3) (hfar _ e6) (hfar _ e9) (hfar _ e10), (HK14.out.trans K24).any.trans z3', z2'⟩
  · rw [HKW.out]; exact (HN14.out.grew K24).kept z3' (hnk _ HF7.out)
  · rw [← HCC.out]; exact HD.out.1
  · rw [← HCC.out]; exact HD.out.2
  · rw [HKW.out, digs_length]; exact (s1.grew d16).kept z3' (hnk _ e1)
  · rw [← HMM.out]; exact (s2.grew d17).kept z3' (hnk _ e2)
  · rw [← HMM.out]; exact (s3.grew d18).kept z3' (hnk _ e3)
  · rw [← HMM.out]; exact (s6.grew d21).kept z3' (hnk _ e6)
  · rw [← HMM.out]; exact (s9.grew k24).kept z3' (hnk _ e9)
  · rw [← HMM.out]; exact s10.kept z3' (hnk _ e10)

end Go.Proofs.YtiljkgoafknefaaGreat


/- Package limbs with no trace: Less, Equal, Zero. -/
namespace Go.Proofs.YtiljkgoafknefaaGreat
open Go.RowKit

theorem lEqual0 (u v : Value) (xs ys : List Nat) (w : World) (hu : Row .u64 w u xs) (hv : Row .u64 w v ys) (hdx : Digs 18446744073709551616 xs) (hdy : Digs 18446744073709551616 ys) (hL : xs.length ≤ 100000000) (hM : ys.length ≤ 100000000) :
    Calls Tryz.prog 81 #[.pointer none, u, v] w fun e w' => e = .returned (.int .u64 (oneN (decide (val 18446744073709551616 xs = val 18446744073709551616 ys)) : Nat)) ∧ Kept Nought w w' := by
  refine (lEqual none u v xs ys w (TrRoom.none w 1 (by omega)) (RowT.none hu) (RowT.none hv) hdx hdy hL hM).mono ?_
  rintro e w' ⟨rfl, o', hd⟩
  exact ⟨rfl, hd.none.2⟩

end Go.Proofs.YtiljkgoafknefaaGreat

