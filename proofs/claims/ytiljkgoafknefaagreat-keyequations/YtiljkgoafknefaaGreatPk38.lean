/- Put together of: Kex6. -/
import Derived.Test.YtiljkgoafknefaaGreatPk37
import Derived.Deep.RegionHeld3

/- Package key: Of. (written by wip/gen/kex6.py) -/
namespace Go.Proofs.YtiljkgoafknefaaGreat
open Go.RowKit

/-- What Of attempts comes to. -/
def OfEnd (L M P Q e B bK : Nat) (a w : World) (r : Ending) (w' : World) : Prop :=
  (keyOk L M P Q e ∧ r = .returned (.tuple #[]) ∧ ∃ kv, w'.heap[bK]? = some (.cells kv 32 (0, 0)) ∧ KeyAt w' P Q e kv ∧ KeyFar B kv ∧ Kept (fun b => b = bK) w w' ∧ Kept Nought a w') ∨ (¬ keyOk L M P Q e ∧ r = .panicked [refusal 190] ∧ Kept Nought w w')

theorem OfEnd.no {L M P Q e B bK : Nat} {a w w' : World} (h : ¬ keyOk L M P Q e) (k : Kept Nought w w') : OfEnd L M P Q e B bK a w (.panicked [refusal 190]) w' := .inr ⟨h, rfl, k⟩

theorem keyWords_eq {P Q : Nat} (h : 0 < P * Q) : keyWords P Q = digs 18446744073709551616 (P * Q) (wordsN (P * Q)) := by
  unfold keyWords
  have : ¬ wordsN (P * Q) ≤ 0 := fun h1 => by
    have := (wordsN_le _ _).1 h1
    rw [Nat.pow_zero] at this
    omega
  rw [Nat.max_eq_left (by omega)]

theorem KeyAt.kept {S : Nat → Prop} {w w' : World} {P Q e : Nat} {kv : Array Value} (h : KeyAt w P Q e kv) (k : Kept S w w') (hs : ∀ v ∈ kv.toList, ∀ x, v.ownBlock = some x → ¬ S x) : KeyAt w' P Q e kv := by
  obtain ⟨vn, vd, vp, vq, vdp, vdq, vqi, d, u, rfl, rn, hd1, hd2, rd, rp, rq, rdp, rdq, hu1, hu2, rqi⟩ := h
  exact ⟨vn, vd, vp, vq, vdp, vdq, vqi, d, u, rfl, rn.kept k (hs vn (by simp)), hd1, hd2, rd.kept k (hs vd (by simp)), rp.kept k (hs vp (by simp)), rq.kept k (hs vq (by simp)), rdp.kept k (hs vdp (by simp)), rdq.kept k (hs vdq (by simp)), hu1, hu2, rqi.kept k (hs vqi (by simp))⟩

theorem keep8 {W : World} {a : Addr} {p : Nat} {x0 x1 x2 x3 x4 x5 x6 x7 q : Value} (h : W.cell? a = some q) (hne : a.block ≠ p) : ((((((((W.setCell ⟨p, 0, none⟩ x0).setCell ⟨p, 1, none⟩ x1).setCell ⟨p, 2, none⟩ x2).setCell ⟨p, 3, none⟩ x3).setCell ⟨p, 4, none⟩ x4).setCell ⟨p, 5, none⟩ x5).setCell ⟨p, 6, none⟩ x6).setCell ⟨p, 7, none⟩ x7).cell? a = some q := by
  have h1 : ∀ (V : World) (j : Nat) (x : Value), V.cell? a = some q → (V.setCell ⟨p, j, none⟩ x).cell? a = some q := fun V j x hv => by
    unfold World.cell? at hv ⊢
    rw [Below.heap_setCell V ⟨p, j, none⟩ x a.block hne]
    exact hv
  exact h1 _ _ _ (h1 _ _ _ (h1 _ _ _ (h1 _ _ _ (h1 _ _ _ (h1 _ _ _ (h1 _ _ _ (h1 _ _ _ h)))))))

set_option maxRecDepth 40000 in
set_option maxHeartbeats 8000000 in
/-- What Of attempts: the first number may not be. -/
theorem kOf1A (bP bQ bE bK : Nat) (ao bo : Option Addr) (L M cap dap : Nat) (xs : List Nat) (P Q e B : Nat) (hP : P = val 18446744073709551616 xs) (hLb : L ≤ 1000) (hno : ¬ (L ≤ 300 ∧ halfOk P)) (a w : World) (hu : Row .u64 w (.slice ao L cap) xs) (hdx : Digs 18446744073709551616 xs) (b0 : w.cell? ⟨bP, 0, none⟩ = some (.slice ao L cap)) (b1 : w.cell? ⟨bQ, 0, none⟩ = some (.slice bo M dap)) :
    Calls Tryz.prog 37 #[.pointer (some ⟨bP, 0, none⟩), .pointer (some ⟨bQ, 0, none⟩), .pointer (some ⟨bE, 0, none⟩), .pointer (some ⟨bK, 0, none⟩)] w fun r w' => OfEnd L M P Q e B bK a w r w' := by
  have hN : ¬ keyOk L M P Q e := fun h => hno ⟨h.1.1, h.2.1⟩
  have KD : Kept Nought w w.drew := (Kept.refl Nought w).drew
  have J1 := kHalfBad ao L cap xs P hP (by omega) hno w.drew (hu.grew KD) hdx
  clear hu hdx hP hno
  go_enter Tryz.func37, Tryz.ntmps37
  go_wp2_with fail
  refine wp_region_held_drew (S := fun w' => w'.cell? ⟨bP, 0, none⟩ = some (.slice ao L cap) ∧ w'.cell? ⟨bQ, 0, none⟩ = some (.slice bo M dap)) (by kernel_rfl) ⟨b0, b1⟩ (fun hS => ?_)
  refine takeH 0 (some 10) (.slice ao L cap) rfl rfl (by kernel_rfl) (by kernel_rfl) (by kernel_rfl) (fun _ _ _ h => h) (.inl ⟨by rfl, fun w h => by simp [execOp, go_sem, h.1]⟩) hS ?_
  simp only [Act.put, List.setIfInBounds_toArray, List.set_cons_succ, List.set_cons_zero]
  refine takeH 2 (some 12) (.slice bo M dap) rfl rfl (by kernel_rfl) (by kernel_rfl) (by kernel_rfl) (fun _ _ _ h => h) (.inl ⟨by rfl, fun w h => by simp [execOp, go_sem, h.2]⟩) hS ?_
  simp only [Act.put, List.setIfInBounds_toArray, List.set_cons_succ, List.set_cons_zero]
  refine callG 1 (some 11) (by kernel_rfl) rfl rfl (by rfl) 38 _ _ [.slice ao L cap] rfl rfl (fun _ _ => by simp [go_sem]) (J1) ?_
  rintro e w4 ⟨rfl, k4⟩
  exact .inr ⟨_, rfl, rfl, .no hN (KD.trans k4)⟩

set_option maxRecDepth 40000 in
set_option maxHeartbeats 8000000 in
/-- What Of attempts: the second number may not be. -/
theorem kOf1B (bP bQ bE bK : Nat) (ao bo : Option Addr) (L M cap dap : Nat) (xs ys : List Nat) (P Q e B : Nat) (hP : P = val 18446744073709551616 xs) (hQ : Q = val 18446744073709551616 ys) (hMb : M ≤ 1000) (hok : L ≤ 300 ∧ halfOk P) (hno : ¬ (M ≤ 300 ∧ halfOk Q)) (a w : World) (hu : Row .u64 w (.slice ao L cap) xs) (hv : Row .u64 w (.slice bo M dap) ys) (hdx : Digs 18446744073709551616 xs) (hdy : Digs 18446744073709551616 ys) (b0 : w.cell? ⟨bP, 0, none⟩ = some (.slice ao L cap)) (b1 : w.cell? ⟨bQ, 0, none⟩ = some (.slice bo M dap)) :
    Calls Tryz.prog 37 #[.pointer (some ⟨bP, 0, none⟩), .pointer (some ⟨bQ, 0, none⟩), .pointer (some ⟨bE, 0, none⟩), .pointer (some ⟨bK, 0, none⟩)] w fun r w' => OfEnd L M P Q e B bK a w r w' := by
  have hN : ¬ keyOk L M P Q e := fun h => hno ⟨h.1.2, h.2.2.1⟩
  have KD : Kept Nought w w.drew := (Kept.refl Nought w).drew
  have J1 := kHalf ao L cap xs P (wordsN P) hP rfl hok w.drew (hu.grew KD) hdx
  have J2 : Hid (∀ W, Kept Nought w W → Calls Tryz.prog 38 #[.slice bo M dap] W fun e w' => e = .panicked [refusal 190] ∧ Kept Nought W w') := fun W k => kHalfBad bo M dap ys Q hQ (by omega) hno W (hv.grew k) hdy
  clear hu hv hdx hdy hP hQ hno hok
  go_enter Tryz.func37, Tryz.ntmps37
  go_wp2_with fail
  refine wp_region_held_drew (S := fun w' => w'.cell? ⟨bP, 0, none⟩ = some (.slice ao L cap) ∧ w'.cell? ⟨bQ, 0, none⟩ = some (.slice bo M dap)) (by kernel_rfl) ⟨b0, b1⟩ (fun hS => ?_)
  refine takeH 0 (some 10) (.slice ao L cap) rfl rfl (by kernel_rfl) (by kernel_rfl) (by kernel_rfl) (fun _ _ _ h => h) (.inl ⟨by rfl, fun w h => by simp [execOp, go_sem, h.1]⟩) hS ?_
  simp only [Act.put, List.setIfInBounds_toArray, List.set_cons_succ, List.set_cons_zero]
  refine takeH 2 (some 12) (.slice bo M dap) rfl rfl (by kernel_rfl) (by kernel_rfl) (by kernel_rfl) (fun _ _ _ h => h) (.inl ⟨by rfl, fun w h => by simp [execOp, go_sem, h.2]⟩) hS ?_
  simp only [Act.put, List.setIfInBounds_toArray, List.set_cons_succ, List.set_cons_zero]
  refine callG 1 (some 11) (by kernel_rfl) rfl rfl (by rfl) 38 _ _ [.slice ao L cap] rfl rfl (fun _ _ => by simp [go_sem]) (J1) ?_
  rintro e w4 ⟨vo, vc, rfl, _, _, k4⟩
  have hS4 : w4.cell? ⟨bP, 0, none⟩ = some (.slice ao L cap) ∧ w4.cell? ⟨bQ, 0, none⟩ = some (.slice bo M dap) := ⟨k4.cellN hS.1, k4.cellN hS.2⟩
  refine .inl ⟨_, rfl, hS4, ?_⟩
  simp only [Act.put, List.setIfInBounds_toArray, List.set_cons_succ, List.set_cons_zero]
  refine callG 3 (some 13) (by kernel_rfl) rfl rfl (by rfl) 38 _ _ [.slice bo M dap] rfl rfl (fun _ _ => by simp [go_sem]) (J2.out w4 (KD.trans k4)) ?_
  rintro e w5 ⟨rfl, k5⟩
  exact .inr ⟨_, rfl, rfl, .no hN ((KD.trans k4).trans k5)⟩

set_option maxRecDepth 40000 in
set_option maxHeartbeats 8000000 in
/-- What Of attempts: the modulus and the exponent may not be. -/
theorem kOf1C (bP bQ bE bK : Nat) (ao bo : Option Addr) (L M cap dap : Nat) (xs ys : List Nat) (P Q e B : Nat) (hP : P = val 18446744073709551616 xs) (hQ : Q = val 18446744073709551616 ys) (hok : L ≤ 300 ∧ halfOk P) (hok2 : M ≤ 300 ∧ halfOk Q) (hno : pubE (keyWords P Q) e ≠ 0) (a w : World) (hu : Row .u64 w (.slice ao L cap) xs) (hv : Row .u64 w (.slice bo M dap) ys) (hdx : Digs 18446744073709551616 xs) (hdy : Digs 18446744073709551616 ys) (b0 : w.cell? ⟨bP, 0, none⟩ = some (.slice ao L cap)) (b1 : w.cell? ⟨bQ, 0, none⟩ = some (.slice bo M dap)) (b2 : w.cell? ⟨bE, 0, none⟩ = some (.int .u64 (e : Int))) :
    Calls Tryz.prog 37 #[.pointer (some ⟨bP, 0, none⟩), .pointer (some ⟨bQ, 0, none⟩), .pointer (some ⟨bE, 0, none⟩), .pointer (some ⟨bK, 0, none⟩)] w fun r w' => OfEnd L M P Q e B bK a w r w' := by
  have hN0 : 0 < P * Q := Nat.mul_pos (by have := hok.2.1; omega) (by have := hok2.2.1; omega)
  obtain ⟨np, hnp⟩ : ∃ np, np = wordsN P := ⟨_, rfl⟩
  obtain ⟨nq, hnq⟩ : ∃ nq, nq = wordsN Q := ⟨_, rfl⟩
  obtain ⟨nw, hnw⟩ : ∃ nw, nw = wordsN (P * Q) := ⟨_, rfl⟩
  have hp3 := hok.2.1
  have hq3 := hok2.2.1
  have hpo := hok.2.2.1
  have hnp1 : np ≤ 128 := by rw [hnp]; exact words_of_bits (n := 128) (by have := hok.2.2.2; omega)
  have hnq1 : nq ≤ 128 := by rw [hnq]; exact words_of_bits (n := 128) (by have := hok2.2.2.2; omega)
  have hPl : P < 18446744073709551616 ^ np := (wordsN_le P np).1 (by omega)
  have hQl : Q < 18446744073709551616 ^ nq := (wordsN_le Q nq).1 (by omega)
  have hNl : P * Q < 18446744073709551616 ^ (np + nq) := by rw [Nat.pow_add]; exact Nat.mul_lt_mul_of_lt_of_lt hPl hQl
  have hnw1 : nw ≤ np + nq := by rw [hnw]; exact (wordsN_le _ _).2 hNl
  have hNw : P * Q < 18446744073709551616 ^ nw := (wordsN_le _ nw).1 (by omega)
  have vP : val 18446744073709551616 (digs 18446744073709551616 P np) = P := by rw [val_digs, Nat.mod_eq_of_lt hPl]
  have vQ : val 18446744073709551616 (digs 18446744073709551616 Q nq) = Q := by rw [val_digs, Nat.mod_eq_of_lt hQl]
  have vN : val 18446744073709551616 (digs 18446744073709551616 (P * Q) nw) = P * Q := by rw [val_digs, Nat.mod_eq_of_lt hNw]
  have dP : Digs 18446744073709551616 (digs 18446744073709551616 P np) := digs_digs (by omega) _ _
  have dQ : Digs 18446744073709551616 (digs 18446744073709551616 Q nq) := digs_digs (by omega) _ _
  have dN : Digs 18446744073709551616 (digs 18446744073709551616 (P * Q) nw) := digs_digs (by omega) _ _
  have hkw : keyWords P Q = digs 18446744073709551616 (P * Q) nw := by rw [hnw]; exact keyWords_eq hN0
  have KD : Kept Nought w w.drew := (Kept.refl Nought w).drew
  have J1 := kHalf ao L cap xs P np hP hnp hok w.drew (hu.grew KD) hdx
  have J2 : Hid (∀ W, Kept Nought w W → Calls Tryz.prog 38 #[.slice bo M dap] W fun e w' => ∃ vo vc, e = .returned (.slice vo nq vc) ∧ Row .u64 w' (.slice vo nq vc) (digs 18446744073709551616 Q nq) ∧ Fresh W (.slice vo nq vc) ∧ Kept Nought W w') := fun W k => kHalf bo M dap ys Q nq hQ hnq hok2 W (hv.grew k) hdy
  have JMul : Hid (∀ W va ca vb cb, Row .u64 W (.slice va np ca) (digs 18446744073709551616 P np) → Row .u64 W (.slice vb nq cb) (digs 18446744073709551616 Q nq) → Calls Tryz.prog 40 #[.pointer none, .slice va np ca, .slice vb nq cb] W fun e w' => ∃ vo vc, e = .returned (.slice vo (np + nq) vc) ∧ Row .u64 w' (.slice vo (np + nq) vc) (digs 18446744073709551616 (P * Q) (np + nq)) ∧ Kept Nought W w') := fun W va ca vb cb h1 h2 => by
    refine (mul0 va vb np nq ca cb _ _ W h1 h2 dP dQ).mono ?_
    rintro e w' ⟨v', rfl, hr, k⟩
    rw [vP, vQ] at hr
    unfold mulAns at hr
    rw [if_pos (by omega)] at hr
    obtain ⟨vo, vn, vc, rfl, hl, _, _, _, _⟩ := hr.open
    obtain rfl : np + nq = vn := by rw [← hl.out, digs_length]
    exact ⟨_, _, rfl, hr, k⟩
  have JN : Hid (∀ W v c, Row .u64 W (.slice v (np + nq) c) (digs 18446744073709551616 (P * Q) (np + nq)) → Calls Tryz.prog 39 #[.slice v (np + nq) c] W fun e w' => ∃ vo vc, e = .returned (.slice vo nw vc) ∧ Row .u64 w' (.slice vo nw vc) (digs 18446744073709551616 (P * Q) nw) ∧ Fresh W (.slice vo nw vc) ∧ Kept Nought W w') := fun W v c h => kNeed v (np + nq) c _ (P * Q) nw (by rw [val_digs, Nat.mod_eq_of_lt hNl]) hnw (by omega) W h (digs_digs (by omega) _ _) (by rw [digs_length]; omega)
  have JPub : Hid (∀ W v c, Row .u64 W (.slice v nw c) (digs 18446744073709551616 (P * Q) nw) → Calls Tryz.prog 10 #[.slice v nw c, .int .u64 (e : Nat)] W fun r w' => r = .returned (.int .i64 ((pubE (digs 18446744073709551616 (P * Q) nw) e : Nat) : Int)) ∧ Kept Nought W w') := fun W v c h => kPub v nw c _ e W h dN (by omega)
  have hN : ¬ keyOk L M P Q e := fun h => hno h.2.2.2.2.1
  rw [hkw] at hno
  rw [(pub_two _ _).resolve_left hno] at JPub
  have hY := kRefuseYes 190
  clear hu hv hdx hdy hP hQ hok hok2 hN0 hnp hnq hnw hp3 hq3 hpo hnp1 hnq1 hPl hQl hNl hnw1 hNw vP vQ vN dP dQ dN hkw hno
  go_enter Tryz.func37, Tryz.ntmps37
  go_wp2_with fail
  refine wp_region_held_drew (S := fun w' => w'.cell? ⟨bP, 0, none⟩ = some (.slice ao L cap) ∧ w'.cell? ⟨bQ, 0, none⟩ = some (.slice bo M dap)) (by kernel_rfl) ⟨b0, b1⟩ (fun hS => ?_)
  refine takeH 0 (some 10) (.slice ao L cap) rfl rfl (by kernel_rfl) (by kernel_rfl) (by kernel_rfl) (fun _ _ _ h => h) (.inl ⟨by rfl, fun w h => by simp [execOp, go_sem, h.1]⟩) hS ?_
  simp only [Act.put, List.setIfInBounds_toArray, List.set_cons_succ, List.set_cons_zero]
  refine takeH 2 (some 12) (.slice bo M dap) rfl rfl (by kernel_rfl) (by kernel_rfl) (by kernel_rfl) (fun _ _ _ h => h) (.inl ⟨by rfl, fun w h => by simp [execOp, go_sem, h.2]⟩) hS ?_
  simp only [Act.put, List.setIfInBounds_toArray, List.set_cons_succ, List.set_cons_zero]
  refine callG 1 (some 11) (by kernel_rfl) rfl rfl (by rfl) 38 _ _ [.slice ao L cap] rfl rfl (fun _ _ => by simp [go_sem]) (J1) ?_
  rintro e w4 ⟨vp, cp, rfl, rp4, _, k4⟩
  have hS4 : w4.cell? ⟨bP, 0, none⟩ = some (.slice ao L cap) ∧ w4.cell? ⟨bQ, 0, none⟩ = some (.slice bo M dap) := ⟨k4.cellN hS.1, k4.cellN hS.2⟩
  refine .inl ⟨_, rfl, hS4, ?_⟩
  simp only [Act.put, List.setIfInBounds_toArray, List.set_cons_succ, List.set_cons_zero]
  refine callG 3 (some 13) (by kernel_rfl) rfl rfl (by rfl) 38 _ _ [.slice bo M dap] rfl rfl (fun _ _ => by simp [go_sem]) (J2.out w4 (KD.trans k4)) ?_
  rintro e w5 ⟨vq, cq, rfl, rq5, _, k5⟩
  have hS5 : w5.cell? ⟨bP, 0, none⟩ = some (.slice ao L cap) ∧ w5.cell? ⟨bQ, 0, none⟩ = some (.slice bo M dap) := ⟨k5.cellN hS4.1, k5.cellN hS4.2⟩
  refine .inl ⟨_, rfl, hS5, ?_⟩
  simp only [Act.put, List.setIfInBounds_toArray, List.set_cons_succ, List.set_cons_zero]
  refine takeH 4 (some 4) (.slice vp np cp) rfl rfl (by kernel_rfl) (by kernel_rfl) (by kernel_rfl) (fun _ _ _ h => h) (.inl ⟨by rfl, fun w h => by simp [execOp, go_sem]⟩) hS5 ?_
  simp only [Act.put, List.setIfInBounds_toArray, List.set_cons_succ, List.set_cons_zero]
  refine takeH 5 (some 5) (.slice vq nq cq) rfl rfl (by kernel_rfl) (by kernel_rfl) (by kernel_rfl) (fun _ _ _ h => h) (.inl ⟨by rfl, fun w h => by simp [execOp, go_sem]⟩) hS5 ?_
  simp only [Act.put, List.setIfInBounds_toArray, List.set_cons_succ, List.set_cons_zero]
  refine wpAnyH_done (by kernel_rfl) ?_ _
  have HK5 := toHid ((KD.trans k4).trans k5)
  have HP5 := toHid (rp4.grew k5)
  have HQ5 := toHid rq5
  have J5 := JMul.out w5 vp cp vq cq HP5.out HQ5.out
  clear J1 J2 KD k4 k5 rp4 rq5 hS hS4 hS5 JMul b0 b1
  go_wp2_with fail
  refine J5.mono ?_
  rintro e6 w6 ⟨vm, cm, rfl, hr6, k6⟩
  have J6 := JN.out w6 vm cm hr6
  clear J5 hr6 JN
  go_wp2_with fail
  refine J6.mono ?_
  rintro e6 w7 ⟨vn, cn, rfl, hr7, hf7, k7⟩
  have HK7 := toHid (HK5.out.trans (k6.trans k7))
  have HP7 := toHid (HP5.out.grew (k6.trans k7))
  have HQ7 := toHid (HQ5.out.grew (k6.trans k7))
  have HN7 := toHid hr7
  have HF7 := toHid (hf7.after (HK5.out.trans k6))
  have J7 := JPub.out w7 vn cn hr7
  have c7 := HK7.out.cellN b2
  clear J6 hr7 hf7 k6 k7 HK5 HP5 HQ5 JPub
  go_wp2_with fail
  refine J7.mono ?_
  rintro e6 w8 ⟨rfl, k8⟩
  have HK8 := toHid (HK7.out.trans k8)
  clear J7 k8 HK7
  go_wp2_with fail
  refine (hY _).mono ?_
  rintro e6 w9 ⟨rfl, rfl⟩
  exact ⟨rfl, .no hN HK8.out⟩

set_option maxRecDepth 40000 in
set_option maxHeartbeats 8000000 in
/-- What Of attempts: the numbers have a divisor together. -/
theorem kOf1D (bP bQ bE bK : Nat) (ao bo : Option Addr) (L M cap dap : Nat) (xs ys : List Nat) (P Q e B : Nat) (hP : P = val 18446744073709551616 xs) (hQ : Q = val 18446744073709551616 ys) (hok : L ≤ 300 ∧ halfOk P) (hok2 : M ≤ 300 ∧ halfOk Q) (hgood : pubE (keyWords P Q) e = 0) (hno : Nat.gcd Q P ≠ 1) (a w : World) (hu : Row .u64 w (.slice ao L cap) xs) (hv : Row .u64 w (.slice bo M dap) ys) (hdx : Digs 18446744073709551616 xs) (hdy : Digs 18446744073709551616 ys) (b0 : w.cell? ⟨bP, 0, none⟩ = some (.slice ao L cap)) (b1 : w.cell? ⟨bQ, 0, none⟩ = some (.slice bo M dap)) (b2 : w.cell? ⟨bE, 0, none⟩ = some (.int .u64 (e : Int))) :
    Calls Tryz.prog 37 #[.pointer (some ⟨bP, 0, none⟩), .pointer (some ⟨bQ, 0, none⟩), .pointer (some ⟨bE, 0, none⟩), .pointer (some ⟨bK, 0, none⟩)] w fun r w' => OfEnd L M P Q e B bK a w r w' := by
  have hN0 : 0 < P * Q := Nat.mul_pos (by have := hok.2.1; omega) (by have := hok2.2.1; omega)
  obtain ⟨np, hnp⟩ : ∃ np, np = wordsN P := ⟨_, rfl⟩
  obtain ⟨nq, hnq⟩ : ∃ nq, nq = wordsN Q := ⟨_, rfl⟩
  obtain ⟨nw, hnw⟩ : ∃ nw, nw = wordsN (P * Q) := ⟨_, rfl⟩
  have hp3 := hok.2.1
  have hq3 := hok2.2.1
  have hpo := hok.2.2.1
  have hnp1 : np ≤ 128 := by rw [hnp]; exact words_of_bits (n := 128) (by have := hok.2.2.2; omega)
  have hnq1 : nq ≤ 128 := by rw [hnq]; exact words_of_bits (n := 128) (by have := hok2.2.2.2; omega)
  have hPl : P < 18446744073709551616 ^ np := (wordsN_le P np).1 (by omega)
  have hQl : Q < 18446744073709551616 ^ nq := (wordsN_le Q nq).1 (by omega)
  have hNl : P * Q < 18446744073709551616 ^ (np + nq) := by rw [Nat.pow_add]; exact Nat.mul_lt_mul_of_lt_of_lt hPl hQl
  have hnw1 : nw ≤ np + nq := by rw [hnw]; exact (wordsN_le _ _).2 hNl
  have hNw : P * Q < 18446744073709551616 ^ nw := (wordsN_le _ nw).1 (by omega)
  have vP : val 18446744073709551616 (digs 18446744073709551616 P np) = P := by rw [val_digs, Nat.mod_eq_of_lt hPl]
  have vQ : val 18446744073709551616 (digs 18446744073709551616 Q nq) = Q := by rw [val_digs, Nat.mod_eq_of_lt hQl]
  have vN : val 18446744073709551616 (digs 18446744073709551616 (P * Q) nw) = P * Q := by rw [val_digs, Nat.mod_eq_of_lt hNw]
  have dP : Digs 18446744073709551616 (digs 18446744073709551616 P np) := digs_digs (by omega) _ _
  have dQ : Digs 18446744073709551616 (digs 18446744073709551616 Q nq) := digs_digs (by omega) _ _
  have dN : Digs 18446744073709551616 (digs 18446744073709551616 (P * Q) nw) := digs_digs (by omega) _ _
  have hkw : keyWords P Q = digs 18446744073709551616 (P * Q) nw := by rw [hnw]; exact keyWords_eq hN0
  have KD : Kept Nought w w.drew := (Kept.refl Nought w).drew
  have J1 := kHalf ao L cap xs P np hP hnp hok w.drew (hu.grew KD) hdx
  have J2 : Hid (∀ W, Kept Nought w W → Calls Tryz.prog 38 #[.slice bo M dap] W fun e w' => ∃ vo vc, e = .returned (.slice vo nq vc) ∧ Row .u64 w' (.slice vo nq vc) (digs 18446744073709551616 Q nq) ∧ Fresh W (.slice vo nq vc) ∧ Kept Nought W w') := fun W k => kHalf bo M dap ys Q nq hQ hnq hok2 W (hv.grew k) hdy
  have JMul : Hid (∀ W va ca vb cb, Row .u64 W (.slice va np ca) (digs 18446744073709551616 P np) → Row .u64 W (.slice vb nq cb) (digs 18446744073709551616 Q nq) → Calls Tryz.prog 40 #[.pointer none, .slice va np ca, .slice vb nq cb] W fun e w' => ∃ vo vc, e = .returned (.slice vo (np + nq) vc) ∧ Row .u64 w' (.slice vo (np + nq) vc) (digs 18446744073709551616 (P * Q) (np + nq)) ∧ Kept Nought W w') := fun W va ca vb cb h1 h2 => by
    refine (mul0 va vb np nq ca cb _ _ W h1 h2 dP dQ).mono ?_
    rintro e w' ⟨v', rfl, hr, k⟩
    rw [vP, vQ] at hr
    unfold mulAns at hr
    rw [if_pos (by omega)] at hr
    obtain ⟨vo, vn, vc, rfl, hl, _, _, _, _⟩ := hr.open
    obtain rfl : np + nq = vn := by rw [← hl.out, digs_length]
    exact ⟨_, _, rfl, hr, k⟩
  have JN : Hid (∀ W v c, Row .u64 W (.slice v (np + nq) c) (digs 18446744073709551616 (P * Q) (np + nq)) → Calls Tryz.prog 39 #[.slice v (np + nq) c] W fun e w' => ∃ vo vc, e = .returned (.slice vo nw vc) ∧ Row .u64 w' (.slice vo nw vc) (digs 18446744073709551616 (P * Q) nw) ∧ Fresh W (.slice vo nw vc) ∧ Kept Nought W w') := fun W v c h => kNeed v (np + nq) c _ (P * Q) nw (by rw [val_digs, Nat.mod_eq_of_lt hNl]) hnw (by omega) W h (digs_digs (by omega) _ _) (by rw [digs_length]; omega)
  have JPub : Hid (∀ W v c, Row .u64 W (.slice v nw c) (digs 18446744073709551616 (P * Q) nw) → Calls Tryz.prog 10 #[.slice v nw c, .int .u64 (e : Nat)] W fun r w' => r = .returned (.int .i64 ((pubE (digs 18446744073709551616 (P * Q) nw) e : Nat) : Int)) ∧ Kept Nought W w') := fun W v c h => kPub v nw c _ e W h dN (by omega)
  have hpub := hgood
  rw [hkw] at hpub
  have hpf := (pub_iff dN (by rw [digs_length]; omega) e).1 hpub
  rw [vN] at hpf
  obtain ⟨-, -, he3, he4, heo⟩ := hpf
  rw [hpub] at JPub
  have hR := kRefuseNo 190
  have hN : ¬ keyOk L M P Q e := fun h => hno (by rw [Nat.gcd_comm]; exact h.2.2.2.1)
  have JI : Hid (∀ W va ca vb cb, Row .u64 W (.slice va nq ca) (digs 18446744073709551616 Q nq) → Row .u64 W (.slice vb np cb) (digs 18446744073709551616 P np) → Calls Tryz.prog 41 #[.slice va nq ca, .slice vb np cb] W fun e w' => e = .panicked [refusal 190] ∧ Kept Nought W w') := fun W va ca vb cb h1 h2 => kInvBad va vb nq np ca cb _ _ Q P vQ.symm vP.symm (by omega) hpo hnp (by omega) (by omega) hno W h1 h2 dQ dP
  clear he3 he4 heo hno hu hv hdx hdy hP hQ hok hok2 hN0 hnp hnq hnw hp3 hq3 hpo hnp1 hnq1 hPl hQl hNl hnw1 hNw vP vQ vN dP dQ dN hkw hpub hgood
  go_enter Tryz.func37, Tryz.ntmps37
  go_wp2_with fail
  refine wp_region_held_drew (S := fun w' => w'.cell? ⟨bP, 0, none⟩ = some (.slice ao L cap) ∧ w'.cell? ⟨bQ, 0, none⟩ = some (.slice bo M dap)) (by kernel_rfl) ⟨b0, b1⟩ (fun hS => ?_)
  refine takeH 0 (some 10) (.slice ao L cap) rfl rfl (by kernel_rfl) (by kernel_rfl) (by kernel_rfl) (fun _ _ _ h => h) (.inl ⟨by rfl, fun w h => by simp [execOp, go_sem, h.1]⟩) hS ?_
  simp only [Act.put, List.setIfInBounds_toArray, List.set_cons_succ, List.set_cons_zero]
  refine takeH 2 (some 12) (.slice bo M dap) rfl rfl (by kernel_rfl) (by kernel_rfl) (by kernel_rfl) (fun _ _ _ h => h) (.inl ⟨by rfl, fun w h => by simp [execOp, go_sem, h.2]⟩) hS ?_
  simp only [Act.put, List.setIfInBounds_toArray, List.set_cons_succ, List.set_cons_zero]
  refine callG 1 (some 11) (by kernel_rfl) rfl rfl (by rfl) 38 _ _ [.slice ao L cap] rfl rfl (fun _ _ => by simp [go_sem]) (J1) ?_
  rintro e w4 ⟨vp, cp, rfl, rp4, _, k4⟩
  have hS4 : w4.cell? ⟨bP, 0, none⟩ = some (.slice ao L cap) ∧ w4.cell? ⟨bQ, 0, none⟩ = some (.slice bo M dap) := ⟨k4.cellN hS.1, k4.cellN hS.2⟩
  refine .inl ⟨_, rfl, hS4, ?_⟩
  simp only [Act.put, List.setIfInBounds_toArray, List.set_cons_succ, List.set_cons_zero]
  refine callG 3 (some 13) (by kernel_rfl) rfl rfl (by rfl) 38 _ _ [.slice bo M dap] rfl rfl (fun _ _ => by simp [go_sem]) (J2.out w4 (KD.trans k4)) ?_
  rintro e w5 ⟨vq, cq, rfl, rq5, _, k5⟩
  have hS5 : w5.cell? ⟨bP, 0, none⟩ = some (.slice ao L cap) ∧ w5.cell? ⟨bQ, 0, none⟩ = some (.slice bo M dap) := ⟨k5.cellN hS4.1, k5.cellN hS4.2⟩
  refine .inl ⟨_, rfl, hS5, ?_⟩
  simp only [Act.put, List.setIfInBounds_toArray, List.set_cons_succ, List.set_cons_zero]
  refine takeH 4 (some 4) (.slice vp np cp) rfl rfl (by kernel_rfl) (by kernel_rfl) (by kernel_rfl) (fun _ _ _ h => h) (.inl ⟨by rfl, fun w h => by simp [execOp, go_sem]⟩) hS5 ?_
  simp only [Act.put, List.setIfInBounds_toArray, List.set_cons_succ, List.set_cons_zero]
  refine takeH 5 (some 5) (.slice vq nq cq) rfl rfl (by kernel_rfl) (by kernel_rfl) (by kernel_rfl) (fun _ _ _ h => h) (.inl ⟨by rfl, fun w h => by simp [execOp, go_sem]⟩) hS5 ?_
  simp only [Act.put, List.setIfInBounds_toArray, List.set_cons_succ, List.set_cons_zero]
  refine wpAnyH_done (by kernel_rfl) ?_ _
  have HK5 := toHid ((KD.trans k4).trans k5)
  have HP5 := toHid (rp4.grew k5)
  have HQ5 := toHid rq5
  have J5 := JMul.out w5 vp cp vq cq HP5.out HQ5.out
  clear J1 J2 KD k4 k5 rp4 rq5 hS hS4 hS5 JMul b0 b1
  go_wp2_with fail
  refine J5.mono ?_
  rintro e6 w6 ⟨vm, cm, rfl, hr6, k6⟩
  have J6 := JN.out w6 vm cm hr6
  clear J5 hr6 JN
  go_wp2_with fail
  refine J6.mono ?_
  rintro e6 w7 ⟨vn, cn, rfl, hr7, hf7, k7⟩
  have HK7 := toHid (HK5.out.trans (k6.trans k7))
  have HP7 := toHid (HP5.out.grew (k6.trans k7))
  have HQ7 := toHid (HQ5.out.grew (k6.trans k7))
  have HN7 := toHid hr7
  have HF7 := toHid (hf7.after (HK5.out.trans k6))
  have J7 := JPub.out w7 vn cn hr7
  have c7 := HK7.out.cellN b2
  clear J6 hr7 hf7 k6 k7 HK5 HP5 HQ5 JPub
  go_wp2_with fail
  refine J7.mono ?_
  rintro e6 w8 ⟨rfl, k8⟩
  have HK8 := toHid (HK7.out.trans k8)
  have HP8 := toHid (HP7.out.grew k8)
  have HQ8 := toHid (HQ7.out.grew k8)
  have HN8 := toHid (HN7.out.grew k8)
  clear J7 k8 HK7 HP7 HQ7 HN7
  go_wp2_with fail
  refine (hR _).mono ?_
  rintro e6 w9 ⟨rfl, rfl⟩
  have J9 := JI.out w9 vq cq vp cp HQ8.out HP8.out
  clear hR JI
  go_wp2_with fail
  refine J9.mono ?_
  rintro e6 w10 ⟨rfl, k10⟩
  exact ⟨rfl, .no hN (HK8.out.trans k10)⟩

set_option maxRecDepth 40000 in
set_option maxHeartbeats 8000000 in
/-- What Of attempts: the exponent has no inverse. -/
theorem kOf1E (bP bQ bE bK : Nat) (ao bo : Option Addr) (L M cap dap : Nat) (xs ys : List Nat) (P Q e B : Nat) (hP : P = val 18446744073709551616 xs) (hQ : Q = val 18446744073709551616 ys) (hok : L ≤ 300 ∧ halfOk P) (hok2 : M ≤ 300 ∧ halfOk Q) (hgood : pubE (keyWords P Q) e = 0) (hg : Nat.gcd Q P = 1) (hno : Nat.gcd (comN P Q) e ≠ 1) (a w : World) (hu : Row .u64 w (.slice ao L cap) xs) (hv : Row .u64 w (.slice bo M dap) ys) (hdx : Digs 18446744073709551616 xs) (hdy : Digs 18446744073709551616 ys) (b0 : w.cell? ⟨bP, 0, none⟩ = some (.slice ao L cap)) (b1 : w.cell? ⟨bQ, 0, none⟩ = some (.slice bo M dap)) (b2 : w.cell? ⟨bE, 0, none⟩ = some (.int .u64 (e : Int))) :
    Calls Tryz.prog 37 #[.pointer (some ⟨bP, 0, none⟩), .pointer (some ⟨bQ, 0, none⟩), .pointer (some ⟨bE, 0, none⟩), .pointer (some ⟨bK, 0, none⟩)] w fun r w' => OfEnd L M P Q e B bK a w r w' := by
  have hN0 : 0 < P * Q := Nat.mul_pos (by have := hok.2.1; omega) (by have := hok2.2.1; omega)
  obtain ⟨np, hnp⟩ : ∃ np, np = wordsN P := ⟨_, rfl⟩
  obtain ⟨nq, hnq⟩ : ∃ nq, nq = wordsN Q := ⟨_, rfl⟩
  obtain ⟨nw, hnw⟩ : ∃ nw, nw = wordsN (P * Q) := ⟨_, rfl⟩
  have hp3 := hok.2.1
  have hq3 := hok2.2.1
  have hpo := hok.2.2.1
  have hnp1 : np ≤ 128 := by rw [hnp]; exact words_of_bits (n := 128) (by have := hok.2.2.2; omega)
  have hnq1 : nq ≤ 128 := by rw [hnq]; exact words_of_bits (n := 128) (by have := hok2.2.2.2; omega)
  have hPl : P < 18446744073709551616 ^ np := (wordsN_le P np).1 (by omega)
  have hQl : Q < 18446744073709551616 ^ nq := (wordsN_le Q nq).1 (by omega)
  have hNl : P * Q < 18446744073709551616 ^ (np + nq) := by rw [Nat.pow_add]; exact Nat.mul_lt_mul_of_lt_of_lt hPl hQl
  have hnw1 : nw ≤ np + nq := by rw [hnw]; exact (wordsN_le _ _).2 hNl
  have hNw : P * Q < 18446744073709551616 ^ nw := (wordsN_le _ nw).1 (by omega)
  have vP : val 18446744073709551616 (digs 18446744073709551616 P np) = P := by rw [val_digs, Nat.mod_eq_of_lt hPl]
  have vQ : val 18446744073709551616 (digs 18446744073709551616 Q nq) = Q := by rw [val_digs, Nat.mod_eq_of_lt hQl]
  have vN : val 18446744073709551616 (digs 18446744073709551616 (P * Q) nw) = P * Q := by rw [val_digs, Nat.mod_eq_of_lt hNw]
  have dP : Digs 18446744073709551616 (digs 18446744073709551616 P np) := digs_digs (by omega) _ _
  have dQ : Digs 18446744073709551616 (digs 18446744073709551616 Q nq) := digs_digs (by omega) _ _
  have dN : Digs 18446744073709551616 (digs 18446744073709551616 (P * Q) nw) := digs_digs (by omega) _ _
  have hkw : keyWords P Q = digs 18446744073709551616 (P * Q) nw := by rw [hnw]; exact keyWords_eq hN0
  have KD : Kept Nought w w.drew := (Kept.refl Nought w).drew
  have J1 := kHalf ao L cap xs P np hP hnp hok w.drew (hu.grew KD) hdx
  have J2 : Hid (∀ W, Kept Nought w W → Calls Tryz.prog 38 #[.slice bo M dap] W fun e w' => ∃ vo vc, e = .returned (.slice vo nq vc) ∧ Row .u64 w' (.slice vo nq vc) (digs 18446744073709551616 Q nq) ∧ Fresh W (.slice vo nq vc) ∧ Kept Nought W w') := fun W k => kHalf bo M dap ys Q nq hQ hnq hok2 W (hv.grew k) hdy
  have JMul : Hid (∀ W va ca vb cb, Row .u64 W (.slice va np ca) (digs 18446744073709551616 P np) → Row .u64 W (.slice vb nq cb) (digs 18446744073709551616 Q nq) → Calls Tryz.prog 40 #[.pointer none, .slice va np ca, .slice vb nq cb] W fun e w' => ∃ vo vc, e = .returned (.slice vo (np + nq) vc) ∧ Row .u64 w' (.slice vo (np + nq) vc) (digs 18446744073709551616 (P * Q) (np + nq)) ∧ Kept Nought W w') := fun W va ca vb cb h1 h2 => by
    refine (mul0 va vb np nq ca cb _ _ W h1 h2 dP dQ).mono ?_
    rintro e w' ⟨v', rfl, hr, k⟩
    rw [vP, vQ] at hr
    unfold mulAns at hr
    rw [if_pos (by omega)] at hr
    obtain ⟨vo, vn, vc, rfl, hl, _, _, _, _⟩ := hr.open
    obtain rfl : np + nq = vn := by rw [← hl.out, digs_length]
    exact ⟨_, _, rfl, hr, k⟩
  have JN : Hid (∀ W v c, Row .u64 W (.slice v (np + nq) c) (digs 18446744073709551616 (P * Q) (np + nq)) → Calls Tryz.prog 39 #[.slice v (np + nq) c] W fun e w' => ∃ vo vc, e = .returned (.slice vo nw vc) ∧ Row .u64 w' (.slice vo nw vc) (digs 18446744073709551616 (P * Q) nw) ∧ Fresh W (.slice vo nw vc) ∧ Kept Nought W w') := fun W v c h => kNeed v (np + nq) c _ (P * Q) nw (by rw [val_digs, Nat.mod_eq_of_lt hNl]) hnw (by omega) W h (digs_digs (by omega) _ _) (by rw [digs_length]; omega)
  have JPub : Hid (∀ W v c, Row .u64 W (.slice v nw c) (digs 18446744073709551616 (P * Q) nw) → Calls Tryz.prog 10 #[.slice v nw c, .int .u64 (e : Nat)] W fun r w' => r = .returned (.int .i64 ((pubE (digs 18446744073709551616 (P * Q) nw) e : Nat) : Int)) ∧ Kept Nought W w') := fun W v c h => kPub v nw c _ e W h dN (by omega)
  have hpub := hgood
  rw [hkw] at hpub
  have hpf := (pub_iff dN (by rw [digs_length]; omega) e).1 hpub
  rw [vN] at hpf
  obtain ⟨-, -, he3, he4, heo⟩ := hpf
  rw [hpub] at JPub
  have hR := kRefuseNo 190
  have hN : ¬ keyOk L M P Q e := fun h => hno (by rw [Nat.gcd_comm]; exact h.2.2.2.2.2)
  have JI : Hid (∀ W va ca vb cb, Row .u64 W (.slice va nq ca) (digs 18446744073709551616 Q nq) → Row .u64 W (.slice vb np cb) (digs 18446744073709551616 P np) → Calls Tryz.prog 41 #[.slice va nq ca, .slice vb np cb] W fun e w' => ∃ vo vc T, e = .returned (.slice vo np vc) ∧ Hid (T < P ∧ Q * T % P = 1) ∧ Row .u64 w' (.slice vo np vc) (digs 18446744073709551616 T np) ∧ Kept Nought W w') := fun W va ca vb cb h1 h2 => kInv va vb nq np ca cb _ _ Q P vQ.symm vP.symm (by omega) hpo hnp (by omega) (by omega) hg W h1 h2 dQ dP
  obtain ⟨C, hC⟩ : ∃ C, C = comN P Q := ⟨_, rfl⟩
  obtain ⟨nc, hnc⟩ : ∃ nc, nc = wordsN C := ⟨_, rfl⟩
  have hCl : C < 18446744073709551616 ^ (np + nq) := by rw [hC]; exact com_fits hPl hQl (by omega) (by omega)
  have hnc1 : nc ≤ np + nq := by rw [hnc]; exact (wordsN_le _ _).2 hCl
  have hCn : C < 18446744073709551616 ^ nc := (wordsN_le C nc).1 (by omega)
  have vC : val 18446744073709551616 (digs 18446744073709551616 C nc) = C := by rw [val_digs, Nat.mod_eq_of_lt hCn]
  have hC2 : 2 ≤ C := by rw [hC]; exact com_ge hp3 hq3
  have JCom : Hid (∀ W va ca vb cb, Row .u64 W (.slice va np ca) (digs 18446744073709551616 P np) → Row .u64 W (.slice vb nq cb) (digs 18446744073709551616 Q nq) → Calls Tryz.prog 18 #[.slice va np ca, .slice vb nq cb] W fun e w' => ∃ vo vc, e = .returned (.tuple #[.slice vo nc vc, .int .i64 0]) ∧ Row .u64 w' (.slice vo nc vc) (digs 18446744073709551616 C nc) ∧ Kept Nought W w') := fun W va ca vb cb h1 h2 => by
    refine (kCom va vb np nq ca cb _ _ P Q 0 _ vP.symm vQ.symm (by omega) (by omega) (.inl ⟨rfl, by omega, by omega⟩) (by rw [if_pos rfl, ← hC, ← hnc]) W h1 h2 dP dQ).mono ?_
    rintro e w' ⟨v', rfl, hr, _, k⟩
    obtain ⟨vo, vn, vc, rfl, hl, _, _, _, _⟩ := hr.open
    obtain rfl : nc = vn := by rw [← hl.out, digs_length]
    exact ⟨_, _, rfl, hr, k⟩
  have hST := fun v n c W => kStepN v n c W
  have JX : Hid (∀ W v c, Row .u64 W (.slice v nc c) (digs 18446744073709551616 C nc) → Calls Tryz.prog 42 #[.int .u64 (e : Nat), .slice v nc c] W fun r w' => r = .panicked [refusal 190] ∧ Kept Nought W w') := fun W v c h => kExpBad v nc c _ C e vC.symm he3 heo (by omega) (by omega) (by rw [hC]; exact hno) W h (digs_digs (by omega) _ _)
  clear he3 he4 heo hno hg hC hnc hCl hnc1 hCn vC hC2 hu hv hdx hdy hP hQ hok hok2 hN0 hnp hnq hnw hp3 hq3 hpo hnp1 hnq1 hPl hQl hNl hnw1 hNw vP vQ vN dP dQ dN hkw hpub hgood
  go_enter Tryz.func37, Tryz.ntmps37
  go_wp2_with fail
  refine wp_region_held_drew (S := fun w' => w'.cell? ⟨bP, 0, none⟩ = some (.slice ao L cap) ∧ w'.cell? ⟨bQ, 0, none⟩ = some (.slice bo M dap)) (by kernel_rfl) ⟨b0, b1⟩ (fun hS => ?_)
  refine takeH 0 (some 10) (.slice ao L cap) rfl rfl (by kernel_rfl) (by kernel_rfl) (by kernel_rfl) (fun _ _ _ h => h) (.inl ⟨by rfl, fun w h => by simp [execOp, go_sem, h.1]⟩) hS ?_
  simp only [Act.put, List.setIfInBounds_toArray, List.set_cons_succ, List.set_cons_zero]
  refine takeH 2 (some 12) (.slice bo M dap) rfl rfl (by kernel_rfl) (by kernel_rfl) (by kernel_rfl) (fun _ _ _ h => h) (.inl ⟨by rfl, fun w h => by simp [execOp, go_sem, h.2]⟩) hS ?_
  simp only [Act.put, List.setIfInBounds_toArray, List.set_cons_succ, List.set_cons_zero]
  refine callG 1 (some 11) (by kernel_rfl) rfl rfl (by rfl) 38 _ _ [.slice ao L cap] rfl rfl (fun _ _ => by simp [go_sem]) (J1) ?_
  rintro e w4 ⟨vp, cp, rfl, rp4, _, k4⟩
  have hS4 : w4.cell? ⟨bP, 0, none⟩ = some (.slice ao L cap) ∧ w4.cell? ⟨bQ, 0, none⟩ = some (.slice bo M dap) := ⟨k4.cellN hS.1, k4.cellN hS.2⟩
  refine .inl ⟨_, rfl, hS4, ?_⟩
  simp only [Act.put, List.setIfInBounds_toArray, List.set_cons_succ, List.set_cons_zero]
  refine callG 3 (some 13) (by kernel_rfl) rfl rfl (by rfl) 38 _ _ [.slice bo M dap] rfl rfl (fun _ _ => by simp [go_sem]) (J2.out w4 (KD.trans k4)) ?_
  rintro e w5 ⟨vq, cq, rfl, rq5, _, k5⟩
  have hS5 : w5.cell? ⟨bP, 0, none⟩ = some (.slice ao L cap) ∧ w5.cell? ⟨bQ, 0, none⟩ = some (.slice bo M dap) := ⟨k5.cellN hS4.1, k5.cellN hS4.2⟩
  refine .inl ⟨_, rfl, hS5, ?_⟩
  simp only [Act.put, List.setIfInBounds_toArray, List.set_cons_succ, List.set_cons_zero]
  refine takeH 4 (some 4) (.slice vp np cp) rfl rfl (by kernel_rfl) (by kernel_rfl) (by kernel_rfl) (fun _ _ _ h => h) (.inl ⟨by rfl, fun w h => by simp [execOp, go_sem]⟩) hS5 ?_
  simp only [Act.put, List.setIfInBounds_toArray, List.set_cons_succ, List.set_cons_zero]
  refine takeH 5 (some 5) (.slice vq nq cq) rfl rfl (by kernel_rfl) (by kernel_rfl) (by kernel_rfl) (fun _ _ _ h => h) (.inl ⟨by rfl, fun w h => by simp [execOp, go_sem]⟩) hS5 ?_
  simp only [Act.put, List.setIfInBounds_toArray, List.set_cons_succ, List.set_cons_zero]
  refine wpAnyH_done (by kernel_rfl) ?_ _
  have HK5 := toHid ((KD.trans k4).trans k5)
  have HP5 := toHid (rp4.grew k5)
  have HQ5 := toHid rq5
  have J5 := JMul.out w5 vp cp vq cq HP5.out HQ5.out
  clear J1 J2 KD k4 k5 rp4 rq5 hS hS4 hS5 JMul b0 b1
  go_wp2_with fail
  refine J5.mono ?_
  rintro e6 w6 ⟨vm, cm, rfl, hr6, k6⟩
  have J6 := JN.out w6 vm cm hr6
  clear J5 hr6 JN
  go_wp2_with fail
  refine J6.mono ?_
  rintro e6 w7 ⟨vn, cn, rfl, hr7, hf7, k7⟩
  have HK7 := toHid (HK5.out.trans (k6.trans k7))
  have HP7 := toHid (HP5.out.grew (k6.trans k7))
  have HQ7 := toHid (HQ5.out.grew (k6.trans k7))
  have HN7 := toHid hr7
  have HF7 := toHid (hf7.after (HK5.out.trans k6))
  have J7 := JPub.out w7 vn cn hr7
  have c7 := HK7.out.cellN b2
  clear J6 hr7 hf7 k6 k7 HK5 HP5 HQ5 JPub
  go_wp2_with fail
  refine J7.mono ?_
  rintro e6 w8 ⟨rfl, k8⟩
  have HK8 := toHid (HK7.out.trans k8)
  have HP8 := toHid (HP7.out.grew k8)
  have HQ8 := toHid (HQ7.out.grew k8)
  have HN8 := toHid (HN7.out.grew k8)
  clear J7 k8 HK7 HP7 HQ7 HN7
  go_wp2_with fail
  refine (hR _).mono ?_
  rintro e6 w9 ⟨rfl, rfl⟩
  have J9 := JI.out w9 vq cq vp cp HQ8.out HP8.out
  clear hR JI
  go_wp2_with fail
  refine J9.mono ?_
  rintro e6 w10 ⟨vi, ci, T, rfl, HT, hr10, k10⟩
  have HK10 := toHid (HK8.out.trans k10)
  have HP10 := toHid (HP8.out.grew k10)
  have HQ10 := toHid (HQ8.out.grew k10)
  have HN10 := toHid (HN8.out.grew k10)
  have HI10 := toHid hr10
  have KD10 : Kept Nought w10 w10.drew := (Kept.refl Nought w10).drew
  have c10 := HK10.out.cellN b2
  clear J9 hr10 k10 HK8 HP8 HQ8 HN8 c7
  go_wp2_with fail
  refine wp_region_held_drew (S := fun w' => w'.cell? ⟨bE, 0, none⟩ = some (.int .u64 (e : Int))) (by kernel_rfl) c10 (fun hS => ?_)
  refine takeH 0 (some 26) (.int .u64 (e : Int)) rfl rfl (by kernel_rfl) (by kernel_rfl) (by kernel_rfl) (fun _ _ _ h => h) (.inl ⟨by rfl, fun w h => by simp [execOp, go_sem, h]⟩) hS ?_
  simp only [Act.put, List.setIfInBounds_toArray, List.set_cons_succ, List.set_cons_zero]
  refine takeH 1 (some 27) (.slice vp np cp) rfl rfl (by kernel_rfl) (by kernel_rfl) (by kernel_rfl) (fun _ _ _ h => h) (.inl ⟨by rfl, fun w h => by simp [execOp, go_sem]⟩) hS ?_
  simp only [Act.put, List.setIfInBounds_toArray, List.set_cons_succ, List.set_cons_zero]
  refine takeH 2 (some 28) (.slice vq nq cq) rfl rfl (by kernel_rfl) (by kernel_rfl) (by kernel_rfl) (fun _ _ _ h => h) (.inl ⟨by rfl, fun w h => by simp [execOp, go_sem]⟩) hS ?_
  simp only [Act.put, List.setIfInBounds_toArray, List.set_cons_succ, List.set_cons_zero]
  refine callG 3 (some 29) (by kernel_rfl) rfl rfl (by rfl) 18 _ _ [.slice vp np cp, .slice vq nq cq] rfl rfl (fun _ _ => by simp [go_sem]) (JCom.out _ vp cp vq cq (HP10.out.grew KD10) (HQ10.out.grew KD10)) ?_
  rintro e6 w11 ⟨vc, cc, rfl, hr11, k11⟩
  have hS11 := k11.cellN hS
  refine .inl ⟨_, rfl, hS11, ?_⟩
  simp only [Act.put, List.setIfInBounds_toArray, List.set_cons_succ, List.set_cons_zero]
  refine takeH 4 (some 30) (.slice vc nc cc) rfl rfl (by kernel_rfl) (by kernel_rfl) (by kernel_rfl) (fun _ _ _ h => h) (.inl ⟨by rfl, fun w h => by simp [execOp, go_sem]⟩) hS11 ?_
  simp only [Act.put, List.setIfInBounds_toArray, List.set_cons_succ, List.set_cons_zero]
  refine takeH 5 (some 31) (.int .i64 0) rfl rfl (by kernel_rfl) (by kernel_rfl) (by kernel_rfl) (fun _ _ _ h => h) (.inl ⟨by rfl, fun w h => by simp [execOp, go_sem]⟩) hS11 ?_
  simp only [Act.put, List.setIfInBounds_toArray, List.set_cons_succ, List.set_cons_zero]
  refine callG 6 (some 32) (by kernel_rfl) rfl rfl (by rfl) 43 _ _ [.slice vc nc cc, .int .i64 0] rfl rfl (fun _ _ => by simp [go_sem]) (hST vc nc cc w11) ?_
  rintro e6 w12 ⟨rfl, hw12⟩
  subst hw12
  refine .inl ⟨_, rfl, hS11, ?_⟩
  simp only [Act.put, List.setIfInBounds_toArray, List.set_cons_succ, List.set_cons_zero]
  refine callG 7 (some 33) (by kernel_rfl) rfl rfl (by rfl) 42 _ _ [.int .u64 (e : Int), .slice vc nc cc] rfl rfl (fun _ _ => by simp [go_sem]) (JX.out _ vc cc hr11) ?_
  rintro e6 w13 ⟨rfl, k13⟩
  exact .inr ⟨_, rfl, rfl, .no hN ((HK10.out.trans (KD10.trans k11)).trans k13)⟩

end Go.Proofs.YtiljkgoafknefaaGreat

