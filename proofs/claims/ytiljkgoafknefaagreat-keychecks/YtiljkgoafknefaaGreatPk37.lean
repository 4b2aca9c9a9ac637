/- Put together of: Kex4 Kex5. -/
import Derived.Test.YtiljkgoafknefaaGreatPk8
import Derived.Test.YtiljkgoafknefaaGreatPk35
import Derived.Test.YtiljkgoafknefaaGreatPk36
import Derived.Deep.RegionHeld3

/- Package key: exponent; Common. (written by wip/gen/kex4.py) -/
namespace Go.Proofs.YtiljkgoafknefaaGreat
open Go.RowKit

/-- The exponent's inverse, by the other one's. -/
theorem exp_num {C e T : Nat} (h2 : 2 ≤ C) (h3 : 3 ≤ e) (hT : T < e) (hi : C * T % e = 1) : (1 + C * (e - T)) / e < C ∧ e * ((1 + C * (e - T)) / e) % C = 1 := by
  have h0 : 1 ≤ T := by
    rcases Nat.eq_zero_or_pos T with h | h
    · subst h
      rw [Nat.mul_zero, Nat.zero_mod] at hi
      exact absurd hi (by decide)
    · exact h
  have hs : C * (e - T) = C * e - C * T := Nat.mul_sub ..
  have hle : C * T ≤ C * e := Nat.mul_le_mul_left _ (by omega)
  have hdm := Nat.div_add_mod (C * T) e
  rw [hi] at hdm
  have hq : C * T / e < C := by
    rw [Nat.div_lt_iff_lt_mul (by omega)]
    exact Nat.mul_lt_mul_of_pos_left hT (by omega)
  have hall : 1 + C * (e - T) = e * (C - C * T / e) := by
    rw [hs, Nat.mul_sub, Nat.mul_comm e C]
    omega
  have hd : (1 + C * (e - T)) / e = C - C * T / e := by rw [hall, Nat.mul_div_cancel_left _ (by omega)]
  have hC : C * 1 ≤ C * T := Nat.mul_le_mul_left _ h0
  rw [hd]
  refine ⟨?_, ?_⟩
  · have hp : 0 < C * T / e := by
      rcases Nat.eq_zero_or_pos (C * T / e) with h | h
      · rw [h] at hdm
        omega
      · exact h
    omega
  · rw [← hall, Nat.add_mul_mod_self_left, Nat.mod_eq_of_lt (by omega)]

theorem words_single {e : Nat} (h0 : e ≠ 0) (he : e < 18446744073709551616) : wordsN e = 1 := by
  have h1 := (wordsN_le e 1).2 (by rw [Nat.pow_one]; exact he)
  have h2 : ¬ wordsN e ≤ 0 := fun h => by
    have := (wordsN_le e 0).1 h
    rw [Nat.pow_zero] at this
    omega
  omega

set_option maxRecDepth 20000 in
set_option maxHeartbeats 4000000 in
/-- exponent, where there is none. -/
theorem kExpBad (co : Option Addr) (L cap : Nat) (cs : List Nat) (C e : Nat) (hC : C = val 18446744073709551616 cs) (h3 : 3 ≤ e) (heo : e % 2 = 1) (heb : e < 18446744073709551616) (hL : L ≤ 299) (hg : Nat.gcd C e ≠ 1) (w : World) (hu : Row .u64 w (.slice co L cap) cs) (hd : Digs 18446744073709551616 cs) :
    Calls Tryz.prog 42 #[.int .u64 (e : Nat), .slice co L cap] w fun r w' => r = .panicked [refusal 190] ∧ Kept Nought w w' := by
  obtain ⟨_, _, _, e1, hl, -, -, -, -⟩ := hu.open
  cases e1
  have hw1 : wordsN e = 1 := words_single (by omega) heb
  have JW := kWord e heb w
  have J1 : Hid (∀ W zo zc, Kept Nought w W → Row .u64 W (.slice zo 1 zc) [e] → Calls Tryz.prog 41 #[.slice co L cap, .slice zo 1 zc] W fun r w' => r = .panicked [refusal 190] ∧ Kept Nought W w') := fun W zo zc k hr => kInvBad co zo L 1 cap zc cs [e] C e hC (val_single e).symm (by omega) heo hw1.symm (by omega) (by omega) hg W (hu.grew k) hr hd (Digs.one heb)
  clear hu hd hl hC h3 heo heb hL hg hw1
  go_enter Tryz.func42, Tryz.ntmps42
  go_wp2_with fail
  refine JW.mono ?_
  rintro r w1 ⟨zo, zc, rfl, hr, k1⟩
  have J2 := J1.out w1 zo zc k1 hr
  clear JW hr
  go_wp2_with fail
  refine J2.mono ?_
  rintro r w2 ⟨rfl, k2⟩
  exact ⟨rfl, rfl, k1.trans k2⟩

set_option maxRecDepth 20000 in
set_option maxHeartbeats 2000000 in
/-- What Common attempts, where a number is below 2. -/
theorem kCom1Bad (bP bQ bO : Nat) (ao bo : Option Addr) (L M cap dap : Nat) (xs ys : List Nat) (P Q : Nat) (hP : P = val 18446744073709551616 xs) (hQ : Q = val 18446744073709551616 ys) (hno : P < 2 ∨ Q < 2) (w : World) (hu : Row .u64 w (.slice ao L cap) xs) (hv : Row .u64 w (.slice bo M dap) ys) (hdx : Digs 18446744073709551616 xs) (hdy : Digs 18446744073709551616 ys) (b0 : w.cell? ⟨bP, 0, none⟩ = some (.slice ao L cap)) (b1 : w.cell? ⟨bQ, 0, none⟩ = some (.slice bo M dap)) :
    Calls Tryz.prog 56 #[.pointer (some ⟨bP, 0, none⟩), .pointer (some ⟨bQ, 0, none⟩), .pointer (some ⟨bO, 0, none⟩)] w fun e w' => e = .panicked [refusal 1] ∧ Kept Nought w w' := by
  have hY := kRefuseYes 1
  have JP := kBelow ao L cap xs 2 (by omega) (decide (P < 2)) (by rw [hP]) w hu hdx
  have JQ : Hid (∀ W, Kept Nought w W → Calls Tryz.prog 57 #[.slice bo M dap, .int .u64 2] W fun e w' => e = .returned (.bool (decide (Q < 2))) ∧ Kept Nought W w') := fun W k => kBelow bo M dap ys 2 (by omega) (decide (Q < 2)) (by rw [hQ]) W (hv.grew k) hdy
  clear hu hv hdx hdy hP hQ
  by_cases h1 : P < 2
  · rw [decide_eq_true h1] at JP
    clear hno h1 JQ
    go_enter Tryz.func56, Tryz.ntmps56
    go_wp2_with fail
    refine JP.mono ?_
    rintro e w1 ⟨rfl, k1⟩
    have HK1 := toHid k1
    clear JP k1
    go_wp2_with fail
    refine (hY _).mono ?_
    rintro e w2 ⟨rfl, rfl⟩
    exact ⟨rfl, rfl, HK1.out⟩
  · rw [decide_eq_false h1] at JP
    rw [decide_eq_true (hno.resolve_left h1)] at JQ
    clear hno h1
    go_enter Tryz.func56, Tryz.ntmps56
    go_wp2_with fail
    refine JP.mono ?_
    rintro e w1 ⟨rfl, k1⟩
    have HK1 := toHid k1
    have b2 := k1.cellN b1
    have J2 := JQ.out _ k1
    clear JP k1 b1 b0
    go_wp2_with fail
    refine J2.mono ?_
    rintro e w2 ⟨rfl, k2⟩
    have HK2 := toHid (HK1.out.trans k2)
    clear J2 k2 b2
    go_wp2_with fail
    refine (hY _).mono ?_
    rintro e w3 ⟨rfl, rfl⟩
    exact ⟨rfl, rfl, HK2.out⟩

theorem com_fits {P Q L M : Nat} (hP : P < 18446744073709551616 ^ L) (hQ : Q < 18446744073709551616 ^ M) (hP2 : 2 ≤ P) (hQ2 : 2 ≤ Q) : comN P Q < 18446744073709551616 ^ (L + M) := by
  unfold comN
  rw [Nat.pow_add]
  have h1 : (P - 1) / Nat.gcd (P - 1) (Q - 1) ≤ P - 1 := Nat.div_le_self _ _
  exact Nat.mul_lt_mul_of_lt_of_lt (by omega) (by omega)

set_option maxRecDepth 20000 in
set_option maxHeartbeats 4000000 in
/-- What Common attempts, where both numbers are 2 or more. -/
theorem kCom1 (bP bQ bO : Nat) (ao bo : Option Addr) (L M cap dap : Nat) (xs ys : List Nat) (P Q C n : Nat) (hP : P = val 18446744073709551616 xs) (hQ : Q = val 18446744073709551616 ys) (hP2 : 2 ≤ P) (hQ2 : 2 ≤ Q) (hC : C = comN P Q) (hn : n = wordsN C) (hL : L ≤ 130) (hM : M ≤ 130) (w : World) (hu : Row .u64 w (.slice ao L cap) xs) (hv : Row .u64 w (.slice bo M dap) ys) (hdx : Digs 18446744073709551616 xs) (hdy : Digs 18446744073709551616 ys) (b0 : w.cell? ⟨bP, 0, none⟩ = some (.slice ao L cap)) (b1 : w.cell? ⟨bQ, 0, none⟩ = some (.slice bo M dap)) (b2 : Box w bO (.slice none 0 0) 23) :
    Calls Tryz.prog 56 #[.pointer (some ⟨bP, 0, none⟩), .pointer (some ⟨bQ, 0, none⟩), .pointer (some ⟨bO, 0, none⟩)] w fun e w' => e = .returned (.tuple #[]) ∧ ∃ vo vc, Row .u64 w' (.slice vo n vc) (digs 18446744073709551616 C n) ∧ Fresh w (.slice vo n vc) ∧ Box w' bO (.slice vo n vc) 23 ∧ Kept (fun b => b = bO) w w' := by
  obtain ⟨_, _, _, e1, hlx, -, -, -, -⟩ := hu.open
  cases e1
  obtain ⟨_, _, _, e1, hly, -, -, -, -⟩ := hv.open
  cases e1
  have hR := fun z => kRefuseNo z
  have hPl : P < 18446744073709551616 ^ L := by rw [hP, ← hlx.out]; exact val_lt (by omega) hdx
  have hQl : Q < 18446744073709551616 ^ M := by rw [hQ, ← hly.out]; exact val_lt (by omega) hdy
  have hCl : C < 18446744073709551616 ^ (L + M) := by rw [hC]; exact com_fits hPl hQl hP2 hQ2
  have hnl : n ≤ L + M := by rw [hn]; exact (wordsN_le _ _).2 hCl
  have JP := kBelow ao L cap xs 2 (by omega) false (by symm; exact decide_eq_false (by omega)) w hu hdx
  have JQ : Hid (∀ W, Kept Nought w W → Calls Tryz.prog 57 #[.slice bo M dap, .int .u64 2] W fun e w' => e = .returned (.bool false) ∧ Kept Nought W w') := fun W k => kBelow bo M dap ys 2 (by omega) false (by symm; exact decide_eq_false (by omega)) W (hv.grew k) hdy
  have JA : Hid (∀ W, Kept Nought w W → Calls Tryz.prog 46 #[.slice ao L cap] W fun e w' => ∃ vo vc, e = .returned (.slice vo L vc) ∧ Row .u64 w' (.slice vo L vc) (digs 18446744073709551616 (P - 1) L) ∧ Kept Nought W w') := fun W k => kLess ao L cap xs P hP (by omega) hlx.out (by omega) W (hu.grew k) hdx
  have JB : Hid (∀ W, Kept Nought w W → Calls Tryz.prog 46 #[.slice bo M dap] W fun e w' => ∃ vo vc, e = .returned (.slice vo M vc) ∧ Row .u64 w' (.slice vo M vc) (digs 18446744073709551616 (Q - 1) M) ∧ Kept Nought W w') := fun W k => kLess bo M dap ys Q hQ (by omega) hly.out (by omega) W (hv.grew k) hdy
  have vA : val 18446744073709551616 (digs 18446744073709551616 (P - 1) L) = P - 1 := by rw [val_digs, Nat.mod_eq_of_lt (by omega)]
  have vB : val 18446744073709551616 (digs 18446744073709551616 (Q - 1) M) = Q - 1 := by rw [val_digs, Nat.mod_eq_of_lt (by omega)]
  obtain ⟨G, hG⟩ : ∃ G, G = Nat.gcd (P - 1) (Q - 1) := ⟨_, rfl⟩
  have hG0 : 0 < G := by rw [hG]; exact Nat.gcd_pos_of_pos_left _ (by omega)
  have hGl : G < 18446744073709551616 ^ max L M := by
    have h1 : G ≤ P - 1 := by rw [hG]; exact Nat.gcd_le_left _ (by omega)
    have h2 : 18446744073709551616 ^ L ≤ 18446744073709551616 ^ max L M := Nat.pow_le_pow_right (by omega) (by omega)
    omega
  have vG : val 18446744073709551616 (digs 18446744073709551616 G (max L M)) = G := by rw [val_digs, Nat.mod_eq_of_lt hGl]
  have JD : Hid (∀ W va vb ca cb, Row .u64 W (.slice va L ca) (digs 18446744073709551616 (P - 1) L) → Row .u64 W (.slice vb M cb) (digs 18446744073709551616 (Q - 1) M) → Calls Tryz.prog 58 #[.slice va L ca, .slice vb M cb] W fun e w' => ∃ vo vc, e = .returned (.tuple #[.slice vo (max L M) vc, .int .i64 0]) ∧ Row .u64 w' (.slice vo (max L M) vc) (digs 18446744073709551616 G (max L M)) ∧ Kept Nought W w') := fun W va vb ca cb h1 h2 => by
    refine (iDivisor va vb L M ca cb _ _ 0 (by rw [if_pos]; unfold okLen; simp; omega) _ (by rw [if_pos rfl]) W h1 h2 (digs_digs (by omega) _ _) (digs_digs (by omega) _ _)).mono ?_
    rintro e w' ⟨v', rfl, hr, k⟩
    rw [vA, vB, ← hG] at hr
    obtain ⟨vo, vn, vc, rfl, hl, _, _, _, _⟩ := hr.open
    obtain rfl : max L M = vn := by rw [← hl.out, digs_length]
    exact ⟨_, _, rfl, hr, k⟩
  have JQu : Hid (∀ W va ca vg cg, Row .u64 W (.slice va L ca) (digs 18446744073709551616 (P - 1) L) → Row .u64 W (.slice vg (max L M) cg) (digs 18446744073709551616 G (max L M)) → Calls Tryz.prog 59 #[.slice va L ca, .slice vg (max L M) cg] W fun e w' => ∃ vo vc, e = .returned (.slice vo L vc) ∧ Row .u64 w' (.slice vo L vc) (digs 18446744073709551616 ((P - 1) / G) L) ∧ Kept Nought W w') := fun W va ca vg cg h1 h2 => kQuo va vg L (max L M) ca cg _ _ (P - 1) G vA.symm vG.symm hG0 (by omega) (by omega) W h1 h2 (digs_digs (by omega) _ _) (digs_digs (by omega) _ _)
  have hq : (P - 1) / G < 18446744073709551616 ^ L := Nat.lt_of_le_of_lt (Nat.div_le_self _ _) (by omega)
  have vQ : val 18446744073709551616 (digs 18446744073709551616 ((P - 1) / G) L) = (P - 1) / G := by rw [val_digs, Nat.mod_eq_of_lt hq]
  have hCe : (P - 1) / G * (Q - 1) = C := by rw [hC, comN, hG]
  have JMul : Hid (∀ W va ca vb cb, Row .u64 W (.slice va L ca) (digs 18446744073709551616 ((P - 1) / G) L) → Row .u64 W (.slice vb M cb) (digs 18446744073709551616 (Q - 1) M) → Calls Tryz.prog 40 #[.pointer none, .slice va L ca, .slice vb M cb] W fun e w' => ∃ vo vc, e = .returned (.slice vo (L + M) vc) ∧ Row .u64 w' (.slice vo (L + M) vc) (digs 18446744073709551616 C (L + M)) ∧ Kept Nought W w') := fun W va ca vb cb h1 h2 => by
    refine (mul0 va vb L M ca cb _ _ W h1 h2 (digs_digs (by omega) _ _) (digs_digs (by omega) _ _)).mono ?_
    rintro e w' ⟨v', rfl, hr, k⟩
    rw [vQ, vB] at hr
    unfold mulAns at hr
    rw [if_pos (by omega), hCe] at hr
    obtain ⟨vo, vn, vc, rfl, hl, _, _, _, _⟩ := hr.open
    obtain rfl : L + M = vn := by rw [← hl.out, digs_length]
    exact ⟨_, _, rfl, hr, k⟩
  have JN : Hid (∀ W v c, Row .u64 W (.slice v (L + M) c) (digs 18446744073709551616 C (L + M)) → Calls Tryz.prog 39 #[.slice v (L + M) c] W fun e w' => ∃ vo vc, e = .returned (.slice vo n vc) ∧ Row .u64 w' (.slice vo n vc) (digs 18446744073709551616 C n) ∧ Fresh W (.slice vo n vc) ∧ Kept Nought W w') := fun W v c h => kNeed v (L + M) c _ C n (by rw [val_digs, Nat.mod_eq_of_lt hCl]) hn (by omega) W h (digs_digs (by omega) _ _) (by rw [digs_length]; omega)
  have hmax : max (L : Int) (M : Int) = ((max L M : Nat) : Int) := by omega
  have g1 : ¬ ((max L M : Nat) : Int) > 130 := by omega
  have g1' : ¬ (130 : Int) < ((max L M : Nat) : Int) := by omega
  have d1 : decide ((130 : Int) < ((max L M : Nat) : Int)) = false := decide_eq_false g1'
  have hS := fun v n c W => kStepN v n c W
  have HB2 := toHid b2
  have hmb : max L M ≤ 130 := by omega
  generalize max L M = m at *
  clear hu hv hdx hdy hP hQ hP2 hQ2 hC hn hPl hQl hCl hnl hG hG0 hGl vA vB vG hq vQ hCe hlx hly b2
  go_enter Tryz.func56, Tryz.ntmps56
  go_wp2_with fail
  refine JP.mono ?_
  rintro e w1 ⟨rfl, k1⟩
  have HK1 := toHid k1
  have c0 := k1.cellN b0
  have c1 := k1.cellN b1
  have J2 := JQ.out _ k1
  clear JP k1 b1 b0 JQ
  go_wp2_with fail
  refine J2.mono ?_
  rintro e w2 ⟨rfl, k2⟩
  have HK2 := toHid (HK1.out.trans k2)
  have e0 := k2.cellN c0
  have e1 := k2.cellN c1
  clear J2 k2 c0 c1 HK1
  go_wp2_with fail
  refine (hR _ _).mono ?_
  rintro e w3 ⟨rfl, rfl⟩
  go_wp2_with fail
  try rw [d1]
  refine (hR _ _).mono ?_
  rintro e w3 ⟨rfl, rfl⟩
  clear hR g1 g1' d1 hmax
  have HC : Hid (∀ W, Kept Nought w3 W → W.cell? ⟨bP, 0, none⟩ = some (.slice ao L cap) ∧ W.cell? ⟨bQ, 0, none⟩ = some (.slice bo M dap)) := fun W k => ⟨k.cellN e0, k.cellN e1⟩
  go_wp2_with fail
  have KD : Kept Nought w3 w3.drew := (Kept.refl Nought w3).drew
  have JA1 := JA.out _ (HK2.out.trans KD)
  go_region_held3 (fun w' => w'.cell? ⟨bP, 0, none⟩ = some (.slice ao L cap) ∧ w'.cell? ⟨bQ, 0, none⟩ = some (.slice bo M dap))
    (((try dsimp only); (repeat' apply And.intro) <;> first | (go_keep; done) | assumption))
    (first
    | (go_at_call 46; refine (JB.out _ (HK2.out.trans KD4)).mono ?_; rintro e w5 ⟨vb, cb, rfl, hr5, k5⟩; obtain ⟨c0'', c1''⟩ := HC.out _ (KD4.trans k5))
    | (go_at_call 46; refine JA1.mono ?_; rintro e w4 ⟨va, ca, rfl, hr4, k4⟩; have KD4 := KD.trans k4; obtain ⟨c0', c1'⟩ := HC.out _ KD4))
  have HRa := toHid (hr4.grew k5)
  have HRb := toHid hr5
  have HK5 := toHid (HK2.out.trans (KD4.trans k5))
  have J5 := JD.out w5 va vb ca cb HRa.out HRb.out
  clear JA1 JA JB KD KD4 k4 k5 hr4 hr5 HC c0' c1' c0'' c1'' e0 e1 JD HK2
  go_wp2_with fail
  refine J5.mono ?_
  rintro e w6 ⟨vg, cg, rfl, hr6, k6⟩
  have J6 := hS vg m cg w6
  have HRg := toHid hr6
  have HK6 := toHid (HK5.out.trans k6)
  have HRa6 := toHid (HRa.out.grew k6)
  have HRb6 := toHid (HRb.out.grew k6)
  clear J5 hr6 k6 HRa HRb
  go_wp2_with fail
  refine J6.mono ?_
  rintro e w7 ⟨rfl, rfl⟩
  have J7 := JQu.out w7 va ca vg cg HRa6.out HRg.out
  clear J6 hS
  go_wp2_with fail
  refine J7.mono ?_
  rintro e w8 ⟨vq, cq, rfl, hr8, k8⟩
  have J8 := JMul.out w8 vq cq vb cb hr8 (HRb6.out.grew k8)
  have HK8 := toHid (HK6.out.trans k8)
  clear J7 hr8 k8 HRa6 HRb6 HRg JQu
  go_wp2_with fail
  refine J8.mono ?_
  rintro e w9 ⟨vm, cm, rfl, hr9, k9⟩
  have J9 := JN.out w9 vm cm hr9
  have HK9 := toHid (HK8.out.trans k9)
  clear J8 hr9 k9 JMul
  go_wp2_with fail
  refine J9.mono ?_
  rintro e w10 ⟨vo, vc, rfl, hr10, hf10, k10⟩
  have kk := HK9.out.trans k10
  have hx := HB2.out.grew kk
  have cx := hx.cell
  have fx := hx.free
  have hfr : Fresh w (.slice vo n vc) := hf10.after HK9.out
  have HR := toHid (hr10.kept (kept_box w10 bO (.slice vo n vc)) (fun b hb e => by have h1 := hfr b hb; have h2 := HB2.out.lt; omega))
  have HX := toHid (hx.set (.slice vo n vc))
  have HF := toHid hfr
  have HK : Hid (Kept (fun b => b = bO) w (w10.setCell ⟨bO, 0, none⟩ (.slice vo n vc))) := kk.any.trans (kept_box w10 bO _)
  clear J9 hr10 hf10 k10 kk hx hfr JN
  go_wp2_with fail
  go_end0
  exact ⟨rfl, vo, vc, HR.out, HF.out, HX.out, HK.out⟩

set_option maxRecDepth 20000 in
set_option maxHeartbeats 2000000 in
/-- Common, of numbers of at most 130 words. -/
theorem kCom (ao bo : Option Addr) (L M cap dap : Nat) (xs ys : List Nat) (P Q E : Nat) (RL : List Nat) (hP : P = val 18446744073709551616 xs) (hQ : Q = val 18446744073709551616 ys) (hL : L ≤ 130) (hM : M ≤ 130) (hE : (E = 0 ∧ 2 ≤ P ∧ 2 ≤ Q) ∨ (E = 1 ∧ (P < 2 ∨ Q < 2))) (hRL : RL = if E = 0 then digs 18446744073709551616 (comN P Q) (wordsN (comN P Q)) else []) (w : World) (hu : Row .u64 w (.slice ao L cap) xs) (hv : Row .u64 w (.slice bo M dap) ys) (hdx : Digs 18446744073709551616 xs) (hdy : Digs 18446744073709551616 ys) :
    Calls Tryz.prog 18 #[.slice ao L cap, .slice bo M dap] w fun e w' => ∃ v', e = .returned (.tuple #[v', .int .i64 (E : Nat)]) ∧ Row .u64 w' v' RL ∧ Fresh w v' ∧ Kept Nought w w' := by
  have hmf : ∀ (fn : Fn) (first cap : Array Value) (w : World), (Instr.makeFunc fn first cap).run Tryz.prog w = .ok (.func fn first cap) w := fun _ _ _ _ => rfl
  have hbx := boxes3 w (.slice ao L cap) (.slice bo M dap) (.slice none 0 0) 23 23 23
  have he : ∀ args w, (callFunc 56 args).run Tryz.prog w = .ok (.enter 56 args) w := fun _ _ => by simp [go_sem]
  obtain ⟨W, hW⟩ : ∃ W, W = ((w.alloc (.cells #[.slice ao L cap] 23)).alloc (.cells #[.slice bo M dap] 23)).alloc (.cells #[.slice none 0 0] 23) := ⟨_, rfl⟩
  rw [← hW] at hbx
  obtain ⟨k0, x1, x2, x3, hs⟩ := hbx
  have k1 := k0.alloc (.cells #[.int .i64 0] 27)
  have xe : Box (W.alloc (.cells #[.int .i64 0] 27)) W.heap.size (.int .i64 0) 27 := Box.new W (.int .i64 0) 27
  have hsz : (W.alloc (.cells #[.int .i64 0] 27)).heap.size = W.heap.size + 1 := by simp
  have hAt : Calls Tryz.prog 30 #[.func (.func 56) #[] #[.pointer (some ⟨w.heap.size, 0, none⟩), .pointer (some ⟨w.heap.size + 1, 0, none⟩), .pointer (some ⟨w.heap.size + 1 + 1, 0, none⟩)]] W fun e w' => ∃ n w1, e = .returned (.int .i64 n) ∧ ((n = (E : Nat) ∧ ∃ vo vn vc, Row .u64 w1 (.slice vo vn vc) RL ∧ (∀ b, (Value.slice vo vn vc).ownBlock = some b → W.heap.size + 1 ≤ b) ∧ Box w1 (w.heap.size + 1 + 1) (.slice vo vn vc) 23 ∧ Kept Nought w w1) ∧ w1.heap[W.heap.size]? = some (.cells #[.int .i64 0] 27 (0, 0))) ∧ w' = w1.setCell ⟨W.heap.size, 0, none⟩ (.int .i64 n) := by
    rcases hE with ⟨rfl, h2, h3⟩ | ⟨rfl, hno⟩
    · rw [if_pos rfl] at hRL
      subst hRL
      refine kAttempt _ _ W (fun n W' => n = ((0 : Nat) : Int) ∧ ∃ vo vn vc, Row .u64 W' (.slice vo vn vc) (digs 18446744073709551616 (comN P Q) (wordsN (comN P Q))) ∧ (∀ b, (Value.slice vo vn vc).ownBlock = some b → W.heap.size + 1 ≤ b) ∧ Box W' (w.heap.size + 1 + 1) (.slice vo vn vc) 23 ∧ Kept Nought w W') he ((kCom1 _ _ _ ao bo L M cap dap xs ys P Q _ _ hP hQ h2 h3 rfl rfl hL hM _ (hu.grew k1) (hv.grew k1) hdx hdy (x1.alloc _).cell (x2.alloc _).cell (x3.alloc _)).mono ?_)
      rintro e w' ⟨rfl, vo, vc, hr, hf, hb, hk⟩
      refine ⟨xe.kept hk (by omega), .inl ⟨rfl, rfl, vo, _, vc, hr, fun b hb' => ?_, hb, k1.next hk (fun x hx e => by omega)⟩⟩
      have := hf b hb'
      omega
    · rw [if_neg (by decide)] at hRL
      subst hRL
      refine kAttempt _ _ W (fun n W' => n = ((1 : Nat) : Int) ∧ ∃ vo vn vc, Row .u64 W' (.slice vo vn vc) [] ∧ (∀ b, (Value.slice vo vn vc).ownBlock = some b → W.heap.size + 1 ≤ b) ∧ Box W' (w.heap.size + 1 + 1) (.slice vo vn vc) 23 ∧ Kept Nought w W') he ((kCom1Bad _ _ _ ao bo L M cap dap xs ys P Q hP hQ hno _ (hu.grew k1) (hv.grew k1) hdx hdy (x1.alloc _).cell (x2.alloc _).cell).mono ?_)
      rintro e w' ⟨rfl, hk⟩
      exact ⟨xe.grew hk, .inr ⟨_, rfl, rfl, none, 0, 0, Row.nil _ _, (fun b hb => by cases hb), (x3.alloc _).grew hk, k1.trans hk⟩⟩
  have HW := toHid hW
  have HSZ := toHid hs
  clear hu hv hdx hdy hP hQ hL hM hE hRL k0 k1 x1 x2 x3 xe hs hsz hW he
  go_enter Tryz.func18, Tryz.ntmps18
  go_wp2_with (rw [← HW.out])
  refine hAt.mono ?_
  rintro e w' ⟨n, w1, rfl, ⟨⟨rfl, vo, vn, vc, hr, hnew, hb, hk⟩, hbe⟩, rfl⟩
  have hbx := hb.other ⟨W.heap.size, 0, none⟩ (by show _ ≠ W.heap.size; have := HSZ.out; omega) (.int .i64 (E : Nat))
  have c1 := hbx.cell
  have f1 := hbx.free
  have c3 := (hbx.set (.slice vo vn vc)).cell
  have kb0 : Kept (fun b => b = W.heap.size ∨ b = w.heap.size + 1 + 1) w1 (w1.setCell ⟨W.heap.size, 0, none⟩ (.int .i64 (E : Nat))) := (kept_box w1 W.heap.size _).mono (fun _ _ e => .inl e)
  have kb1 := kb0.next (kept_box _ (w.heap.size + 1 + 1) (.slice vo vn vc)) (fun _ _ e => .inr e)
  have HK := toHid (hk.next kb1 (fun x hx e => by have := HSZ.out; omega))
  have HR := toHid (hr.kept kb1 (fun b hb e => by have h1 := hnew b hb; have := HSZ.out; omega))
  have HF : Hid (Fresh w (.slice vo vn vc)) := fun b hb => by have h1 := hnew b hb; have := HSZ.out; omega
  clear hAt hr hnew hb hk hbe hbx kb0 kb1
  generalize w1.setCell ⟨W.heap.size, 0, none⟩ (.int .i64 (E : Nat)) = W2 at *
  go_wp2_with fail
  refine bodyPost_ret (v := .tuple #[.slice vo vn vc, .int .i64 (E : Nat)]) (by simp [results, Tryz.results18, go_sem, c3]) rfl ?_
  exact ⟨_, rfl, HR.out, HF.out, HK.out⟩

end Go.Proofs.YtiljkgoafknefaaGreat


/- Package key: exponent, where there is one. (written by wip/gen/kex4.py) -/
namespace Go.Proofs.YtiljkgoafknefaaGreat
open Go.RowKit

set_option maxRecDepth 20000 in
set_option maxHeartbeats 4000000 in
/-- exponent. -/
theorem kExp (co : Option Addr) (L cap : Nat) (cs : List Nat) (C e : Nat) (hC : C = val 18446744073709551616 cs) (h2 : 2 ≤ C) (h3 : 3 ≤ e) (heo : e % 2 = 1) (heb : e < 18446744073709551616) (hL : L ≤ 299) (hg : Nat.gcd C e = 1) (w : World) (hu : Row .u64 w (.slice co L cap) cs) (hd : Digs 18446744073709551616 cs) :
    Calls Tryz.prog 42 #[.int .u64 (e : Nat), .slice co L cap] w fun r w' => ∃ vo vc d, r = .returned (.slice vo (L + 1) vc) ∧ Hid (d < C ∧ e * d % C = 1) ∧ Row .u64 w' (.slice vo (L + 1) vc) (digs 18446744073709551616 d (L + 1)) ∧ Kept Nought w w' := by
  obtain ⟨_, _, _, e1, hl, -, -, -, -⟩ := hu.open
  cases e1
  have hw1 : wordsN e = 1 := words_single (by omega) heb
  have JW := kWord e heb w
  obtain ⟨i0, hi0, hz0, hz1, hz2⟩ := info_parts Tryz.info24
  have hL1 : 1 ≤ L := by
    rcases Nat.eq_zero_or_pos L with h | h
    · have h5 := hl.out
      rw [h] at h5
      rw [List.length_eq_zero_iff.1 h5] at hC
      have : val 18446744073709551616 [] = 0 := rfl
      omega
    · exact h
  have hCL : C < 18446744073709551616 ^ L := by rw [hC, ← hl.out]; exact val_lt (by omega) hd
  have J1 : Hid (∀ W zo zc, Kept Nought w W → Row .u64 W (.slice zo 1 zc) [e] → Calls Tryz.prog 41 #[.slice co L cap, .slice zo 1 zc] W fun r w' => ∃ vo vc T, r = .returned (.slice vo 1 vc) ∧ Hid (T < e ∧ C * T % e = 1) ∧ Row .u64 w' (.slice vo 1 vc) (digs 18446744073709551616 T 1) ∧ Kept Nought W w') := fun W zo zc k hr => kInv co zo L 1 cap zc cs [e] C e hC (val_single e).symm (by omega) heo hw1.symm (by omega) (by omega) hg W (hu.grew k) hr hd (Digs.one heb)
  have JM : Hid (∀ W zo zc S, S < 18446744073709551616 → Kept Nought w W → Row .u64 W (.slice zo 1 zc) [1] → Calls Tryz.prog 76 #[.pointer none, .slice co L cap, .int .u64 (S : Nat), .slice zo 1 zc] W fun r w' => ∃ vo vc, r = .returned (.tuple #[.slice vo L vc, .int .u64 (((1 + C * S) / 18446744073709551616 ^ L : Nat) : Int)]) ∧ OwnN .u64 24 w' W.heap.size (.slice vo L vc) L (digs 18446744073709551616 (1 + C * S) L) ∧ Kept Nought W w') := fun W zo zc S hS k hr => by
    have hm : max L 1 = L := by omega
    have h := pMulWordF none co zo L 1 cap zc cs [1] S hS ((1 + C * S) / 18446744073709551616 ^ L) (by rw [val_single, ← hC]; unfold mwTop; rw [if_pos (by omega), hm]) W (TrRoom.none W 300 (by omega)) (RowT.none (hu.grew k)) (RowT.none hr) hd (Digs.one (by omega))
    rw [val_single, ← hC, hm] at h
    refine h.mono ?_
    rintro r w' ⟨v', rfl, _, ho, o', hdid⟩
    have ho := ho (by omega)
    obtain ⟨vo, vc, rfl⟩ := own_slice ho
    exact ⟨vo, vc, rfl, ho, hdid.none.2⟩
  have JQ : Hid (∀ W S vo vc zo zc, S < e → Row .u64 W (.slice vo (L + 1) vc) (digs 18446744073709551616 (1 + C * S) L ++ [(1 + C * S) / 18446744073709551616 ^ L]) → Row .u64 W (.slice zo 1 zc) [e] → Calls Tryz.prog 59 #[.slice vo (L + 1) vc, .slice zo 1 zc] W fun r w' => ∃ qo qc, r = .returned (.slice qo (L + 1) qc) ∧ Row .u64 w' (.slice qo (L + 1) qc) (digs 18446744073709551616 ((1 + C * S) / e) (L + 1)) ∧ Kept Nought W w') := fun W S vo vc zo zc hS h1 h4 => by
    have hlt : 1 + C * S < 18446744073709551616 ^ L * 18446744073709551616 := by
      have a1 : C * S + 1 ≤ C * e := by
        have := Nat.mul_le_mul_left C (show S + 1 ≤ e by omega)
        rw [Nat.mul_add, Nat.mul_one] at this
        omega
      have a2 : C * e < 18446744073709551616 ^ L * 18446744073709551616 := Nat.mul_lt_mul_of_lt_of_lt hCL heb
      omega
    have hc : (1 + C * S) / 18446744073709551616 ^ L < 18446744073709551616 := Nat.div_lt_of_lt_mul hlt
    refine kQuo vo zo (L + 1) 1 vc zc (digs 18446744073709551616 (1 + C * S) L ++ [(1 + C * S) / 18446744073709551616 ^ L]) [e] (1 + C * S) e ?_ (val_single e).symm (by omega) (by omega) (by omega) W h1 h4 ((digs_digs (by omega) _ _).append (Digs.one hc)) (Digs.one heb)
    rw [val_snoc, val_digs, digs_length, Nat.mod_add_div]
  have JE := fun W => kWord e heb W
  have J0 := fun W => kWord 1 (by omega) W
  have HN : Hid (∀ T, T < e → C * T % e = 1 → (1 + C * (e - T)) / e < C ∧ e * ((1 + C * (e - T)) / e) % C = 1) := fun T h h' => exp_num h2 h3 h h'
  clear hu hd hl hC h2 heo hg hw1 hCL
  go_enter Tryz.func42, Tryz.ntmps42
  go_wp2_with fail
  refine JW.mono ?_
  rintro r w1 ⟨zo, zc, rfl, hr, k1⟩
  have J2 := J1.out w1 zo zc k1 hr
  clear JW hr J1
  go_wp2_with fail
  refine J2.mono ?_
  rintro r w2 ⟨ao2, tc, T, rfl, HT, hr2, k2⟩
  have hTe := HT.out.1
  rw [digs_single (by omega)] at hr2
  obtain ⟨_, _, _, e1, _, _, _, _, hnum⟩ := hr2.open
  cases e1
  obtain ⟨b, off, rfl, c0⟩ := hnum 0 (by omega)
  have c0' : w2.cell? ⟨b, off, none⟩ = some (.int .u64 (T : Nat)) := c0
  obtain ⟨S, hS⟩ : ∃ S, S = e - T := ⟨_, rfl⟩
  have HSe : Hid (S < e) := by
    unfold Hid
    rcases Nat.eq_zero_or_pos T with h | h
    · have h9 := HT.out.2
      subst h
      rw [Nat.mul_zero, Nat.zero_mod] at h9
      exact absurd h9 (by decide)
    · omega
  have HF : Hid ((1 + C * S) / e < C ∧ e * ((1 + C * S) / e) % C = 1) := by rw [hS]; exact HN.out T hTe HT.out.2
  have HK2 := toHid (k1.trans k2)
  have gs : IntKind.u64.wrap ((e : Int) - (T : Int)) = (S : Int) := by rw [IntKind.wrap_u64]; omega
  have hW := J0 w2
  have hTe' : (T : Int) ≤ (e : Int) := by omega
  clear J2 hr2 k1 k2 c0 hnum hS HN HT J0
  go_wp2_with fail
  refine hW.mono ?_
  rintro r w3 ⟨yo, yc, rfl, hr3, k3⟩
  have HK3 := toHid (HK2.out.trans k3)
  have J3 := JM.out w3 yo yc S (by have := HSe.out; omega) HK3.out hr3
  clear hW k3 hr3 c0'
  go_wp2_with fail
  refine J3.mono ?_
  rintro r w4 ⟨vo, vc, rfl, ho4, k4⟩
  have HK4 := toHid (HK3.out.trans k4)
  have HO4 := toHid ho4
  have HB4 : Hid (w.heap.size ≤ w3.heap.size) := HK3.out.size
  have HB5 : Hid (w3.heap.size ≤ w4.heap.size) := k4.size
  obtain ⟨c, hc⟩ : ∃ c, c = (1 + C * S) / 18446744073709551616 ^ L := ⟨_, rfl⟩
  rw [← hc]
  have HCC := toHid hc
  have hE5 := fun W => JE W
  clear J3 ho4 k4 hc JM
  go_wp2_with (at_builtin; refine wpList_append_own _ rfl _ _ 23 rfl w3.heap.size 24 i0 (.int .u64 0) 1 8 Tryz.underlying23 hi0 hz0 hz1 hz2 rfl (by decide) _ _ _ rfl (World.ownsRow.alloc HO4.out _) ⟨w4.heap.size, 0, none⟩ 1 1 [.int .u64 (c : Nat)] rfl rfl (cell_one_new _ _ _) (by intro u hu; simp at hu; subst hu; rfl) (by unfold maxLen; omega) (by omega) (by have := HB5.out; simp; omega) ?_)
  intro v5 w5 hown hgrow _
  have hown' : OwnN .u64 24 w5 w3.heap.size v5 (L + 1) (digs 18446744073709551616 (1 + C * S) L ++ [c]) := by
    unfold OwnN
    rw [List.map_append]
    exact hown
  have HK5 : Hid (Kept Nought w w5) := (HK4.out.alloc _).grown hgrow (fun k hk hlt => by have h1 := (HO4.out.lt k hk).1; have h2 := HB4.out; omega)
  obtain ⟨vo5, vc5, rfl⟩ := own_slice hown'
  have HR5 := toHid (own_row' hown' (by rw [List.length_append, digs_length]; rfl))
  have J5 := hE5 w5
  clear hown hown' hgrow HO4 HK4 HB4 HB5 hE5
  go_wp2_with fail
  refine J5.mono ?_
  rintro r w6 ⟨zo2, zc2, rfl, hr6, k6⟩
  have J6 := JQ.out w6 S vo5 vc5 zo2 zc2 HSe.out (by rw [← HCC.out]; exact HR5.out.grew k6) hr6
  have HK6 := toHid (HK5.out.trans k6)
  clear J5 hr6 k6
  go_wp2_with fail
  refine J6.mono ?_
  rintro r w7 ⟨qo, qc, rfl, hr7, k7⟩
  have HR7 := toHid hr7
  have HK7 := toHid (HK6.out.trans k7)
  clear J6 hr7 k7
  go_wp2
  go_ret
  exact ⟨_, _, _, rfl, HF.out, HR7.out, HK7.out⟩

end Go.Proofs.YtiljkgoafknefaaGreat

