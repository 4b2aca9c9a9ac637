/- Package key: Check; the landed functions answer as the laws of layer 19 want. (written by wip/gen/kex8.py) -/
import Derived.Test.YtiljkgoafknefaaGreatKex8
namespace Go.Proofs.YtiljkgoafknefaaGreat
open Go.RowKit

set_option maxRecDepth 40000 in
set_option maxHeartbeats 8000000 in
/-- What Check attempts. -/
theorem kChk1 (b : Nat) (s : KS) (l : KL) (E : Nat) (hE : (E = 0 ∧ KeyGood l.n l.d l.p l.q l.dp l.dq l.qi s.en) ∨ (E = 190 ∧ ¬ KeyGood l.n l.d l.p l.q l.dp l.dq l.qi s.en)) (hpl : s.pl ≤ 1000) (hql : s.ql ≤ 1000) (w : World) (hr : s.Rows w l) (hd : l.Digs) (hx : w.heap[b]? = some (.cells s.v 32 (0, 0))) :
    Calls Tryz.prog 53 #[.pointer (some ⟨b, 0, none⟩)] w fun r w' => AttE E r ∧ Kept Nought w w' := by
  obtain ⟨_, _, _, e1, hlp, -, -, -, -⟩ := hr.p.open
  cases e1
  obtain ⟨_, _, _, e1, hlq, -, -, -, -⟩ := hr.q.open
  cases e1
  have hO := (kOf s.po s.qo s.pl s.ql s.pc s.qc l.p l.q _ _ s.en w rfl rfl hr.p hr.q hd.p hd.q hpl hql).mono fun _ _ h => of19 h
  have JC : Hid (∀ W, Kept Nought w W → W.cell? ⟨b, 0, none⟩ = some (.slice s.no s.nl s.nc) ∧ W.cell? ⟨b, 1, none⟩ = some (.int .u64 ((s.en : Nat) : Int)) ∧ W.cell? ⟨b, 2, none⟩ = some (.slice s.dO s.dl s.dc) ∧ W.cell? ⟨b, 3, none⟩ = some (.slice s.po s.pl s.pc) ∧ W.cell? ⟨b, 4, none⟩ = some (.slice s.qo s.ql s.qc) ∧ W.cell? ⟨b, 5, none⟩ = some (.slice s.dpo s.dpl s.dpc) ∧ W.cell? ⟨b, 6, none⟩ = some (.slice s.dqo s.dql s.dqc) ∧ W.cell? ⟨b, 7, none⟩ = some (.slice s.qio s.qil s.qic)) := fun W k => cells8 ((k.block _ (lt_of_block hx) (fun f => f)).trans hx)
  obtain ⟨c0, c1, c2, c3, c4, c5, c6, c7⟩ := JC.out w (Kept.refl _ _)
  have hG : ∀ (E2 en : Nat) (m : KL), KeySays s.pl s.ql (val 18446744073709551616 l.p) (val 18446744073709551616 l.q) s.en E2 en m → (KeyGood l.n l.d l.p l.q l.dp l.dq l.qi s.en ↔ E2 = 0 ∧ l = m) := fun E2 en m hs => by
    constructor
    · rintro ⟨hok, d, u, hrows⟩
      rw [hlp.out, hlq.out] at hok
      have h0 : KeySays s.pl s.ql (val 18446744073709551616 l.p) (val 18446744073709551616 l.q) s.en 0 s.en l := .inl ⟨rfl, hok, rfl, d, u, hrows⟩
      obtain ⟨h1, _, h2⟩ := hs.uniq h0
      exact ⟨h1.symm, h2⟩
    · rintro ⟨rfl, rfl⟩
      rcases hs with ⟨_, hok, rfl, d, u, hrows⟩ | ⟨h, _⟩
      · exact ⟨by rw [hlp.out, hlq.out]; exact hok, d, u, hrows⟩
      · exact absurd h (by decide)
  have HG := toHid hG
  have HE := toHid hE
  have HR := toHid hr
  have HD := toHid hd
  clear hr hd hx hE hlp hlq hG hpl hql
  go_enter Tryz.func53, Tryz.ntmps53
  go_wp2_with fail
  refine hO.mono ?_
  rintro r w1 ⟨t, E2, rfl, m, hr1, hs1, _, k1⟩
  have HS1 := toHid hs1
  have HR1 := toHid hr1
  have HK1 := toHid k1
  clear hO c0 c1 c2 c3 c4 c5 c6 c7 hr1 k1
  unfold KS.v
  rcases hs1 with ⟨rfl, -, -, d, u, hrows⟩ | ⟨rfl, hno, -, -⟩
  · have HLN : Hid (m.n.length ≤ 1000 ∧ m.d.length ≤ 1000 ∧ m.p.length ≤ 1000 ∧ m.q.length ≤ 1000 ∧ m.dp.length ≤ 1000 ∧ m.dq.length ≤ 1000 ∧ m.qi.length ≤ 1000) := by
      obtain ⟨hok⟩ : Nonempty (keyOk s.pl s.ql (val 18446744073709551616 l.p) (val 18446744073709551616 l.q) s.en) := by
        rcases HS1.out with ⟨_, h, _⟩ | ⟨h, _⟩
        · exact ⟨h⟩
        · exact absurd h (by decide)
      obtain ⟨_, _, _, _, a1, a2, a3, a4, a5, a6, a7⟩ := hrows
      have hw1 : wordsN (val 18446744073709551616 l.p) ≤ 128 := words_of_bits (n := 128) (by have := hok.2.1.2.2; omega)
      have hw2 : wordsN (val 18446744073709551616 l.q) ≤ 128 := words_of_bits (n := 128) (by have := hok.2.2.1.2.2; omega)
      have hw3 : (keyWords (val 18446744073709551616 l.p) (val 18446744073709551616 l.q)).length ≤ 1000 := by
        have h := hok.2.2.2.2.1
        unfold pubE at h
        by_cases hc : 1000 < (keyWords (val 18446744073709551616 l.p) (val 18446744073709551616 l.q)).length
        · rw [if_pos (.inr (.inl hc))] at h
          exact absurd h (by decide)
        · omega
      rw [a1, a2, a3, a4, a5, a6, a7]
      simp only [digs_length]
      refine ⟨hw3, hw3, ?_, ?_, ?_, ?_, ?_⟩ <;> exact Nat.max_le.2 ⟨by omega, by omega⟩
    have J2 := kStepK t.no t.dO t.po t.qo t.dpo t.dqo t.qio t.nl t.nc t.en t.dl t.dc t.pl t.pc t.ql t.qc t.dpl t.dpc t.dql t.dqc t.qil t.qic w1
    clear hrows
    go_wp2_with fail
    refine J2.mono ?_
    rintro r w2 ⟨rfl, k2⟩
    obtain ⟨W, hW⟩ : ∃ W, W = w2.alloc (.cells t.v 32) := ⟨_, rfl⟩
    have kW : Kept Nought w2 W := by rw [hW]; exact (Kept.refl Nought w2).alloc _
    have hxW : W.heap[w2.heap.size]? = some (.cells t.v 32 (0, 0)) := by rw [hW]; exact heap_alloc_new _ _
    obtain ⟨d0, d1, d2, d3, d4, d5, d6, d7⟩ := cells8 hxW
    obtain ⟨c0, c1, c2, c3, c4, c5, c6, c7⟩ := JC.out W ((HK1.out.trans k2).trans kW)
    obtain ⟨V, hV⟩ : ∃ V, V = W.alloc (.cells #[.slice s.no s.nl s.nc, .slice t.no t.nl t.nc, .slice s.dO s.dl s.dc, .slice t.dO t.dl t.dc, .slice s.po s.pl s.pc, .slice t.po t.pl t.pc, .slice s.qo s.ql s.qc, .slice t.qo t.ql t.qc, .slice s.dpo s.dpl s.dpc, .slice t.dpo t.dpl t.dpc, .slice s.dqo s.dql s.dqc, .slice t.dqo t.dql t.dqc, .slice s.qio s.qil s.qic, .slice t.qio t.qil t.qic] 77) := ⟨_, rfl⟩
    have kV : Kept Nought W V := by rw [hV]; exact (Kept.refl Nought W).alloc _
    have hxV := heap_alloc_new W (.cells #[.slice s.no s.nl s.nc, .slice t.no t.nl t.nc, .slice s.dO s.dl s.dc, .slice t.dO t.dl t.dc, .slice s.po s.pl s.pc, .slice t.po t.pl t.pc, .slice s.qo s.ql s.qc, .slice t.qo t.ql t.qc, .slice s.dpo s.dpl s.dpc, .slice t.dpo t.dpl t.dpc, .slice s.dqo s.dql s.dqc, .slice t.dqo t.dql t.dqc, .slice s.qio s.qil s.qic, .slice t.qio t.qil t.qic] 77)
    rw [← hV] at hxV
    have HKV := toHid (((HK1.out.trans k2).trans kW).trans kV)
    have kk1 := (k2.trans kW).trans kV
    have hsr := HR.out.grew HKV.out
    have htr := HR1.out.grew kk1
    have htd := HS1.out.digs
    have hsd := HD.out
    obtain ⟨h1, h2, h3, h4, h5, h6, h7⟩ := HLN.out
    obtain ⟨R, hR⟩ : ∃ R : Bool, (R = true ↔ l = m) := by
      by_cases h : l = m
      · exact ⟨true, iff_of_true rfl h⟩
      · exact ⟨false, iff_of_false (by decide) h⟩
    have JA := kAlike W.heap.size 7 (by omega) (fun i => [s.no, s.dO, s.po, s.qo, s.dpo, s.dqo, s.qio].getD i none) (fun i => [t.no, t.dO, t.po, t.qo, t.dpo, t.dqo, t.qio].getD i none) (fun i => [s.nl, s.dl, s.pl, s.ql, s.dpl, s.dql, s.qil].getD i 0) (fun i => [s.nc, s.dc, s.pc, s.qc, s.dpc, s.dqc, s.qic].getD i 0) (fun i => [t.nl, t.dl, t.pl, t.ql, t.dpl, t.dql, t.qil].getD i 0) (fun i => [t.nc, t.dc, t.pc, t.qc, t.dpc, t.dqc, t.qic].getD i 0) (fun i => [l.n, l.d, l.p, l.q, l.dp, l.dq, l.qi].getD i []) (fun i => [m.n, m.d, m.p, m.q, m.dp, m.dq, m.qi].getD i []) V
      (fun i hi => by
        have : i = 0 ∨ i = 1 ∨ i = 2 ∨ i = 3 ∨ i = 4 ∨ i = 5 ∨ i = 6 := by omega
        rcases this with rfl | rfl | rfl | rfl | rfl | rfl | rfl <;> exact ⟨(cell_of_row V _ _ _ _ _ hxV).trans rfl, (cell_of_row V _ _ _ _ _ hxV).trans rfl⟩)
      (fun i hi => by
        have : i = 0 ∨ i = 1 ∨ i = 2 ∨ i = 3 ∨ i = 4 ∨ i = 5 ∨ i = 6 := by omega
        rcases this with rfl | rfl | rfl | rfl | rfl | rfl | rfl
        · exact ⟨hsr.n, htr.n, hsd.n, htd.n, h1⟩
        · exact ⟨hsr.d, htr.d, hsd.d, htd.d, h2⟩
        · exact ⟨hsr.p, htr.p, hsd.p, htd.p, h3⟩
        · exact ⟨hsr.q, htr.q, hsd.q, htd.q, h4⟩
        · exact ⟨hsr.dp, htr.dp, hsd.dp, htd.dp, h5⟩
        · exact ⟨hsr.dq, htr.dq, hsd.dq, htd.dq, h6⟩
        · exact ⟨hsr.qi, htr.qi, hsd.qi, htd.qi, h7⟩) R (hR.trans ⟨fun h i hi => by rw [h], fun h => by
          have g0 : l.n = m.n := h 0 (by omega)
          have g1 : l.d = m.d := h 1 (by omega)
          have g2 : l.p = m.p := h 2 (by omega)
          have g3 : l.q = m.q := h 3 (by omega)
          have g4 : l.dp = m.dp := h 4 (by omega)
          have g5 : l.dq = m.dq := h 5 (by omega)
          have g6 : l.qi = m.qi := h 6 (by omega)
          cases l
          cases m
          simp only at g0 g1 g2 g3 g4 g5 g6
          subst g0 g1 g2 g3 g4 g5 g6
          rfl⟩)
    have HGG := toHid ((HG.out 0 _ m HS1.out).trans ⟨fun h => h.2, fun h => ⟨rfl, h⟩⟩)
    have HRR := toHid hR
    have HWW := toHid hW
    have HVV := toHid hV
    clear J2 k2 hW kW hxW hV kV hxV kk1 hsr htr htd hsd h1 h2 h3 h4 h5 h6 h7 hR HR HR1 HD HG HS1 HLN HK1 JC
    unfold KS.v at HWW
    go_wp2_with (first | rw [← HWW.out] | rw [← HVV.out])
    refine JA.mono ?_
    rintro r w4 ⟨rfl, k4⟩
    have HK4 := toHid (HKV.out.trans k4)
    clear JA k4 HKV d0 d1 d2 d3 d4 d5 d6 d7 c0 c1 c2 c3 c4 c5 c6 c7 HWW HVV
    cases R with
    | true =>
      have hRf := kRefuseNo 190 w4
      have hE0 : Hid (E = 0) := by
        rcases HE.out with ⟨h, _⟩ | ⟨_, h⟩
        · exact h
        · exact absurd (HGG.out.2 (HRR.out.1 rfl)) h
      clear HE HGG HRR
      go_wp2_with fail
      refine hRf.mono ?_
      rintro r w5 ⟨rfl, rfl⟩
      go_wp2
      go_end0
      rw [hE0.out]
      exact ⟨.ok, HK4.out⟩
    | false =>
      have hRf := kRefuseYes 190 w4
      have hE0 : Hid (E = 190) := by
        rcases HE.out with ⟨_, h⟩ | ⟨h, _⟩
        · exact absurd (HRR.out.2 (HGG.out.1 h)) (by decide)
        · exact h
      clear HE HGG HRR
      go_wp2_with fail
      refine hRf.mono ?_
      rintro r w5 ⟨rfl, rfl⟩
      exact ⟨rfl, by rw [hE0.out]; exact .no (by decide), HK4.out⟩
  · have J2 := kStepKE t.no t.dO t.po t.qo t.dpo t.dqo t.qio t.nl t.nc t.en t.dl t.dc t.pl t.pc t.ql t.qc t.dpl t.dpc t.dql t.dqc t.qil t.qic 190 (by decide) w1
    have hE0 : Hid (E = 190) := by
      rcases HE.out with ⟨_, h⟩ | ⟨h, _⟩
      · exact absurd ((HG.out 190 _ m HS1.out).1 h).1 (by decide)
      · exact h
    clear HE HG HR HR1 HD HS1 JC hno
    go_wp2_with fail
    refine J2.mono ?_
    rintro r w2 ⟨rfl, k2⟩
    exact ⟨rfl, by rw [hE0.out]; exact .no (by decide), HK1.out.trans k2⟩

set_option maxRecDepth 20000 in
set_option maxHeartbeats 2000000 in
/-- Check. -/
theorem kChk (s : KS) (l : KL) (E : Nat) (hE : (E = 0 ∧ KeyGood l.n l.d l.p l.q l.dp l.dq l.qi s.en) ∨ (E = 190 ∧ ¬ KeyGood l.n l.d l.p l.q l.dp l.dq l.qi s.en)) (hpl : s.pl ≤ 1000) (hql : s.ql ≤ 1000) (w : World) (hr : s.Rows w l) (hd : l.Digs) :
    Calls Tryz.prog 16 #[.agg s.v] w fun r w' => r = .returned (.int .i64 (E : Nat)) ∧ Kept Nought w w' := by
  have hmf : ∀ (fn : Fn) (first cap : Array Value) (w : World), (Instr.makeFunc fn first cap).run Tryz.prog w = .ok (.func fn first cap) w := fun _ _ _ _ => rfl
  have he : ∀ args w, (callFunc 53 args).run Tryz.prog w = .ok (.enter 53 args) w := fun _ _ => by simp [go_sem]
  obtain ⟨W, hW⟩ : ∃ W, W = w.alloc (.cells s.v 32) := ⟨_, rfl⟩
  have k0 : Kept Nought w W := by rw [hW]; exact (Kept.refl Nought w).alloc _
  have hx : W.heap[w.heap.size]? = some (.cells s.v 32 (0, 0)) := by rw [hW]; exact heap_alloc_new _ _
  have kE := (Kept.refl Nought W).alloc (.cells #[.int .i64 0] 27)
  have hA := kAttemptK 53 #[.pointer (some ⟨w.heap.size, 0, none⟩)] W E he (kChk1 w.heap.size s l E hE hpl hql _ (hr.grew (k0.trans kE)) hd (heapAt_alloc hx))
  have HW := toHid hW
  have HK0 := toHid k0
  clear hE hpl hql hr hd hW k0 hx kE he
  unfold KS.v at HW ⊢
  go_enter Tryz.func16, Tryz.ntmps16
  go_wp2_with (rw [← HW.out])
  refine hA.mono ?_
  rintro r w1 ⟨rfl, k1⟩
  have HK1 := toHid (HK0.out.trans k1)
  clear hA k1
  go_wp2
  go_ret
  exact ⟨rfl, HK1.out⟩

theorem kcPub : KPub := fun ao L cap xs e w _ hu hd hL => kPub ao L cap xs e w hu hd hL

theorem kcOf : KOfC := fun ao bo L M cap dap xs ys P Q e w hP hQ _ hu hv hdx hdy hL hM => kOf ao bo L M cap dap xs ys P Q e w hP hQ hu hv hdx hdy hL hM

theorem kcSiz : KSiz := fun ao L cap xs w hu hd hL => kSiz ao L cap xs w hu hd hL

theorem kcChk : KChk := fun ano ado apo aqo adpo adqo aqio anl anc adl adc apl apc aql aqc adpl adpc adql adqc aqil aqic e ans ads aps aqs adps adqs aqis E w _ hE hn hd hp hq hdp hdq hqi gn gd gp gq gdp gdq gqi hpl hql =>
  kChk ⟨ano, anl, anc, e, ado, adl, adc, apo, apl, apc, aqo, aql, aqc, adpo, adpl, adpc, adqo, adql, adqc, aqio, aqil, aqic⟩ ⟨ans, ads, aps, aqs, adps, adqs, aqis⟩ E hE hpl hql w ⟨hn, hd, hp, hq, hdp, hdq, hqi⟩ ⟨gn, gd, gp, gq, gdp, gdq, gqi⟩

theorem kcCom : KCom := fun ao bo L M cap dap xs ys E RL w hE hRL hu hv hdx hdy hL hM => by
  by_cases hno : val 18446744073709551616 xs < 2 ∨ val 18446744073709551616 ys < 2
  · have hE1 : E = 1 := by rw [hE, comE, if_neg (by omega), if_pos hno]
    have h := kCom ao bo L M cap dap xs ys _ _ E RL rfl rfl hL hM (.inr ⟨hE1, hno⟩) (by rw [hRL, if_neg (by omega), if_neg (by omega)]) w hu hv hdx hdy
    exact h
  · have hE0 : E = 0 := by rw [hE, comE, if_neg (by omega), if_neg hno]
    have hp : ¬ wordsN (comN (val 18446744073709551616 xs) (val 18446744073709551616 ys)) ≤ 0 := fun h => by
      have h1 := (wordsN_le _ _).1 h
      rw [Nat.pow_zero] at h1
      have h2 : 1 ≤ (val 18446744073709551616 xs - 1) / Nat.gcd (val 18446744073709551616 xs - 1) (val 18446744073709551616 ys - 1) := Nat.div_pos (Nat.le_of_dvd (by omega) (Nat.gcd_dvd_left _ _)) (Nat.gcd_pos_of_pos_left _ (by omega))
      have h3 : 1 * 1 ≤ comN (val 18446744073709551616 xs) (val 18446744073709551616 ys) := Nat.mul_le_mul h2 (by omega)
      omega
    have h := kCom ao bo L M cap dap xs ys _ _ E RL rfl rfl hL hM (.inl ⟨hE0, by omega, by omega⟩) (by rw [hRL, if_pos hE0, if_pos hE0, Nat.max_eq_left (by omega)]) w hu hv hdx hdy
    exact h

end Go.Proofs.YtiljkgoafknefaaGreat
