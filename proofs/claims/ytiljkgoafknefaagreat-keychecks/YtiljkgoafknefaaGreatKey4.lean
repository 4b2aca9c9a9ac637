/- The plain side of layer 19 (package sconceref18): Same. -/
import Derived.Test.YtiljkgoafknefaaGreatKey3
namespace Go.Proofs.YtiljkgoafknefaaGreat
open Go.RowKit

theorem cells8 {W : World} {p : Nat} {a b c d e f g h : Value} {t : TypeId} (hh : W.heap[p]? = some (.cells #[a, b, c, d, e, f, g, h] t (0, 0))) :
    W.cell? ⟨p, 0, none⟩ = some a ∧ W.cell? ⟨p, 1, none⟩ = some b ∧ W.cell? ⟨p, 2, none⟩ = some c ∧ W.cell? ⟨p, 3, none⟩ = some d ∧ W.cell? ⟨p, 4, none⟩ = some e ∧ W.cell? ⟨p, 5, none⟩ = some f ∧ W.cell? ⟨p, 6, none⟩ = some g ∧ W.cell? ⟨p, 7, none⟩ = some h := by
  simp [World.cell?, hh]

set_option maxRecDepth 40000 in
set_option maxHeartbeats 4000000 in
/-- Same: keys alike. -/
theorem r18Same (ano ado apo aqo adpo adqo aqio bno bdo bpo bqo bdpo bdqo bqio : Option Addr) (anl anc adl adc apl apc aql aqc adpl adpc adql adqc aqil aqic bnl bnc bdl bdc bpl bpc bql bqc bdpl bdpc bdql bdqc bqil bqic ae be : Nat) (ans ads aps aqs adps adqs aqis bns bds bps bqs bdps bdqs bqis : List Nat) (R : Bool) (hR : R = true ↔ ae = be ∧ ans = bns ∧ ads = bds ∧ aps = bps ∧ aqs = bqs ∧ adps = bdps ∧ adqs = bdqs ∧ aqis = bqis) (w : World) (han : Row .u64 w (.slice ano anl anc) ans) (had : Row .u64 w (.slice ado adl adc) ads) (hap : Row .u64 w (.slice apo apl apc) aps) (haq : Row .u64 w (.slice aqo aql aqc) aqs) (hadp : Row .u64 w (.slice adpo adpl adpc) adps) (hadq : Row .u64 w (.slice adqo adql adqc) adqs) (haqi : Row .u64 w (.slice aqio aqil aqic) aqis) (hbn : Row .u64 w (.slice bno bnl bnc) bns) (hbd : Row .u64 w (.slice bdo bdl bdc) bds) (hbp : Row .u64 w (.slice bpo bpl bpc) bps) (hbq : Row .u64 w (.slice bqo bql bqc) bqs) (hbdp : Row .u64 w (.slice bdpo bdpl bdpc) bdps) (hbdq : Row .u64 w (.slice bdqo bdql bdqc) bdqs) (hbqi : Row .u64 w (.slice bqio bqil bqic) bqis) :
    Calls Tryz.prog 14 #[.agg #[.slice ano anl anc, .int .u64 (ae : Nat), .slice ado adl adc, .slice apo apl apc, .slice aqo aql aqc, .slice adpo adpl adpc, .slice adqo adql adqc, .slice aqio aqil aqic], .agg #[.slice bno bnl bnc, .int .u64 (be : Nat), .slice bdo bdl bdc, .slice bpo bpl bpc, .slice bqo bql bqc, .slice bdpo bdpl bdpc, .slice bdqo bdql bdqc, .slice bqio bqil bqic]] w fun e w' => e = .returned (.bool R) ∧ Kept Nought w w' := by
  have HR := toHid hR
  have HF : Hid (¬ (ae = be ∧ ans = bns ∧ ads = bds ∧ aps = bps ∧ aqs = bqs ∧ adps = bdps ∧ adqs = bdqs ∧ aqis = bqis) → R = false) := fun h => by
    cases h2 : R with
    | false => rfl
    | true => exact absurd (HR.out.1 h2) h
  have k0 : Kept Nought w ((w.alloc (.cells #[.slice ano anl anc, .int .u64 (ae : Nat), .slice ado adl adc, .slice apo apl apc, .slice aqo aql aqc, .slice adpo adpl adpc, .slice adqo adql adqc, .slice aqio aqil aqic] 32)).alloc (.cells #[.slice bno bnl bnc, .int .u64 (be : Nat), .slice bdo bdl bdc, .slice bpo bpl bpc, .slice bqo bql bqc, .slice bdpo bdpl bdpc, .slice bdqo bdql bdqc, .slice bqio bqil bqic] 32)) := ((Kept.refl Nought w).alloc _).alloc _
  have Jn := toHid (fun W (k : Kept Nought w W) => rSame _ _ ans bns W (han.grew k) (hbn.grew k))
  have Jd := toHid (fun W (k : Kept Nought w W) => rSame _ _ ads bds W (had.grew k) (hbd.grew k))
  have Jp := toHid (fun W (k : Kept Nought w W) => rSame _ _ aps bps W (hap.grew k) (hbp.grew k))
  have Jq := toHid (fun W (k : Kept Nought w W) => rSame _ _ aqs bqs W (haq.grew k) (hbq.grew k))
  have Jdp := toHid (fun W (k : Kept Nought w W) => rSame _ _ adps bdps W (hadp.grew k) (hbdp.grew k))
  have Jdq := toHid (fun W (k : Kept Nought w W) => rSame _ _ adqs bdqs W (hadq.grew k) (hbdq.grew k))
  have Jqi := toHid (fun W (k : Kept Nought w W) => rSame _ _ aqis bqis W (haqi.grew k) (hbqi.grew k))
  clear hR han hbn had hbd hap hbp haq hbq hadp hbdp hadq hbdq haqi hbqi
  by_cases he : ae = be
  · subst he
    by_cases e0 : ans = bns
    · have hn := Jn.out
      rw [decide_eq_true e0] at hn
      by_cases e1 : ads = bds
      · have hd := Jd.out
        rw [decide_eq_true e1] at hd
        by_cases e2 : aps = bps
        · have hp := Jp.out
          rw [decide_eq_true e2] at hp
          by_cases e3 : aqs = bqs
          · have hq := Jq.out
            rw [decide_eq_true e3] at hq
            by_cases e4 : adps = bdps
            · have hdp := Jdp.out
              rw [decide_eq_true e4] at hdp
              by_cases e5 : adqs = bdqs
              · have hdq := Jdq.out
                rw [decide_eq_true e5] at hdq
                by_cases e6 : aqis = bqis
                · have hqi := Jqi.out
                  rw [decide_eq_true e6] at hqi
                  have HT : Hid (R = true) := HR.out.2 ⟨rfl, e0, e1, e2, e3, e4, e5, e6⟩
                  clear HR HF Jn Jd Jp Jq Jdp Jdq Jqi e0 e1 e2 e3 e4 e5 e6
                  go_enter Tryz.func14, Tryz.ntmps14
                  go_wp2_with fail
                  refine (hn _ k0).mono ?_
                  rintro e w0 ⟨rfl, m0, rfl⟩
                  go_wp2_with fail
                  refine (hd _ (k0.drewN _)).mono ?_
                  rintro e w1 ⟨rfl, m1, rfl⟩
                  go_wp2_with fail
                  refine (hp _ (k0.drewN _)).mono ?_
                  rintro e w2 ⟨rfl, m2, rfl⟩
                  go_wp2_with fail
                  refine (hq _ (k0.drewN _)).mono ?_
                  rintro e w3 ⟨rfl, m3, rfl⟩
                  go_wp2_with fail
                  refine (hdp _ (k0.drewN _)).mono ?_
                  rintro e w4 ⟨rfl, m4, rfl⟩
                  go_wp2_with fail
                  refine (hdq _ (k0.drewN _)).mono ?_
                  rintro e w5 ⟨rfl, m5, rfl⟩
                  go_wp2_with fail
                  refine (hqi _ (k0.drewN _)).mono ?_
                  rintro e w6 ⟨rfl, m6, rfl⟩
                  go_wp2_with fail
                  go_ret
                  exact ⟨by rw [HT.out]; rfl, k0.drewN _⟩
                · have HT := toHid (HF.out (fun h => e6 h.2.2.2.2.2.2.2))
                  have hqi := Jqi.out
                  rw [decide_eq_false e6] at hqi
                  clear HR HF Jn Jd Jp Jq Jdp Jdq Jqi e0 e1 e2 e3 e4 e5 e6
                  go_enter Tryz.func14, Tryz.ntmps14
                  go_wp2_with fail
                  refine (hn _ k0).mono ?_
                  rintro e w0 ⟨rfl, m0, rfl⟩
                  go_wp2_with fail
                  refine (hd _ (k0.drewN _)).mono ?_
                  rintro e w1 ⟨rfl, m1, rfl⟩
                  go_wp2_with fail
                  refine (hp _ (k0.drewN _)).mono ?_
                  rintro e w2 ⟨rfl, m2, rfl⟩
                  go_wp2_with fail
                  refine (hq _ (k0.drewN _)).mono ?_
                  rintro e w3 ⟨rfl, m3, rfl⟩
                  go_wp2_with fail
                  refine (hdp _ (k0.drewN _)).mono ?_
                  rintro e w4 ⟨rfl, m4, rfl⟩
                  go_wp2_with fail
                  refine (hdq _ (k0.drewN _)).mono ?_
                  rintro e w5 ⟨rfl, m5, rfl⟩
                  go_wp2_with fail
                  refine (hqi _ (k0.drewN _)).mono ?_
                  rintro e w6 ⟨rfl, m6, rfl⟩
                  go_wp2_with fail
                  go_ret
                  exact ⟨by rw [HT.out]; rfl, k0.drewN _⟩
              · have HT := toHid (HF.out (fun h => e5 h.2.2.2.2.2.2.1))
                have hdq := Jdq.out
                rw [decide_eq_false e5] at hdq
                clear HR HF Jn Jd Jp Jq Jdp Jdq Jqi e0 e1 e2 e3 e4 e5
                go_enter Tryz.func14, Tryz.ntmps14
                go_wp2_with fail
                refine (hn _ k0).mono ?_
                rintro e w0 ⟨rfl, m0, rfl⟩
                go_wp2_with fail
                refine (hd _ (k0.drewN _)).mono ?_
                rintro e w1 ⟨rfl, m1, rfl⟩
                go_wp2_with fail
                refine (hp _ (k0.drewN _)).mono ?_
                rintro e w2 ⟨rfl, m2, rfl⟩
                go_wp2_with fail
                refine (hq _ (k0.drewN _)).mono ?_
                rintro e w3 ⟨rfl, m3, rfl⟩
                go_wp2_with fail
                refine (hdp _ (k0.drewN _)).mono ?_
                rintro e w4 ⟨rfl, m4, rfl⟩
                go_wp2_with fail
                refine (hdq _ (k0.drewN _)).mono ?_
                rintro e w5 ⟨rfl, m5, rfl⟩
                go_wp2_with fail
                go_ret
                exact ⟨by rw [HT.out]; rfl, k0.drewN _⟩
            · have HT := toHid (HF.out (fun h => e4 h.2.2.2.2.2.1))
              have hdp := Jdp.out
              rw [decide_eq_false e4] at hdp
              clear HR HF Jn Jd Jp Jq Jdp Jdq Jqi e0 e1 e2 e3 e4
              go_enter Tryz.func14, Tryz.ntmps14
              go_wp2_with fail
              refine (hn _ k0).mono ?_
              rintro e w0 ⟨rfl, m0, rfl⟩
              go_wp2_with fail
              refine (hd _ (k0.drewN _)).mono ?_
              rintro e w1 ⟨rfl, m1, rfl⟩
              go_wp2_with fail
              refine (hp _ (k0.drewN _)).mono ?_
              rintro e w2 ⟨rfl, m2, rfl⟩
              go_wp2_with fail
              refine (hq _ (k0.drewN _)).mono ?_
              rintro e w3 ⟨rfl, m3, rfl⟩
              go_wp2_with fail
              refine (hdp _ (k0.drewN _)).mono ?_
              rintro e w4 ⟨rfl, m4, rfl⟩
              go_wp2_with fail
              go_ret
              exact ⟨by rw [HT.out]; rfl, k0.drewN _⟩
          · have HT := toHid (HF.out (fun h => e3 h.2.2.2.2.1))
            have hq := Jq.out
            rw [decide_eq_false e3] at hq
            clear HR HF Jn Jd Jp Jq Jdp Jdq Jqi e0 e1 e2 e3
            go_enter Tryz.func14, Tryz.ntmps14
            go_wp2_with fail
            refine (hn _ k0).mono ?_
            rintro e w0 ⟨rfl, m0, rfl⟩
            go_wp2_with fail
            refine (hd _ (k0.drewN _)).mono ?_
            rintro e w1 ⟨rfl, m1, rfl⟩
            go_wp2_with fail
            refine (hp _ (k0.drewN _)).mono ?_
            rintro e w2 ⟨rfl, m2, rfl⟩
            go_wp2_with fail
            refine (hq _ (k0.drewN _)).mono ?_
            rintro e w3 ⟨rfl, m3, rfl⟩
            go_wp2_with fail
            go_ret
            exact ⟨by rw [HT.out]; rfl, k0.drewN _⟩
        · have HT := toHid (HF.out (fun h => e2 h.2.2.2.1))
          have hp := Jp.out
          rw [decide_eq_false e2] at hp
          clear HR HF Jn Jd Jp Jq Jdp Jdq Jqi e0 e1 e2
          go_enter Tryz.func14, Tryz.ntmps14
          go_wp2_with fail
          refine (hn _ k0).mono ?_
          rintro e w0 ⟨rfl, m0, rfl⟩
          go_wp2_with fail
          refine (hd _ (k0.drewN _)).mono ?_
          rintro e w1 ⟨rfl, m1, rfl⟩
          go_wp2_with fail
          refine (hp _ (k0.drewN _)).mono ?_
          rintro e w2 ⟨rfl, m2, rfl⟩
          go_wp2_with fail
          go_ret
          exact ⟨by rw [HT.out]; rfl, k0.drewN _⟩
      · have HT := toHid (HF.out (fun h => e1 h.2.2.1))
        have hd := Jd.out
        rw [decide_eq_false e1] at hd
        clear HR HF Jn Jd Jp Jq Jdp Jdq Jqi e0 e1
        go_enter Tryz.func14, Tryz.ntmps14
        go_wp2_with fail
        refine (hn _ k0).mono ?_
        rintro e w0 ⟨rfl, m0, rfl⟩
        go_wp2_with fail
        refine (hd _ (k0.drewN _)).mono ?_
        rintro e w1 ⟨rfl, m1, rfl⟩
        go_wp2_with fail
        go_ret
        exact ⟨by rw [HT.out]; rfl, k0.drewN _⟩
    · have HT := toHid (HF.out (fun h => e0 h.2.1))
      have hn := Jn.out
      rw [decide_eq_false e0] at hn
      clear HR HF Jn Jd Jp Jq Jdp Jdq Jqi e0
      go_enter Tryz.func14, Tryz.ntmps14
      go_wp2_with fail
      refine (hn _ k0).mono ?_
      rintro e w0 ⟨rfl, m0, rfl⟩
      go_wp2_with fail
      go_ret
      exact ⟨by rw [HT.out]; rfl, k0.drewN _⟩
  · have HT := toHid (HF.out (fun h => he h.1))
    have ge : ¬ (ae : Int) = (be : Int) := by omega
    have qe : ((ae : Int) == (be : Int)) = false := by simp; omega
    clear HR HF Jn Jd Jp Jq Jdp Jdq Jqi
    go_enter Tryz.func14, Tryz.ntmps14
    go_wp2_with fail
    go_ret
    exact ⟨by rw [HT.out]; rfl, k0⟩

end Go.Proofs.YtiljkgoafknefaaGreat
