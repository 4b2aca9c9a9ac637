/- The plain side of layer 19 (package sconceref18): Check. -/
import Derived.Test.YtiljkgoafknefaaGreatKey5
import Derived.Test.YtiljkgoafknefaaGreatNum1
namespace Go.Proofs.YtiljkgoafknefaaGreat
open Go.RowKit

/-- What a key's rows are, made of P, Q, e with the private exponent d and the inverse u. -/
def keyRows (P Q e d u : Nat) (ns ds ps qs dps dqs qis : List Nat) : Prop :=
  d < comN P Q ∧ e * d % comN P Q = 1 ∧ u < P ∧ Q * u % P = 1 ∧ ns = keyWords P Q ∧ ds = digs 18446744073709551616 d (keyWords P Q).length ∧ ps = digs 18446744073709551616 P (max (wordsN P) (wordsN Q)) ∧ qs = digs 18446744073709551616 Q (max (wordsN P) (wordsN Q)) ∧ dps = digs 18446744073709551616 (d % (P - 1)) (max (wordsN P) (wordsN Q)) ∧ dqs = digs 18446744073709551616 (d % (Q - 1)) (max (wordsN P) (wordsN Q)) ∧ qis = digs 18446744073709551616 u (max (wordsN P) (wordsN Q))

/-- Whether a key is well formed. -/
def KeyGood (ns ds ps qs dps dqs qis : List Nat) (e : Nat) : Prop :=
  keyOk ps.length qs.length (val 18446744073709551616 ps) (val 18446744073709551616 qs) e ∧ ∃ d u, keyRows (val 18446744073709551616 ps) (val 18446744073709551616 qs) e d u ns ds ps qs dps dqs qis

theorem inv_one {m a x y : Nat} (hc : Nat.Coprime m a) (hx : x < m) (hy : y < m) (h1 : a * x % m = 1) (h2 : a * y % m = 1) : x = y := by
  have := cancel_left hc (h1.trans h2.symm)
  rwa [Nat.mod_eq_of_lt hx, Nat.mod_eq_of_lt hy] at this

set_option maxRecDepth 40000 in
set_option maxHeartbeats 4000000 in
/-- Check. -/
theorem r18Check (ano ado apo aqo adpo adqo aqio : Option Addr) (anl anc adl adc apl apc aql aqc adpl adpc adql adqc aqil aqic e : Nat) (ans ads aps aqs adps adqs aqis : List Nat) (he : e < 18446744073709551616) (E : Nat) (hE : (E = 0 ∧ KeyGood ans ads aps aqs adps adqs aqis e) ∨ (E = 190 ∧ ¬ KeyGood ans ads aps aqs adps adqs aqis e)) (w : World) (hn : Row .u64 w (.slice ano anl anc) ans) (hd : Row .u64 w (.slice ado adl adc) ads) (hp : Row .u64 w (.slice apo apl apc) aps) (hq : Row .u64 w (.slice aqo aql aqc) aqs) (hdp : Row .u64 w (.slice adpo adpl adpc) adps) (hdq : Row .u64 w (.slice adqo adql adqc) adqs) (hqi : Row .u64 w (.slice aqio aqil aqic) aqis) (gp : Digs 18446744073709551616 aps) (gq : Digs 18446744073709551616 aqs) (hpl : apl ≤ 1000000) (hql : aql ≤ 1000000) :
    Calls Tryz.prog 17 #[.agg #[.slice ano anl anc, .int .u64 (e : Nat), .slice ado adl adc, .slice apo apl apc, .slice aqo aql aqc, .slice adpo adpl adpc, .slice adqo adql adqc, .slice aqio aqil aqic]] w fun r w' => r = .returned (.int .i64 (E : Nat)) ∧ Kept Nought w w' := by
  obtain ⟨_, _, _, e1, hLp, -, -, -, -⟩ := hp.open
  cases e1
  obtain ⟨_, _, _, e1, hLq, -, -, -, -⟩ := hq.open
  cases e1
  obtain ⟨W1, hW1⟩ : ∃ W1, W1 = w.alloc (.cells #[.slice ano anl anc, .int .u64 (e : Nat), .slice ado adl adc, .slice apo apl apc, .slice aqo aql aqc, .slice adpo adpl adpc, .slice adqo adql adqc, .slice aqio aqil aqic] 32) := ⟨_, rfl⟩
  have k1 : Kept Nought w W1 := by rw [hW1]; exact (Kept.refl Nought w).alloc _
  have hx1 : W1.heap[w.heap.size]? = some (.cells #[.slice ano anl anc, .int .u64 (e : Nat), .slice ado adl adc, .slice apo apl apc, .slice aqo aql aqc, .slice adpo adpl adpc, .slice adqo adql adqc, .slice aqio aqil aqic] 32 (0, 0)) := by rw [hW1]; exact heap_alloc_new _ _
  have HBX : Hid (∀ W, Kept Nought W1 W → W.heap[w.heap.size]? = some (.cells #[.slice ano anl anc, .int .u64 (e : Nat), .slice ado adl adc, .slice apo apl apc, .slice aqo aql aqc, .slice adpo adpl adpc, .slice adqo adql adqc, .slice aqio aqil aqic] 32 (0, 0))) := fun W k => (k.block _ (lt_of_block hx1) (fun f => f)).trans hx1
  have hOf := r18Of apo aqo apl aql apc aqc aps aqs _ _ e rfl rfl he W1 (hp.grew k1) (hq.grew k1) gp gq hpl hql
  have HE := toHid hE
  have HROW : Hid (∀ W, Kept Nought w W → Row .u64 W (.slice ano anl anc) ans ∧ Row .u64 W (.slice ado adl adc) ads ∧ Row .u64 W (.slice apo apl apc) aps ∧ Row .u64 W (.slice aqo aql aqc) aqs ∧ Row .u64 W (.slice adpo adpl adpc) adps ∧ Row .u64 W (.slice adqo adql adqc) adqs ∧ Row .u64 W (.slice aqio aqil aqic) aqis) := fun W k => ⟨hn.grew k, hd.grew k, hp.grew k, hq.grew k, hdp.grew k, hdq.grew k, hqi.grew k⟩
  have HLP := toHid hLp
  have HLQ := toHid hLq
  obtain ⟨c0, c1, c2, c3, c4, c5, c6, c7⟩ := cells8 hx1
  have HW1 := toHid hW1
  have HK1 := toHid k1
  clear hW1 k1 hx1 hE hn hd hp hq hdp hdq hqi gp gq hLp hLq
  go_enter Tryz.func17, Tryz.ntmps17
  go_wp2_with (rw [← HW1.out])
  refine hOf.mono ?_
  rintro r w2 ⟨kv, E2, rfl, hcase, _, k2⟩
  clear hOf c0 c1 c2 c3 c4 c5 c6 c7
  rcases hcase with ⟨rfl, hok, hat⟩ | ⟨rfl, hno, rfl⟩
  · obtain ⟨vn, vd, vp, vq, vdp, vdq, vqi, d, u, rfl, rn, hd1, hd2, rd, rp, rq, rdp, rdq, hu1, hu2, rqi⟩ := hat
    obtain ⟨bno, bnl, bnc, rfl, -, -, -, -, -⟩ := rn.open
    obtain ⟨bdo, bdl, bdc, rfl, -, -, -, -, -⟩ := rd.open
    obtain ⟨bpo, bpl, bpc, rfl, -, -, -, -, -⟩ := rp.open
    obtain ⟨bqo, bql, bqc, rfl, -, -, -, -, -⟩ := rq.open
    obtain ⟨bdpo, bdpl, bdpc, rfl, -, -, -, -, -⟩ := rdp.open
    obtain ⟨bdqo, bdql, bdqc, rfl, -, -, -, -, -⟩ := rdq.open
    obtain ⟨bqio, bqil, bqic, rfl, -, -, -, -, -⟩ := rqi.open
    obtain ⟨W3, hW3⟩ : ∃ W3, W3 = w2.alloc (.cells #[.slice bno bnl bnc, .int .u64 (e : Nat), .slice bdo bdl bdc, .slice bpo bpl bpc, .slice bqo bql bqc, .slice bdpo bdpl bdpc, .slice bdqo bdql bdqc, .slice bqio bqil bqic] 32) := ⟨_, rfl⟩
    have k3 : Kept Nought w2 W3 := by rw [hW3]; exact (Kept.refl Nought w2).alloc _
    have hx3 : W3.heap[w2.heap.size]? = some (.cells #[.slice bno bnl bnc, .int .u64 (e : Nat), .slice bdo bdl bdc, .slice bpo bpl bpc, .slice bqo bql bqc, .slice bdpo bdpl bdpc, .slice bdqo bdql bdqc, .slice bqio bqil bqic] 32 (0, 0)) := by rw [hW3]; exact heap_alloc_new _ _
    obtain ⟨d0, d1, d2, d3, d4, d5, d6, d7⟩ := cells8 hx3
    have hbx := HBX.out _ (k2.trans k3)
    obtain ⟨c0, c1, c2, c3, c4, c5, c6, c7⟩ := cells8 hbx
    have HKf := toHid (HK1.out.trans (k2.trans k3))
    obtain ⟨tn, td, tp, tq, tdp, tdq, tqi⟩ := HROW.out _ HKf.out
    have hgood : KeyGood ans ads aps aqs adps adqs aqis e ↔ keyRows (val 18446744073709551616 aps) (val 18446744073709551616 aqs) e d u ans ads aps aqs adps adqs aqis := by
      unfold KeyGood
      rw [HLP.out.out, HLQ.out.out]
      refine ⟨fun h => ?_, fun h => ⟨hok, d, u, h⟩⟩
      obtain ⟨_, d', u', h'⟩ := h
      have hd : d' = d := inv_one (Nat.Coprime.symm hok.2.2.2.2.2) h'.1 hd1 h'.2.1 hd2
      have hu : u' = u := inv_one hok.2.2.2.1 h'.2.2.1 hu1 h'.2.2.2.1 hu2
      subst hd hu
      exact h'
    obtain ⟨R, hR⟩ : ∃ R : Bool, R = true ↔ KeyGood ans ads aps aqs adps adqs aqis e := by
      by_cases h : KeyGood ans ads aps aqs adps adqs aqis e
      · exact ⟨true, by simp [h]⟩
      · exact ⟨false, by simp [h]⟩
    have hSm := r18Same bno bdo bpo bqo bdpo bdqo bqio ano ado apo aqo adpo adqo aqio bnl bnc bdl bdc bpl bpc bql bqc bdpl bdpc bdql bdqc bqil bqic anl anc adl adc apl apc aql aqc adpl adpc adql adqc aqil aqic e e _ _ _ _ _ _ _ ans ads aps aqs adps adqs aqis R (by
      rw [hR, hgood]
      unfold keyRows
      exact ⟨fun h => ⟨rfl, h.2.2.2.2.1.symm, h.2.2.2.2.2.1.symm, h.2.2.2.2.2.2.1.symm, h.2.2.2.2.2.2.2.1.symm, h.2.2.2.2.2.2.2.2.1.symm, h.2.2.2.2.2.2.2.2.2.1.symm, h.2.2.2.2.2.2.2.2.2.2.symm⟩, fun h => ⟨hd1, hd2, hu1, hu2, h.2.1.symm, h.2.2.1.symm, h.2.2.2.1.symm, h.2.2.2.2.1.symm, h.2.2.2.2.2.1.symm, h.2.2.2.2.2.2.1.symm, h.2.2.2.2.2.2.2.symm⟩⟩) W3 (rn.grew k3) (rd.grew k3) (rp.grew k3) (rq.grew k3) (rdp.grew k3) (rdq.grew k3) (rqi.grew k3) tn td tp tq tdp tdq tqi
    have HW3 := toHid hW3
    clear hW3 hx3 hbx k2 k3 tn td tp tq tdp tdq tqi rn rd rp rq rdp rdq rqi hok hgood hd1 hd2 hu1 hu2
    cases R
    · have HT : Hid (E = 190) := by
        rcases HE.out with ⟨_, h⟩ | ⟨h, _⟩
        · exact absurd (hR.2 h) (by decide)
        · exact h
      clear hR
      go_wp2_with (rw [← HW3.out])
      refine hSm.mono ?_
      rintro r w4 ⟨rfl, k4⟩
      go_wp2_with fail
      go_ret
      exact ⟨by rw [HT.out]; rfl, HKf.out.trans k4⟩
    · have HT : Hid (E = 0) := by
        rcases HE.out with ⟨h, _⟩ | ⟨_, h⟩
        · exact h
        · exact absurd (hR.1 rfl) h
      clear hR
      go_wp2_with (rw [← HW3.out])
      refine hSm.mono ?_
      rintro r w4 ⟨rfl, k4⟩
      go_wp2_with fail
      go_ret
      exact ⟨by rw [HT.out]; rfl, HKf.out.trans k4⟩
  · have HT : Hid (E = 190) := by
      rcases HE.out with ⟨_, h⟩ | ⟨h, _⟩
      · refine absurd ?_ hno
        have := h.1
        rw [HLP.out.out, HLQ.out.out] at this
        exact this
      · exact h
    have HKf := toHid (HK1.out.trans k2)
    clear hno k2
    go_wp2_with fail
    go_ret
    exact ⟨by rw [HT.out]; rfl, HKf.out.alloc _⟩

end Go.Proofs.YtiljkgoafknefaaGreat
