/- Put together of: Num1 Key6 Law19 Law19b. -/
import Derived.Test.YtiljkgoafknefaaGreatPk4
import Derived.Test.YtiljkgoafknefaaGreatPk6
import Derived.Test.YtiljkgoafknefaaGreatPk7

/- Numbers: Fermat, Pocklington, powers that undo one another. -/
namespace Go.Proofs.YtiljkgoafknefaaGreat
open Go.RowKit

theorem cancel_left {p a b c : Nat} (hc : Nat.Coprime p c) (h : c * a % p = c * b % p) : a % p = b % p := by
  rcases Nat.le_total a b with hab | hab
  · have h1 : (c * b - c * a) % p = 0 := Nat.sub_mod_eq_zero_of_mod_eq h.symm
    rw [← Nat.mul_sub] at h1
    have h2 := hc.dvd_of_dvd_mul_left (Nat.dvd_of_mod_eq_zero h1)
    obtain ⟨k, hk⟩ := h2
    rw [show b = a + p * k by omega]
    simp
  · have h1 : (c * a - c * b) % p = 0 := Nat.sub_mod_eq_zero_of_mod_eq h
    rw [← Nat.mul_sub] at h1
    have h2 := hc.dvd_of_dvd_mul_left (Nat.dvd_of_mod_eq_zero h1)
    obtain ⟨k, hk⟩ := h2
    rw [show a = b + p * k by omega]
    simp

end Go.Proofs.YtiljkgoafknefaaGreat


/- The plain side of layer 19 (package sconceref18): Check. -/
namespace Go.Proofs.YtiljkgoafknefaaGreat
open Go.RowKit

/-- What a key's rows are, made of P, Q, e with the private exponent d and the inverse u. -/
def keyRows (P Q e d u : Nat) (ns ds ps qs dps dqs qis : List Nat) : Prop :=
  d < comN P Q ∧ e * d % comN P Q = 1 ∧ u < P ∧ Q * u % P = 1 ∧ ns = keyWords P Q ∧ ds = digs 18446744073709551616 d (keyWords P Q).length ∧ ps = digs 18446744073709551616 P (max (wordsN P) (wordsN Q)) ∧ qs = digs 18446744073709551616 Q (max (wordsN P) (wordsN Q)) ∧ dps = digs 18446744073709551616 (d % (P - 1)) (max (wordsN P) (wordsN Q)) ∧ dqs = digs 18446744073709551616 (d % (Q - 1)) (max (wordsN P) (wordsN Q)) ∧ qis = digs 18446744073709551616 u (max (wordsN P) (wordsN Q))

/-- Whether a key is well formed. -/
def KeyGood (ns ds ps qs dps dqs qis : List Nat) (e : Nat) : Prop :=
  keyOk ps.length qs.length (val 18446744073709551616 ps) (val 18446744073709551616 qs) e ∧ ∃ d u, keyRows (val 18446744073709551616 ps) (val 18446744073709551616 qs) e d u ns ds ps qs dps dqs qis

theorem inv_one {m a x y : Nat} (hc : Nat.Coprime m a) (hx : x < m) (hy : y < m) (h1 : a * x % m = 1) (h2 : a * y % m = 1) : x = y := by
  have := cancel_left hc (h1.trans h2.symm)
  rwa [Nat.mod_eq_of_lt hx, Nat.mod_eq_of_lt hy] at this

set_option maxRecDepth 40000 in
set_option maxHeartbeats 4000000 in
/-- Check. -/
theorem r18Check (ano ado apo aqo adpo adqo aqio : Option Addr) (anl anc adl adc apl apc aql aqc adpl adpc adql adqc aqil aqic e : Nat) (ans ads aps aqs adps adqs aqis : List Nat) (he : e < 18446744073709551616) (E : Nat) (hE : (E = 0 ∧ KeyGood ans ads aps aqs adps adqs aqis e) ∨ (E = 190 ∧ ¬ KeyGood ans ads aps aqs adps adqs aqis e)) (w : World) (hn : Row .u64 w (.slice ano anl anc) ans) (hd : Row .u64 w (.slice ado adl adc) ads) (hp : Row .u64 w (.slice apo apl apc) aps) (hq : Row .u64 w (.slice aqo aql aqc) aqs) (hdp : Row .u64 w (.slice adpo adpl adpc) adps) (hdq : Row .u64 w (.slice adqo adql adqc) adqs) (hqi : Row .u64 w (.slice aqio aqil aqic) aqis) (gp : Digs 18446744073709551616 aps) (gq : Digs 18446744073709551616 aqs) (hpl : apl ≤ 1000000) (hql : aql ≤ 1000000) :
    Calls Tryz.prog 17 #[.agg #[.slice ano anl anc, .int .u64 (e : Nat), .slice ado adl adc, .slice apo apl apc, .slice aqo aql aqc, .slice adpo adpl adpc, .slice adqo adql adqc, .slice aqio aqil aqic]] w fun r w' => r = .returned (.int .i64 (E : Nat)) ∧ Kept Nought w w' := by
  obtain ⟨_, _, _, e1, hLp, -, -, -, -⟩ := hp.open
  cases e1
  obtain ⟨_, _, _, e1, hLq, -, -, -, -⟩ := hq.open
  cases e1
  obtain ⟨W1, hW1⟩ : ∃ W1, W1 = w.alloc (.cells #[.slice ano anl anc, .int .u64 (e : Nat), .slice ado adl adc, .slice apo apl apc, .slice aqo aql aqc, .slice adpo adpl adpc, .slice adqo adql adqc, .slice aqio aqil aqic] 32) := ⟨_, rfl⟩
  have k1 : Kept Nought w W1 := by rw [hW1]; exact (Kept.refl Nought w).alloc _
  have hx1 : W1.heap[w.heap.size]? = some (.cells #[.slice ano anl anc, .int .u64 (e : Nat), .slice ado adl adc, .slice apo apl apc, .slice aqo aql aqc, .slice adpo adpl adpc, .slice adqo adql adqc, .slice aqio aqil aqic] 32 (0, 0)) := by rw [hW1]; exact heap_alloc_new _ _
  have HBX : Hid (∀ W, Kept Nought W1 W → W.heap[w.heap.size]? = some (.cells #[.slice ano anl anc, .int .u64 (e : Nat), .slice ado adl adc, .slice apo apl apc, .slice aqo aql aqc, .slice adpo adpl adpc, .slice adqo adql adqc, .slice aqio aqil aqic] 32 (0, 0))) := fun W k => (k.block _ (lt_of_block hx1) (fun f => f)).trans hx1
  have hOf := r18Of apo aqo apl aql apc aqc aps aqs _ _ e rfl rfl he W1 (hp.grew k1) (hq.grew k1) gp gq hpl hql
  have HE := toHid hE
  have HROW : Hid (∀ W, Kept Nought w W → Row .u64 W (.slice ano anl anc) ans ∧ Row .u64 W (.slice ado adl adc) ads ∧ Row .u64 W (.slice apo apl apc) aps ∧ Row .u64 W (.slice aqo aql aqc) aqs ∧ Row .u64 W (.slice adpo adpl adpc) adps ∧ Row .u64 W (.slice adqo adql adqc) adqs ∧ Row .u64 W (.slice aqio aqil aqic) aqis) := fun W k => ⟨hn.grew k, hd.grew k, hp.grew k, hq.grew k, hdp.grew k, hdq.grew k, hqi.grew k⟩
  have HLP := toHid hLp
  have HLQ := toHid hLq
  obtain ⟨c0, c1, c2, c3, c4, c5, c6, c7⟩ := cells8 hx1
  have HW1 := toHid hW1
  have HK1 := toHid k1
  clear hW1 k1 hx1 hE hn hd hp hq hdp hdq hqi gp gq hLp hLq
  go_enter Tryz.func17, Tryz.ntmps17
  go_wp2_with (rw [← HW1.out])
  refine hOf.mono ?_
  rintro r w2 ⟨kv, E2, rfl, hcase, _, k2⟩
  clear hOf c0 c1 c2 c3 c4 c5 c6 c7
  rcases hcase with ⟨rfl, hok, hat⟩ | ⟨rfl, hno, rfl⟩
  · obtain ⟨vn, vd, vp, vq, vdp, vdq, vqi, d, u, rfl, rn, hd1, hd2, rd, rp, rq, rdp, rdq, hu1, hu2, rqi⟩ := hat
    obtain ⟨bno, bnl, bnc, rfl, -, -, -, -, -⟩ := rn.open
    obtain ⟨bdo, bdl, bdc, rfl, -, -, -, -, -⟩ := rd.open
    obtain ⟨bpo, bpl, bpc, rfl, -, -, -, -, -⟩ := rp.open
    obtain ⟨bqo, bql, bqc, rfl, -, -, -, -, -⟩ := rq.open
    obtain ⟨bdpo, bdpl, bdpc, rfl, -, -, -, -, -⟩ := rdp.open
    obtain ⟨bdqo, bdql, bdqc, rfl, -, -, -, -, -⟩ := rdq.open
    obtain ⟨bqio, bqil, bqic, rfl, -, -, -, -, -⟩ := rqi.open
    obtain ⟨W3, hW3⟩ : ∃ W3, W3 = w2.alloc (.cells #[.slice bno bnl bnc, .int .u64 (e : Nat), .slice bdo bdl bdc, .slice bpo bpl bpc, .slice bqo bql bqc, .slice bdpo bdpl bdpc, .slice bdqo bdql bdqc, .slice bqio bqil bqic] 32) := ⟨_, rfl⟩
    have k3 : Kept Nought w2 W3 := by rw [hW3]; exact (Kept.refl Nought w2).alloc _
    have hx3 : W3.heap[w2.heap.size]? = some (.cells #[.slice bno bnl bnc, .int .u64 (e : Nat), .slice bdo bdl bdc, .slice bpo bpl bpc, .slice bqo bql bqc, .slice bdpo bdpl bdpc, .slice bdqo bdql bdqc, .slice bqio bqil bqic] 32 (0, 0)) := by rw [hW3]; exact heap_alloc_new _ _
    obtain ⟨d0, d1, d2, d3, d4, d5, d6, d7⟩ := cells8 hx3
    have hbx := HBX.out _ (k2.trans k3)
    obtain ⟨c0, c1, c2, c3, c4, c5, c6, c7⟩ := cells8 hbx
    have HKf := toHid (HK1.out.trans (k2.trans k3))
    obtain ⟨tn, td, tp, tq, tdp, tdq, tqi⟩ := HROW.out _ HKf.out
    have hgood : KeyGood ans ads aps aqs adps adqs aqis e ↔ keyRows (val 18446744073709551616 aps) (val 18446744073709551616 aqs) e d u ans ads aps aqs adps adqs aqis := by
      unfold KeyGood
      rw [HLP.out.out, HLQ.out.out]
      refine ⟨fun h => ?_, fun h => ⟨hok, d, u, h⟩⟩
      obtain ⟨_, d', u', h'⟩ := h
      have hd : d' = d := inv_one (Nat.Coprime.symm hok.2.2.2.2.2) h'.1 hd1 h'.2.1 hd2
      have hu : u' = u := inv_one hok.2.2.2.1 h'.2.2.1 hu1 h'.2.2.2.1 hu2
      subst hd hu
      exact h'
    obtain ⟨R, hR⟩ : ∃ R : Bool, R = true ↔ KeyGood ans ads aps aqs adps adqs aqis e := by
      by_cases h : KeyGood ans ads aps aqs adps adqs aqis e
      · exact ⟨true, by simp [h]⟩
      · exact ⟨false, by simp [h]⟩
    have hSm := r18Same bno bdo bpo bqo bdpo bdqo bqio ano ado apo aqo adpo adqo aqio bnl bnc bdl bdc bpl bpc bql bqc bdpl bdpc bdql bdqc bqil bqic anl anc adl adc apl apc aql aqc adpl adpc adql adqc aqil aqic e e _ _ _ _ _ _ _ ans ads aps aqs adps adqs aqis R (by
      rw [hR, hgood]
      unfold keyRows
      exact ⟨fun h => ⟨rfl, h.2.2.2.2.1.symm, h.2.2.2.2.2.1.symm, h.2.2.2.2.2.2.1.symm, h.2.2.2.2.2.2.2.1.symm, h.2.2.2.2.2.2.2.2.1.symm, h.2.2.2.2.2.2.2.2.2.1.symm, h.2.2.2.2.2.2.2.2.2.2.symm⟩, fun h => ⟨hd1, hd2, hu1, hu2, h.2.1.symm, h.2.2.1.symm, h.2.2.2.1.symm, h.2.2.2.2.1.symm, h.2.2.2.2.2.1.symm, h.2.2.2.2.2.2.1.symm, h.2.2.2.2.2.2.2.symm⟩⟩) W3 (rn.grew k3) (rd.grew k3) (rp.grew k3) (rq.grew k3) (rdp.grew k3) (rdq.grew k3) (rqi.grew k3) tn td tp tq tdp tdq tqi
    have HW3 := toHid hW3
    clear hW3 hx3 hbx k2 k3 tn td tp tq tdp tdq tqi rn rd rp rq rdp rdq rqi hok hgood hd1 hd2 hu1 hu2
    cases R
    · have HT : Hid (E = 190) := by
        rcases HE.out with ⟨_, h⟩ | ⟨h, _⟩
        · exact absurd (hR.2 h) (by decide)
        · exact h
      clear hR
      go_wp2_with (rw [← HW3.out])
      refine hSm.mono ?_
      rintro r w4 ⟨rfl, k4⟩
      go_wp2_with fail
      go_ret
      exact ⟨by rw [HT.out]; rfl, HKf.out.trans k4⟩
    · have HT : Hid (E = 0) := by
        rcases HE.out with ⟨h, _⟩ | ⟨_, h⟩
        · exact h
        · exact absurd (hR.1 rfl) h
      clear hR
      go_wp2_with (rw [← HW3.out])
      refine hSm.mono ?_
      rintro r w4 ⟨rfl, k4⟩
      go_wp2_with fail
      go_ret
      exact ⟨by rw [HT.out]; rfl, HKf.out.trans k4⟩
  · have HT : Hid (E = 190) := by
      rcases HE.out with ⟨_, h⟩ | ⟨h, _⟩
      · refine absurd ?_ hno
        have := h.1
        rw [HLP.out.out, HLQ.out.out] at this
        exact this
      · exact h
    have HKf := toHid (HK1.out.trans k2)
    clear hno k2
    go_wp2_with fail
    go_ret
    exact ⟨by rw [HT.out]; rfl, HKf.out.alloc _⟩

end Go.Proofs.YtiljkgoafknefaaGreat


/- Layer 19: what the landed functions must answer, as propositions; what the laws ask first: few, Few, awake. -/
namespace Go.Proofs.YtiljkgoafknefaaGreat
open Go.RowKit

/-- Public, landed. -/
def KPub : Prop := ∀ (ao : Option Addr) (L cap : Nat) (xs : List Nat) (e : Nat) (w : World), e < 18446744073709551616 → Row .u64 w (.slice ao L cap) xs → Digs 18446744073709551616 xs → L ≤ 1000 →
  Calls Tryz.prog 10 #[.slice ao L cap, .int .u64 (e : Nat)] w fun r w' => r = .returned (.int .i64 ((pubE xs e : Nat) : Int)) ∧ Kept Nought w w'

/-- Of, landed. -/
def KOfC : Prop := ∀ (ao bo : Option Addr) (L M cap dap : Nat) (xs ys : List Nat) (P Q e : Nat) (w : World), P = val 18446744073709551616 xs → Q = val 18446744073709551616 ys → e < 18446744073709551616 → Row .u64 w (.slice ao L cap) xs → Row .u64 w (.slice bo M dap) ys → Digs 18446744073709551616 xs → Digs 18446744073709551616 ys → L ≤ 1000 → M ≤ 1000 →
  Calls Tryz.prog 12 #[.slice ao L cap, .slice bo M dap, .int .u64 (e : Nat)] w fun r w' => ∃ kv E, r = .returned (.tuple #[.agg kv, .int .i64 ((E : Nat) : Int)]) ∧ ((E = 0 ∧ keyOk L M P Q e ∧ KeyAt w' P Q e kv) ∨ (E = 190 ∧ ¬ keyOk L M P Q e ∧ kv = zeroKey)) ∧ KeyFar w.heap.size kv ∧ Kept Nought w w'

/-- Check, landed. -/
def KChk : Prop := ∀ (ano ado apo aqo adpo adqo aqio : Option Addr) (anl anc adl adc apl apc aql aqc adpl adpc adql adqc aqil aqic e : Nat) (ans ads aps aqs adps adqs aqis : List Nat) (E : Nat) (w : World), e < 18446744073709551616 → ((E = 0 ∧ KeyGood ans ads aps aqs adps adqs aqis e) ∨ (E = 190 ∧ ¬ KeyGood ans ads aps aqs adps adqs aqis e)) →
  Row .u64 w (.slice ano anl anc) ans → Row .u64 w (.slice ado adl adc) ads → Row .u64 w (.slice apo apl apc) aps → Row .u64 w (.slice aqo aql aqc) aqs → Row .u64 w (.slice adpo adpl adpc) adps → Row .u64 w (.slice adqo adql adqc) adqs → Row .u64 w (.slice aqio aqil aqic) aqis → Digs 18446744073709551616 ans → Digs 18446744073709551616 ads → Digs 18446744073709551616 aps → Digs 18446744073709551616 aqs → Digs 18446744073709551616 adps → Digs 18446744073709551616 adqs → Digs 18446744073709551616 aqis → apl ≤ 1000 → aql ≤ 1000 →
  Calls Tryz.prog 16 #[.agg #[.slice ano anl anc, .int .u64 (e : Nat), .slice ado adl adc, .slice apo apl apc, .slice aqo aql aqc, .slice adpo adpl adpc, .slice adqo adql adqc, .slice aqio aqil aqic]] w fun r w' => r = .returned (.int .i64 (E : Nat)) ∧ Kept Nought w w'

/-- Common, landed, of numbers of at most 130 words. -/
def KCom : Prop := ∀ (ao bo : Option Addr) (L M cap dap : Nat) (xs ys : List Nat) (E : Nat) (RL : List Nat) (w : World), E = comE (val 18446744073709551616 xs) (val 18446744073709551616 ys) L M → RL = (if E = 0 then digs 18446744073709551616 (comN (val 18446744073709551616 xs) (val 18446744073709551616 ys)) (max (wordsN (comN (val 18446744073709551616 xs) (val 18446744073709551616 ys))) 1) else []) →
  Row .u64 w (.slice ao L cap) xs → Row .u64 w (.slice bo M dap) ys → Digs 18446744073709551616 xs → Digs 18446744073709551616 ys → L ≤ 130 → M ≤ 130 →
  Calls Tryz.prog 18 #[.slice ao L cap, .slice bo M dap] w fun e w' => ∃ v', e = .returned (.tuple #[v', .int .i64 (E : Nat)]) ∧ Row .u64 w' v' RL ∧ (∀ b, v'.ownBlock = some b → w.heap.size ≤ b) ∧ Kept Nought w w'

/-- Size, landed. -/
def KSiz : Prop := ∀ (ao : Option Addr) (L cap : Nat) (xs : List Nat) (w : World), Row .u64 w (.slice ao L cap) xs → Digs 18446744073709551616 xs → L ≤ 1000 →
  Calls Tryz.prog 21 #[.slice ao L cap] w fun e w' => e = .returned (.int .i64 (sizeN (val 18446744073709551616 xs) : Nat)) ∧ Kept Nought w w'

/-- Numbers that a slice of numbers shows, by their lengths. -/
def Lots (w : World) (ao : Option Addr) (n : Nat) (A : Nat → Option Addr) (L C : Nat → Nat) : Prop :=
  ∀ i, i < n → ∃ b off, ao = some ⟨b, off, none⟩ ∧ w.cell? ⟨b, off + i, none⟩ = some (.slice (A i) (L i) (C i))

/-- A length that the laws ask. -/
def fewL (L : Nat) : Prop := L ≤ 20 ∨ L = 301 ∨ L = 131

theorem fewL.le {L : Nat} (h : fewL L) : L ≤ 301 := by unfold fewL at h; omega

set_option maxRecDepth 20000 in
set_option maxHeartbeats 1000000 in
/-- few. -/
theorem f19few (ao : Option Addr) (n cap : Nat) (A : Nat → Option Addr) (L C : Nat → Nat) (w : World) (hn : n ≤ 1000000000000) (R : Bool) (hR : R = true ↔ ∀ i, i < n → fewL (L i)) (hc : Lots w ao n A L C) :
    Calls Tryz.prog 9 #[.slice ao n cap] w fun r w' => r = .returned (.bool R) ∧ w' = w := by
  have HR := toHid hR
  have HC := toHid hc
  clear hR hc
  go_enter Tryz.func9, Tryz.ntmps9
  go_wp2_with fail
  go_loop [7] (fun i => ∃ k : Nat, k ≤ n ∧ i = .int .i64 (k : Int) ∧ Hid (∀ j, j < k → fewL (L j))) (fun i => ((n : Int) - intOf i).toNat)
  case atStart => exact ⟨0, Nat.zero_le _, rfl, fun j hj => by omega⟩
  case round =>
    obtain ⟨k, hk, rfl, hall⟩ := hrel
    by_cases hkn : k < n
    · have hk1 : (k : Int) < (n : Int) := by omega
      obtain ⟨b, off, rfl, hcell⟩ := HC.out k hkn
      obtain ⟨ao, hao⟩ : ∃ ao, ao = A k := ⟨_, rfl⟩
      obtain ⟨len, hlen⟩ : ∃ len, len = L k := ⟨_, rfl⟩
      obtain ⟨cp, hcap⟩ : ∃ cap, cap = C k := ⟨_, rfl⟩
      rw [← hao, ← hlen, ← hcap] at hcell
      have HLen := toHid hlen
      have HNx : Hid (fewL len → ∀ j, j < k + 1 → fewL (L j)) := fun h j hj => by
        by_cases e : j = k
        · subst e; rw [← hlen]; exact h
        · exact hall.out j (by omega)
      clear hao hlen hcap
      by_cases h4 : len ≤ 20
      · have h4' : ¬ (len : Int) > 20 := by omega
        have h4'' : ¬ (20 : Int) < (len : Int) := by omega
        go_wp2_with fail
        go_round
        case rel => exact ⟨k + 1, by omega, by go_num, HNx.out (.inl h4)⟩
        case measure => simp [intOf]; omega
      · have h4' : (len : Int) > 20 := by omega
        have h4'' : (20 : Int) < (len : Int) := by omega
        by_cases h5 : len = 301
        · subst h5
          clear h4 h4' h4''
          go_wp2_with fail
          go_round
          case rel => exact ⟨k + 1, by omega, by go_num, HNx.out (.inr (.inl rfl))⟩
          case measure => simp [intOf]; omega
        · by_cases h6 : len = 131
          · subst h6
            clear h4 h4' h4'' h5
            go_wp2_with fail
            go_round
            case rel => exact ⟨k + 1, by omega, by go_num, HNx.out (.inr (.inr rfl))⟩
            case measure => simp [intOf]; omega
          · have h5' : ¬ (len : Int) = 301 := by omega
            have h6' : ¬ (len : Int) = 131 := by omega
            have d5 : ((len : Int) != 301) = true := by simp; omega
            have d6 : ((len : Int) != 131) = true := by simp; omega
            have d4 : decide ((len : Int) > 20) = true := decide_eq_true h4'
            have d4' : decide ((20 : Int) < (len : Int)) = true := decide_eq_true h4''
            have HF : Hid (R = false) := by
              cases e : R with
              | false => rfl
              | true =>
                have := HR.out.1 e k hkn
                rw [← HLen.out] at this
                unfold fewL at this
                omega
            go_wp2_with fail
            go_ret
            refine ⟨?_, rfl⟩
            rw [HF.out]; rfl
    · have hk1 : ¬ (k : Int) < (n : Int) := by omega
      have e : k = n := by omega
      subst e
      have HT : Hid (R = true) := HR.out.2 hall.out
      go_wp2_with fail
      go_ret
      refine ⟨?_, rfl⟩
      rw [HT.out]; rfl

theorem few19a (ao : Option Addr) (L cap : Nat) (W : World) (R : Bool) (hR : R = true ↔ fewL L) :
    Calls Tryz.prog 9 #[.slice (some ⟨W.heap.size, 0, none⟩) 1 1] (W.alloc (.cells #[.slice ao L cap] 23)) fun r w' => r = .returned (.bool R) ∧ w' = W.alloc (.cells #[.slice ao L cap] 23) := by
  refine f19few (some ⟨W.heap.size, 0, none⟩) 1 1 (fun _ => ao) (fun _ => L) (fun _ => cap) _ (by omega) R ?_ ?_
  · rw [hR]
    exact ⟨fun h i hi => h, fun h => h 0 (by omega)⟩
  · intro i hi
    refine ⟨_, _, rfl, ?_⟩
    obtain rfl : i = 0 := by omega
    exact (cell_of_row _ _ 0 _ _ _ (heap_alloc_new W _)).trans rfl

theorem few19b (ao bo : Option Addr) (L M cap dap : Nat) (W : World) (R : Bool) (hR : R = true ↔ fewL L ∧ fewL M) :
    Calls Tryz.prog 9 #[.slice (some ⟨W.heap.size, 0, none⟩) 2 2] (W.alloc (.cells #[.slice ao L cap, .slice bo M dap] 23)) fun r w' => r = .returned (.bool R) ∧ w' = W.alloc (.cells #[.slice ao L cap, .slice bo M dap] 23) := by
  refine f19few (some ⟨W.heap.size, 0, none⟩) 2 2 (fun i => if i = 0 then ao else bo) (fun i => if i = 0 then L else M) (fun i => if i = 0 then cap else dap) _ (by omega) R ?_ ?_
  · rw [hR]
    refine ⟨fun h i hi => ?_, fun h => ⟨h 0 (by omega), h 1 (by omega)⟩⟩
    have : i = 0 ∨ i = 1 := by omega
    rcases this with rfl | rfl
    · exact h.1
    · exact h.2
  · intro i hi
    refine ⟨_, _, rfl, ?_⟩
    have : i = 0 ∨ i = 1 := by omega
    rcases this with rfl | rfl <;> exact (cell_of_row _ _ _ _ _ _ (heap_alloc_new W _)).trans rfl

theorem row19 (W : World) (z : Nat) : Row .u64 (W.alloc (.cells #[.int .u64 (z : Nat)] 24)) (.slice (some ⟨W.heap.size, 0, none⟩) 1 1) [z] :=
  Row.of_own (base := W.heap.size) (e := 24) (World.ownsRow_lit W #[.int .u64 (z : Nat)] 1 (Nat.le_refl _) (by unfold maxLen; omega) rfl)

theorem noKey : ¬ KeyGood [] [] [] [] [] [] [] 0 := fun h => by
  have h1 : 3 ≤ val 18446744073709551616 [] := h.1.2.1.1
  have h2 : val 18446744073709551616 [] = 0 := rfl
  omega

set_option maxRecDepth 20000 in
set_option maxHeartbeats 2000000 in
/-- awake. -/
theorem f19Awake (hC : KCom) (hS : KSiz) (hK : KChk) (w : World) : Calls Tryz.prog 8 #[] w fun r w' => r = .returned (.bool true) ∧ Kept Nought w w' := by
  have h7 := row19 w 7
  have h11 := row19 (w.alloc (.cells #[.int .u64 (7 : Nat)] 24)) 11
  rw [World.size_alloc] at h11
  have k1 := (Kept.refl Nought w).alloc (.cells #[.int .u64 (7 : Nat)] 24)
  have k2 := k1.alloc (.cells #[.int .u64 (11 : Nat)] 24)
  have k3 := (Kept.refl Nought (w.alloc (.cells #[.int .u64 (7 : Nat)] 24))).alloc (.cells #[.int .u64 (11 : Nat)] 24)
  have J1 := hC _ _ 1 1 1 1 [7] [11] 0 [30] _ (by decide +kernel) (by decide +kernel) (h7.grew k3) h11 (Digs.one (by omega)) (Digs.one (by omega)) (by omega) (by omega)
  have HK2 := toHid k2
  clear h7 h11 k1 k2 k3
  go_enter Tryz.func8, Tryz.ntmps8
  go_wp2_with fail
  refine J1.mono ?_
  rintro e w1 ⟨v, rfl, hr, _, k1⟩
  obtain ⟨ao, L, cap, rfl, hL, hLc, hcm, hnn, hnum⟩ := hr.open
  obtain rfl : 1 = L := hL.out
  obtain ⟨b, off, rfl, c0⟩ := hnum 0 (by omega)
  have c0' : w1.cell? ⟨b, off, none⟩ = some (.int .u64 30) := c0
  have HK3 := toHid (HK2.out.trans k1)
  have J2 := hS _ 1 1 [256] _ (row19 w1 256) (Digs.one (by omega)) (by omega)
  rw [show sizeN (val 18446744073709551616 [256]) = 2 by decide +kernel] at J2
  have HK4 := toHid (HK3.out.alloc (.cells #[.int .u64 (256 : Nat)] 24))
  clear J1 hr hL hnum c0 k1 hnn hC hS
  go_wp2_with fail
  refine J2.mono ?_
  rintro e w2 ⟨rfl, k2⟩
  have HK5 := toHid (HK4.out.trans k2)
  have J3 := hK none none none none none none none 0 0 0 0 0 0 0 0 0 0 0 0 0 0 0 [] [] [] [] [] [] [] 190 w2 (by omega) (.inr ⟨rfl, noKey⟩) (Row.nil _ _) (Row.nil _ _) (Row.nil _ _) (Row.nil _ _) (Row.nil _ _) (Row.nil _ _) (Row.nil _ _) (Digs.nil _) (Digs.nil _) (Digs.nil _) (Digs.nil _) (Digs.nil _) (Digs.nil _) (Digs.nil _) (by omega) (by omega)
  clear J2 k2 c0' hK
  go_wp2_with fail
  refine J3.mono ?_
  rintro e w3 ⟨rfl, k3⟩
  have HK6 := toHid (HK5.out.trans k3)
  clear J3 k3
  go_wp2_with fail
  go_ret
  exact ⟨rfl, HK6.out⟩

end Go.Proofs.YtiljkgoafknefaaGreat


/- Layer 19: a key in memory, its rows by name; what Of answers is one. -/
namespace Go.Proofs.YtiljkgoafknefaaGreat
open Go.RowKit

/-- A key's cells: seven slices and a word. -/
structure KS where
  no : Option Addr
  nl : Nat
  nc : Nat
  en : Nat
  dO : Option Addr
  dl : Nat
  dc : Nat
  po : Option Addr
  pl : Nat
  pc : Nat
  qo : Option Addr
  ql : Nat
  qc : Nat
  dpo : Option Addr
  dpl : Nat
  dpc : Nat
  dqo : Option Addr
  dql : Nat
  dqc : Nat
  qio : Option Addr
  qil : Nat
  qic : Nat

def KS.v (t : KS) : Array Value := #[.slice t.no t.nl t.nc, .int .u64 ((t.en : Nat) : Int), .slice t.dO t.dl t.dc, .slice t.po t.pl t.pc, .slice t.qo t.ql t.qc, .slice t.dpo t.dpl t.dpc, .slice t.dqo t.dql t.dqc, .slice t.qio t.qil t.qic]

/-- A key's seven numbers. -/
structure KL where
  n : List Nat
  d : List Nat
  p : List Nat
  q : List Nat
  dp : List Nat
  dq : List Nat
  qi : List Nat

/-- The cells show the numbers. -/
structure KS.Rows (w : World) (t : KS) (l : KL) : Prop where
  n : Row .u64 w (.slice t.no t.nl t.nc) l.n
  d : Row .u64 w (.slice t.dO t.dl t.dc) l.d
  p : Row .u64 w (.slice t.po t.pl t.pc) l.p
  q : Row .u64 w (.slice t.qo t.ql t.qc) l.q
  dp : Row .u64 w (.slice t.dpo t.dpl t.dpc) l.dp
  dq : Row .u64 w (.slice t.dqo t.dql t.dqc) l.dq
  qi : Row .u64 w (.slice t.qio t.qil t.qic) l.qi

theorem KS.Rows.grew {w w' : World} {t : KS} {l : KL} (h : t.Rows w l) (k : Kept Nought w w') : t.Rows w' l := ⟨h.n.grew k, h.d.grew k, h.p.grew k, h.q.grew k, h.dp.grew k, h.dq.grew k, h.qi.grew k⟩

/-- The numbers are words. -/
structure KL.Digs (l : KL) : Prop where
  n : Proofs.YtiljkgoafknefaaGreat.Digs 18446744073709551616 l.n
  d : Proofs.YtiljkgoafknefaaGreat.Digs 18446744073709551616 l.d
  p : Proofs.YtiljkgoafknefaaGreat.Digs 18446744073709551616 l.p
  q : Proofs.YtiljkgoafknefaaGreat.Digs 18446744073709551616 l.q
  dp : Proofs.YtiljkgoafknefaaGreat.Digs 18446744073709551616 l.dp
  dq : Proofs.YtiljkgoafknefaaGreat.Digs 18446744073709551616 l.dq
  qi : Proofs.YtiljkgoafknefaaGreat.Digs 18446744073709551616 l.qi

/-- What Of answers. -/
def KeySays (L M P Q e E en : Nat) (l : KL) : Prop :=
  (E = 0 ∧ keyOk L M P Q e ∧ en = e ∧ ∃ d u, keyRows P Q e d u l.n l.d l.p l.q l.dp l.dq l.qi) ∨ (E = 190 ∧ ¬ keyOk L M P Q e ∧ en = 0 ∧ l = ⟨[], [], [], [], [], [], []⟩)

theorem KeySays.uniq {L M P Q e E E' en en' : Nat} {l l' : KL} (h : KeySays L M P Q e E en l) (h' : KeySays L M P Q e E' en' l') : E' = E ∧ en' = en ∧ l' = l := by
  rcases h with ⟨rfl, hok, rfl, d, u, h1⟩ | ⟨rfl, hno, rfl, rfl⟩
  · rcases h' with ⟨rfl, _, rfl, d', u', h2⟩ | ⟨_, hno, _⟩
    · have hd : d' = d := inv_one (Nat.Coprime.symm hok.2.2.2.2.2) h2.1 h1.1 h2.2.1 h1.2.1
      have hu : u' = u := inv_one hok.2.2.2.1 h2.2.2.1 h1.2.2.1 h2.2.2.2.1 h1.2.2.2.1
      subst hd hu
      obtain ⟨_, _, _, _, a1, a2, a3, a4, a5, a6, a7⟩ := h1
      obtain ⟨_, _, _, _, b1, b2, b3, b4, b5, b6, b7⟩ := h2
      refine ⟨rfl, rfl, ?_⟩
      cases l
      cases l'
      simp only at a1 a2 a3 a4 a5 a6 a7 b1 b2 b3 b4 b5 b6 b7
      rw [a1, a2, a3, a4, a5, a6, a7, b1, b2, b3, b4, b5, b6, b7]
    · exact absurd hok hno
  · rcases h' with ⟨_, hok, _⟩ | ⟨rfl, _, rfl, rfl⟩
    · exact absurd hok hno
    · exact ⟨rfl, rfl, rfl⟩

theorem KeySays.digs {L M P Q e E en : Nat} {l : KL} (h : KeySays L M P Q e E en l) : l.Digs := by
  rcases h with ⟨_, _, _, d, u, h1⟩ | ⟨_, _, _, rfl⟩
  · obtain ⟨_, _, _, _, a1, a2, a3, a4, a5, a6, a7⟩ := h1
    refine ⟨?_, ?_, ?_, ?_, ?_, ?_, ?_⟩
    · rw [a1]; exact digs_digs (by omega) _ _
    · rw [a2]; exact digs_digs (by omega) _ _
    · rw [a3]; exact digs_digs (by omega) _ _
    · rw [a4]; exact digs_digs (by omega) _ _
    · rw [a5]; exact digs_digs (by omega) _ _
    · rw [a6]; exact digs_digs (by omega) _ _
    · rw [a7]; exact digs_digs (by omega) _ _
  · exact ⟨Digs.nil _, Digs.nil _, Digs.nil _, Digs.nil _, Digs.nil _, Digs.nil _, Digs.nil _⟩

/-- What Of answers, by name. -/
def OfAns19 (w : World) (L M P Q e : Nat) (r : Ending) (w' : World) : Prop := ∃ (t : KS) (E : Nat), r = .returned (.tuple #[.agg t.v, .int .i64 ((E : Nat) : Int)]) ∧ ∃ l : KL, t.Rows w' l ∧ KeySays L M P Q e E t.en l ∧ KeyFar w.heap.size t.v ∧ Kept Nought w w'

theorem of19 {w w' : World} {L M P Q e : Nat} {r : Ending} (h : ∃ kv E, r = .returned (.tuple #[.agg kv, .int .i64 ((E : Nat) : Int)]) ∧ ((E = 0 ∧ keyOk L M P Q e ∧ KeyAt w' P Q e kv) ∨ (E = 190 ∧ ¬ keyOk L M P Q e ∧ kv = zeroKey)) ∧ KeyFar w.heap.size kv ∧ Kept Nought w w') : OfAns19 w L M P Q e r w' := by
  obtain ⟨kv, E, rfl, hc, hf, k⟩ := h
  rcases hc with ⟨rfl, hok, hat⟩ | ⟨rfl, hno, rfl⟩
  · obtain ⟨vn, vd, vp, vq, vdp, vdq, vqi, d, u, rfl, rn, hd1, hd2, rd, rp, rq, rdp, rdq, hu1, hu2, rqi⟩ := hat
    obtain ⟨bno, bnl, bnc, rfl, -, -, -, -, -⟩ := rn.open
    obtain ⟨bdo, bdl, bdc, rfl, -, -, -, -, -⟩ := rd.open
    obtain ⟨bpo, bpl, bpc, rfl, -, -, -, -, -⟩ := rp.open
    obtain ⟨bqo, bql, bqc, rfl, -, -, -, -, -⟩ := rq.open
    obtain ⟨bdpo, bdpl, bdpc, rfl, -, -, -, -, -⟩ := rdp.open
    obtain ⟨bdqo, bdql, bdqc, rfl, -, -, -, -, -⟩ := rdq.open
    obtain ⟨bqio, bqil, bqic, rfl, -, -, -, -, -⟩ := rqi.open
    exact ⟨⟨bno, bnl, bnc, e, bdo, bdl, bdc, bpo, bpl, bpc, bqo, bql, bqc, bdpo, bdpl, bdpc, bdqo, bdql, bdqc, bqio, bqil, bqic⟩, 0, rfl, ⟨_, _, _, _, _, _, _⟩, ⟨rn, rd, rp, rq, rdp, rdq, rqi⟩, .inl ⟨rfl, hok, rfl, d, u, hd1, hd2, hu1, hu2, rfl, rfl, rfl, rfl, rfl, rfl, rfl⟩, hf, k⟩
  · exact ⟨⟨none, 0, 0, 0, none, 0, 0, none, 0, 0, none, 0, 0, none, 0, 0, none, 0, 0, none, 0, 0⟩, 190, rfl, ⟨[], [], [], [], [], [], []⟩, ⟨Row.nil _ _, Row.nil _ _, Row.nil _ _, Row.nil _ _, Row.nil _ _, Row.nil _ _, Row.nil _ _⟩, .inr ⟨rfl, hno, rfl, rfl⟩, hf, k⟩

/-- Two keys held against each other. -/
theorem same19 (s t : KS) (l m : KL) (R : Bool) (hR : R = true ↔ s.en = t.en ∧ l = m) (w : World) (hs : s.Rows w l) (ht : t.Rows w m) :
    Calls Tryz.prog 14 #[.agg s.v, .agg t.v] w fun e w' => e = .returned (.bool R) ∧ Kept Nought w w' :=
  r18Same s.no s.dO s.po s.qo s.dpo s.dqo s.qio t.no t.dO t.po t.qo t.dpo t.dqo t.qio s.nl s.nc s.dl s.dc s.pl s.pc s.ql s.qc s.dpl s.dpc s.dql s.dqc s.qil s.qic t.nl t.nc t.dl t.dc t.pl t.pc t.ql t.qc t.dpl t.dpc t.dql t.dqc t.qil t.qic s.en t.en l.n l.d l.p l.q l.dp l.dq l.qi m.n m.d m.p m.q m.dp m.dq m.qi R (hR.trans ⟨fun h => by obtain ⟨h1, rfl⟩ := h; exact ⟨h1, rfl, rfl, rfl, rfl, rfl, rfl, rfl⟩, fun h => ⟨h.1, by cases l; cases m; simp only at h; obtain ⟨_, rfl, rfl, rfl, rfl, rfl, rfl, rfl⟩ := h; rfl⟩⟩) w hs.n hs.d hs.p hs.q hs.dp hs.dq hs.qi ht.n ht.d ht.p ht.q ht.dp ht.dq ht.qi

end Go.Proofs.YtiljkgoafknefaaGreat

