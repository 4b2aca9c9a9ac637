/- Put together of: WKeyEquations LKeyEquations. -/
import Derived.Test.YtiljkgoafknefaaGreatPk2
import Derived.Test.YtiljkgoafknefaaGreatPk40
import Derived.Test.YtiljkgoafknefaaGreatPk41
import Derived.Deep.RegionHeld3

/- The walk of the statement on a key's equations, of the landed contracts. -/
namespace Go.Proofs.YtiljkgoafknefaaGreat
open Go.RowKit

set_option maxRecDepth 40000 in
set_option maxHeartbeats 8000000 in
theorem wKeyEquations (hC : KCom) (hS : KSiz) (hK : KChk) (hP9 : KPub) (hO : KOfC) (u : Value) (xs : List Nat) (v : Value) (ys : List Nat) (e : Int) (w : World) (hu : Row .u64 w u xs) (hv : Row .u64 w v ys) (hdx : Digs 18446744073709551616 xs) (hdy : Digs 18446744073709551616 ys) (he : (Lit.int .u64 e).wf = true) :
    Calls Tryz.prog 7 #[u, v, .int .u64 e] w fun e w' => e = .returned (.bool true) ∧ Below w.heap.size w w' := by
  obtain ⟨he0, he1⟩ := bounds_u64 he
  obtain ⟨e, rfl⟩ := Int.eq_ofNat_of_zero_le he0
  have heb : e < 18446744073709551616 := by omega
  obtain ⟨ao, L, cap, rfl, hL, _, _, _, _⟩ := hu.open
  obtain ⟨bo, M, dap, rfl, hM, _, _, _, _⟩ := hv.open
  have hA := f19Awake hC hS hK w
  obtain ⟨P, hP⟩ : ∃ P, P = val 18446744073709551616 xs := ⟨_, rfl⟩
  obtain ⟨Q, hQ⟩ : ∃ Q, Q = val 18446744073709551616 ys := ⟨_, rfl⟩
  have JF := toHid fun W (k : Kept Nought w W) (hl : L ≤ 1000) (hm : M ≤ 1000) => (hO ao bo L M cap dap xs ys P Q e W hP hQ heb (hu.grew k) (hv.grew k) hdx hdy hl hm).mono fun _ _ h => of19 h
  have HEB : Hid (e < 18446744073709551616) := heb
  have HKC := toHid hK
  have HKP := toHid hP9
  clear hu hv hdx hdy hL hM he hC hS hK hO hP hQ he0 he1 heb hP9
  by_cases hf : fewL L ∧ fewL M
  · have hl := hf.1.le
    have hm := hf.2.le
    have HF := toHid fun W => few19b ao bo L M cap dap W true (iff_of_true rfl hf)
    clear hf
    go_enter Tryz.func7, Tryz.ntmps7
    go_wp2_with fail
    refine hA.mono ?_
    rintro r w1 ⟨rfl, k1⟩
    have HK2 := toHid (k1.alloc (.cells #[.slice ao L cap, .slice bo M dap] 23))
    have J1 := HF.out w1
    clear hA k1
    go_wp2_with fail
    refine J1.mono ?_
    rintro r w2 ⟨rfl, rfl⟩
    generalize w1.alloc (.cells #[.slice ao L cap, .slice bo M dap] 23) = w3 at *
    have J2 := JF.out w3 HK2.out (by omega) (by omega)
    clear J1
    go_wp2_with fail
    refine J2.mono ?_
    rintro r w4 ⟨t, E, rfl, l, hr4, hs4, _, k4⟩
    obtain ⟨W4, hW4⟩ : ∃ W4, W4 = w4.alloc (.cells t.v 32) := ⟨_, rfl⟩
    have kk4 : Kept Nought w4 W4 := by rw [hW4]; exact (Kept.refl Nought w4).alloc _
    have hx4 : W4.heap[w4.heap.size]? = some (.cells t.v 32 (0, 0)) := by rw [hW4]; exact heap_alloc_new _ _
    have HR4 := toHid (hr4.grew kk4)
    have HX4 := toHid hx4
    have HSA := toHid hs4
    have HK4 := toHid ((HK2.out.trans k4).trans kk4)
    have HW4 := toHid hW4
    have JC : Hid (∀ W, Kept Nought W4 W → W.cell? ⟨w4.heap.size, 0, none⟩ = some (.slice t.no t.nl t.nc) ∧ W.cell? ⟨w4.heap.size, 1, none⟩ = some (.int .u64 ((t.en : Nat) : Int)) ∧ W.cell? ⟨w4.heap.size, 2, none⟩ = some (.slice t.dO t.dl t.dc) ∧ W.cell? ⟨w4.heap.size, 3, none⟩ = some (.slice t.po t.pl t.pc) ∧ W.cell? ⟨w4.heap.size, 4, none⟩ = some (.slice t.qo t.ql t.qc) ∧ W.cell? ⟨w4.heap.size, 5, none⟩ = some (.slice t.dpo t.dpl t.dpc) ∧ W.cell? ⟨w4.heap.size, 6, none⟩ = some (.slice t.dqo t.dql t.dqc) ∧ W.cell? ⟨w4.heap.size, 7, none⟩ = some (.slice t.qio t.qil t.qic)) := fun W k => cells8 ((k.block _ (lt_of_block hx4) (fun f => f)).trans hx4)
    clear J2 k4 hr4 hs4 kk4 hx4 hW4 HX4
    obtain ⟨c0, c1, c2, c3, c4, c5, c6, c7⟩ := JC.out _ (Kept.refl _ _)
    rcases HSA.out with ⟨rfl, hok, hen, d, u, hkr⟩ | ⟨rfl, _, hen, hl0⟩
    · have HN := toHid (keyNums HEB.out hok hkr)
      have HGD := toHid (keyGood_of HEB.out hok hkr)
      have HPE : Hid (pubE l.n e = 0) := by unfold Hid; rw [hkr.2.2.2.2.1]; exact hok.2.2.2.2.1
      have HDG := toHid HSA.out.digs
      have hLL : ∀ (o : Option Addr) (n c : Nat) (zs : List Nat), Row .u64 W4 (.slice o n c) zs → zs.length ≤ 1000 → n ≤ 1000 := fun o n c zs hr hz => by
        obtain ⟨_, _, _, e1, h1, _⟩ := hr.open
        cases e1
        rw [← h1.out]
        exact hz
      have w1 : wordsN P ≤ 128 := words_of_bits (by have := hok.2.1.2.2; omega)
      have w2 : wordsN Q ≤ 128 := words_of_bits (by have := hok.2.2.1.2.2; omega)
      have zz : l.n.length ≤ 1000 ∧ l.d.length ≤ 1000 ∧ l.p.length ≤ 1000 ∧ l.q.length ≤ 1000 ∧ l.dp.length ≤ 1000 ∧ l.dq.length ≤ 1000 ∧ l.qi.length ≤ 1000 := by
        obtain ⟨_, _, _, _, a1, a2, a3, a4, a5, a6, a7⟩ := hkr
        have hk : (keyWords P Q).length ≤ 1000 := by
          have h1 : (keyWords P Q).length = max (wordsN (P * Q)) 1 := digs_length _ _ _
          have h2 : wordsN (P * Q) ≤ 512 := words_le_dlen (dlen19x HN.out.lp HN.out.lq)
          omega
        refine ⟨by rw [a1]; exact hk, ?_, ?_, ?_, ?_, ?_, ?_⟩
        · rw [a2, digs_length]; exact hk
        · rw [a3, digs_length]; omega
        · rw [a4, digs_length]; omega
        · rw [a5, digs_length]; omega
        · rw [a6, digs_length]; omega
        · rw [a7, digs_length]; omega
      have HZZ := toHid zz
      have HPL : Hid (t.pl ≤ 1000 ∧ t.ql ≤ 1000 ∧ t.nl ≤ 1000) := ⟨hLL _ _ _ _ HR4.out.p zz.2.2.1, hLL _ _ _ _ HR4.out.q zz.2.2.2.1, hLL _ _ _ _ HR4.out.n zz.1⟩
      clear hok hkr hLL w1 w2 zz HSA
      have HEN := toHid hen
      rw [hen] at c1
      have K0 : Kept Nought W4 W4 := Kept.refl _ _
      have h1 := rSmall 1 (by omega) W4
      unfold KS.v at HW4 ⊢
      rw [hen] at HW4 ⊢
      clear hen
      go_wp2_with (rw [← HW4.out])
      refine h1.mono ?_
      rintro r w5 ⟨v1, rfl, b1, _, k5⟩
      have K5 := K0.trans k5
      clear h1 k5 K0
      clear c0 c1 c2 c3 c4 c5 c6 c7
      obtain ⟨c0, c1, c2, c3, c4, c5, c6, c7⟩ := JC.out _ K5
      rw [HEN.out] at c1
      have k5d : Kept Nought w5 w5.drew := (Kept.refl Nought w5).drew
      have JA := rOf (.slice t.po t.pl t.pc) l.p w5.drew (HR4.out.p.grew (K5.trans k5d)) HDG.out.p (by have := HZZ.out; omega)
      have JB := toHid fun W (k : Kept Nought W4 W) => rOf (.slice t.qo t.ql t.qc) l.q W (HR4.out.q.grew k) HDG.out.q (by have := HZZ.out; omega)
      have JD := toHid fun W (k : Kept Nought W4 W) => rOf (.slice t.dO t.dl t.dc) l.d W (HR4.out.d.grew k) HDG.out.d (by have := HZZ.out; omega)
      rw [HN.out.vp] at JA
      rw [HN.out.vq] at JB
      rw [HN.out.vd] at JD
      go_wp2_with fail
      go_region_held3 (fun w' => w'.cell? ⟨w4.heap.size, 3, none⟩ = some (.slice t.po t.pl t.pc) ∧ w'.cell? ⟨w4.heap.size, 4, none⟩ = some (.slice t.qo t.ql t.qc) ∧ w'.cell? ⟨w4.heap.size, 2, none⟩ = some (.slice t.dO t.dl t.dc))
        (((try dsimp only); (repeat' apply And.intro) <;> first | (go_keep; done) | assumption))
        (first
        | (go_at_call 24; refine (JD.out w7 K7).mono ?_; rintro r w8 ⟨vd, rfl, b8, _, k8⟩; have K8 := K7.trans k8; obtain ⟨_, _, x2, x3, x4, _, _, _⟩ := JC.out _ K8)
        | (go_at_call 24; refine (JB.out w6 K6).mono ?_; rintro r w7 ⟨vb, rfl, b7, _, k7⟩; have K7 := K6.trans k7; obtain ⟨_, _, y2, y3, y4, _, _, _⟩ := JC.out _ K7)
        | (go_at_call 24; refine JA.mono ?_; rintro r w6 ⟨va, rfl, b6, _, k6⟩; have K6 := (K5.trans k5d).trans k6; obtain ⟨_, _, z2, z3, z4, _, _, _⟩ := JC.out _ K6))
      have b1 := b1.grew (k5d.trans (k6.trans (k7.trans k8)))
      have b6 := b6.grew (k7.trans k8)
      have b7 := b7.grew k8
      obtain ⟨ao6, an6, ac6, rfl, hn6, _⟩ := b6.length
      obtain ⟨ao7, an7, ac7, rfl, hn7, _⟩ := b7.length
      clear JA JB JD k5d k6 k7 k8 K5 K6 K7 x2 x3 x4 y2 y3 y4 z2 z3 z4 hn6 hn7
      clear c0 c1 c2 c3 c4 c5 c6 c7
      obtain ⟨c0, c1, c2, c3, c4, c5, c6, c7⟩ := JC.out _ K8
      rw [HEN.out] at c1
      have h9 := rSmall e HEB.out w8
      go_wp2_with fail
      refine h9.mono ?_
      rintro r w9 ⟨v9, rfl, b9, _, k9⟩
      have K9 := K8.trans k9
      have b1 := b1.grew k9
      have b6 := b6.grew k9
      have b7 := b7.grew k9
      have b8 := b8.grew k9
      clear h9 k9 K8
      clear c0 c1 c2 c3 c4 c5 c6 c7
      obtain ⟨c0, c1, c2, c3, c4, c5, c6, c7⟩ := JC.out _ K9
      rw [HEN.out] at c1
      have h10 := rMul _ _ _ _ w9 b8 b9 (by have := HN.out.ld; omega) (by have := (dlen_le e 2).2 HEB.out; omega)
      go_wp2_with fail
      refine h10.mono ?_
      rintro r w10 ⟨v10, rfl, b10, _, k10⟩
      have K10 := K9.trans k10
      have b1 := b1.grew k10
      have b6 := b6.grew k10
      have b7 := b7.grew k10
      have b8 := b8.grew k10
      have b9 := b9.grew k10
      clear h10 k10 K9
      clear c0 c1 c2 c3 c4 c5 c6 c7
      obtain ⟨c0, c1, c2, c3, c4, c5, c6, c7⟩ := JC.out _ K10
      rw [HEN.out] at c1
      have h11 := rSub _ _ _ _ w10 b10 b1 HN.out.ed
      go_wp2_with fail
      refine h11.mono ?_
      rintro r w11 ⟨v11, rfl, b11, _, k11⟩
      have K11 := K10.trans k11
      have b1 := b1.grew k11
      have b6 := b6.grew k11
      have b7 := b7.grew k11
      have b8 := b8.grew k11
      have b9 := b9.grew k11
      have b10 := b10.grew k11
      clear h11 k11 K10
      clear c0 c1 c2 c3 c4 c5 c6 c7
      obtain ⟨c0, c1, c2, c3, c4, c5, c6, c7⟩ := JC.out _ K11
      rw [HEN.out] at c1
      obtain ⟨W12, hW12⟩ : ∃ W12, W12 = w11.alloc (.cells #[.slice ao6 an6 ac6, .slice ao7 an7 ac7] 49) := ⟨_, rfl⟩
      have k12 : Kept Nought w11 W12 := by rw [hW12]; exact (Kept.refl Nought w11).alloc _
      have hx12 : W12.heap[w11.heap.size]? = some (.cells #[.slice ao6 an6 ac6, .slice ao7 an7 ac7] 49 (0, 0)) := by rw [hW12]; exact heap_alloc_new _ _
      have HX12 : Hid (∀ W, Kept Nought W12 W → W.heap[w11.heap.size]? = some (.cells #[.slice ao6 an6 ac6, .slice ao7 an7 ac7] 49 (0, 0))) := fun W k => (k.block _ (lt_of_block hx12) (fun f => f)).trans hx12
      have HB1 := toHid (b1.grew k12)
      have HB6 := toHid (b6.grew k12)
      have HB7 := toHid (b7.grew k12)
      have HB8 := toHid (b8.grew k12)
      have HB11 := toHid (b11.grew k12)
      have HK12 := toHid (K11.trans k12)
      have HW12 := toHid hW12
      clear b1 b6 b7 b8 b9 b10 b11 k12 hx12 K11 hW12 c0 c1 c2 c3 c4 c5 c6 c7
      go_wp2_with (rw [← HW12.out])
      go_loopw [58] (fun iv wr => ∃ j : Nat, j ≤ 2 ∧ iv = .int .i64 (j : Int) ∧ Hid (Kept Nought W12 wr)) (fun iv _ => 2 - (intOf iv).toNat)
      case atStart => exact ⟨0, Nat.zero_le _, rfl, Kept.refl _ _⟩
      case round =>
        obtain ⟨j, hj, rfl, hkj⟩ := hrel
        by_cases hjn : j < 2
        · have g4 : (j : Int) < 2 := by omega
          have hcase : ∃ (oj : Option Addr) (nj cj Vj : Nat), wr.cell? ⟨w11.heap.size, j, none⟩ = some (.slice oj nj cj) ∧ IsBig wr (.slice oj nj cj) Vj ∧ 3 ≤ Vj ∧ (d * e - 1) % (Vj - 1) = 0 := by
            have hx := HX12.out _ hkj.out
            have : j = 0 ∨ j = 1 := by omega
            rcases this with rfl | rfl
            · exact ⟨ao6, an6, ac6, P, (cell_of_row _ _ 0 _ _ _ hx).trans rfl, HB6.out.grew hkj.out, HN.out.p3, HN.out.e1⟩
            · exact ⟨ao7, an7, ac7, Q, (cell_of_row _ _ 1 _ _ _ hx).trans rfl, HB7.out.grew hkj.out, HN.out.q3, HN.out.e2⟩
          obtain ⟨oj, nj, cj, Vj, cj0, bj, hV3, hVm⟩ := hcase
          have h1 := rSub _ _ _ _ wr bj (HB1.out.grew hkj.out) (by omega)
          clear bj
          go_wp2_with fail
          refine h1.mono ?_
          rintro r w13 ⟨v13, rfl, b13, _, k13⟩
          have h2 := rMod _ _ _ _ w13 (HB11.out.grew (hkj.out.trans k13)) b13 (by omega) (by have := HN.out.lde1; omega)
          rw [hVm] at h2
          clear h1 b13 cj0
          go_wp2_with fail
          refine h2.mono ?_
          rintro r w14 ⟨v14, rfl, b14, _, k14⟩
          obtain ⟨ao14, an14, ac14, rfl, hn14, _⟩ := b14.length
          obtain rfl : an14 = 0 := hn14.out
          have hkk := toHid (hkj.out.trans (k13.trans k14))
          clear h2 b14 k13 k14 hn14 hV3 hVm
          go_wp2_with fail
          go_roundw
          case rel => exact ⟨j + 1, by omega, by go_num, hkk⟩
          case measure => simp [intOf]; omega
        · have g4 : ¬ (j : Int) < 2 := by omega
          have K14 := HK12.out.trans hkj.out
          have b1 := HB1.out.grew hkj.out
          have b6 := HB6.out.grew hkj.out
          have b7 := HB7.out.grew hkj.out
          have b8 := HB8.out.grew hkj.out
          obtain ⟨w14, hw14⟩ : ∃ w14, w14 = wr := ⟨_, rfl⟩
          rw [← hw14] at K14 b1 b6 b7 b8 ⊢
          clear hw14 hkj
          have LP := HN.out.lp
          have LQ := HN.out.lq
          have LD := HN.out.ld
          have P3 := HN.out.p3
          have Q3 := HN.out.q3
          have h15 := rMul _ _ _ _ w14 b6 b7 (by omega) (by omega)
          go_wp2_with fail
          refine h15.mono ?_
          rintro r w15 ⟨v15, rfl, b15, _, k15⟩
          have K15 := K14.trans k15
          have b1 := b1.grew k15
          have b6 := b6.grew k15
          have b7 := b7.grew k15
          have b8 := b8.grew k15
          clear h15 k15 K14
          obtain ⟨c0, c1, c2, c3, c4, c5, c6, c7⟩ := JC.out _ K15
          rw [HEN.out] at c1
          have h16 := rSub _ _ _ _ w15 b6 b1 (by omega)
          go_wp2_with fail
          refine h16.mono ?_
          rintro r w16 ⟨v16, rfl, b16, _, k16⟩
          have K16 := K15.trans k16
          have b1 := b1.grew k16
          have b6 := b6.grew k16
          have b7 := b7.grew k16
          have b8 := b8.grew k16
          have b15 := b15.grew k16
          clear h16 k16 K15
          clear c0 c1 c2 c3 c4 c5 c6 c7
          obtain ⟨c0, c1, c2, c3, c4, c5, c6, c7⟩ := JC.out _ K16
          rw [HEN.out] at c1
          have h17 := rMod _ _ _ _ w16 b8 b16 (by omega) (by omega)
          go_wp2_with fail
          refine h17.mono ?_
          rintro r w17 ⟨v17, rfl, b17, _, k17⟩
          have K17 := K16.trans k17
          have b1 := b1.grew k17
          have b6 := b6.grew k17
          have b7 := b7.grew k17
          have b8 := b8.grew k17
          have b15 := b15.grew k17
          have b16 := b16.grew k17
          clear h17 k17 K16
          clear c0 c1 c2 c3 c4 c5 c6 c7
          obtain ⟨c0, c1, c2, c3, c4, c5, c6, c7⟩ := JC.out _ K17
          rw [HEN.out] at c1
          have h18 := rSub _ _ _ _ w17 b7 b1 (by omega)
          go_wp2_with fail
          refine h18.mono ?_
          rintro r w18 ⟨v18, rfl, b18, _, k18⟩
          have K18 := K17.trans k18
          have b1 := b1.grew k18
          have b6 := b6.grew k18
          have b7 := b7.grew k18
          have b8 := b8.grew k18
          have b15 := b15.grew k18
          have b16 := b16.grew k18
          have b17 := b17.grew k18
          clear h18 k18 K17
          clear c0 c1 c2 c3 c4 c5 c6 c7
          obtain ⟨c0, c1, c2, c3, c4, c5, c6, c7⟩ := JC.out _ K18
          rw [HEN.out] at c1
          have h19 := rMod _ _ _ _ w18 b8 b18 (by omega) (by omega)
          go_wp2_with fail
          refine h19.mono ?_
          rintro r w19 ⟨v19, rfl, b19, _, k19⟩
          have K19 := K18.trans k19
          have b1 := b1.grew k19
          have b6 := b6.grew k19
          have b7 := b7.grew k19
          have b8 := b8.grew k19
          have b15 := b15.grew k19
          have b16 := b16.grew k19
          have b17 := b17.grew k19
          have b18 := b18.grew k19
          clear h19 k19 K18
          clear c0 c1 c2 c3 c4 c5 c6 c7
          obtain ⟨c0, c1, c2, c3, c4, c5, c6, c7⟩ := JC.out _ K19
          rw [HEN.out] at c1
          have h20 := rOf (.slice t.no t.nl t.nc) l.n w19 (HR4.out.n.grew K19) HDG.out.n (by have := HZZ.out; omega)
          go_wp2_with fail
          refine h20.mono ?_
          rintro r w20 ⟨v20, rfl, b20, _, k20⟩
          have K20 := K19.trans k20
          have b1 := b1.grew k20
          have b6 := b6.grew k20
          have b7 := b7.grew k20
          have b8 := b8.grew k20
          have b15 := b15.grew k20
          have b16 := b16.grew k20
          have b17 := b17.grew k20
          have b18 := b18.grew k20
          have b19 := b19.grew k20
          clear h20 k20 K19
          clear c0 c1 c2 c3 c4 c5 c6 c7
          obtain ⟨c0, c1, c2, c3, c4, c5, c6, c7⟩ := JC.out _ K20
          rw [HEN.out] at c1
          have h21 := rCmp _ _ _ _ w20 b15 b20
          rw [HN.out.vn] at h21
          rw [show cmpN (P * Q) (P * Q) = 0 by unfold cmpN; simp] at h21
          go_wp2_with fail
          refine h21.mono ?_
          rintro r w21' ⟨rfl, m21, rfl⟩
          have k21 := (Kept.refl Nought w20).drewN m21
          obtain ⟨w21, hw21⟩ : ∃ w21, w21 = w20.drewN m21 := ⟨_, rfl⟩
          rw [← hw21] at k21 ⊢
          have K21 := K20.trans k21
          have b1 := b1.grew k21
          have b6 := b6.grew k21
          have b7 := b7.grew k21
          have b8 := b8.grew k21
          have b15 := b15.grew k21
          have b16 := b16.grew k21
          have b17 := b17.grew k21
          have b18 := b18.grew k21
          have b19 := b19.grew k21
          have b20 := b20.grew k21
          clear h21 hw21 k21 K20
          clear c0 c1 c2 c3 c4 c5 c6 c7
          obtain ⟨c0, c1, c2, c3, c4, c5, c6, c7⟩ := JC.out _ K21
          rw [HEN.out] at c1
          have h22 := rOf (.slice t.dpo t.dpl t.dpc) l.dp w21 (HR4.out.dp.grew K21) HDG.out.dp (by have := HZZ.out; omega)
          go_wp2_with fail
          refine h22.mono ?_
          rintro r w22 ⟨v22, rfl, b22, _, k22⟩
          have K22 := K21.trans k22
          have b1 := b1.grew k22
          have b6 := b6.grew k22
          have b7 := b7.grew k22
          have b8 := b8.grew k22
          have b15 := b15.grew k22
          have b16 := b16.grew k22
          have b17 := b17.grew k22
          have b18 := b18.grew k22
          have b19 := b19.grew k22
          have b20 := b20.grew k22
          clear h22 k22 K21
          clear c0 c1 c2 c3 c4 c5 c6 c7
          obtain ⟨c0, c1, c2, c3, c4, c5, c6, c7⟩ := JC.out _ K22
          rw [HEN.out] at c1
          have h23 := rCmp _ _ _ _ w22 b17 b22
          rw [HN.out.vdp] at h23
          rw [show cmpN (d % (P - 1)) (d % (P - 1)) = 0 by unfold cmpN; simp] at h23
          go_wp2_with fail
          refine h23.mono ?_
          rintro r w23' ⟨rfl, m23, rfl⟩
          have k23 := (Kept.refl Nought w22).drewN m23
          obtain ⟨w23, hw23⟩ : ∃ w23, w23 = w22.drewN m23 := ⟨_, rfl⟩
          rw [← hw23] at k23 ⊢
          have K23 := K22.trans k23
          have b1 := b1.grew k23
          have b6 := b6.grew k23
          have b7 := b7.grew k23
          have b8 := b8.grew k23
          have b15 := b15.grew k23
          have b16 := b16.grew k23
          have b17 := b17.grew k23
          have b18 := b18.grew k23
          have b19 := b19.grew k23
          have b20 := b20.grew k23
          have b22 := b22.grew k23
          clear h23 hw23 k23 K22
          clear c0 c1 c2 c3 c4 c5 c6 c7
          obtain ⟨c0, c1, c2, c3, c4, c5, c6, c7⟩ := JC.out _ K23
          rw [HEN.out] at c1
          have h24 := rOf (.slice t.dqo t.dql t.dqc) l.dq w23 (HR4.out.dq.grew K23) HDG.out.dq (by have := HZZ.out; omega)
          go_wp2_with fail
          refine h24.mono ?_
          rintro r w24 ⟨v24, rfl, b24, _, k24⟩
          have K24 := K23.trans k24
          have b1 := b1.grew k24
          have b6 := b6.grew k24
          have b7 := b7.grew k24
          have b8 := b8.grew k24
          have b15 := b15.grew k24
          have b16 := b16.grew k24
          have b17 := b17.grew k24
          have b18 := b18.grew k24
          have b19 := b19.grew k24
          have b20 := b20.grew k24
          have b22 := b22.grew k24
          clear h24 k24 K23
          clear c0 c1 c2 c3 c4 c5 c6 c7
          obtain ⟨c0, c1, c2, c3, c4, c5, c6, c7⟩ := JC.out _ K24
          rw [HEN.out] at c1
          have h25 := rCmp _ _ _ _ w24 b19 b24
          rw [HN.out.vdq] at h25
          rw [show cmpN (d % (Q - 1)) (d % (Q - 1)) = 0 by unfold cmpN; simp] at h25
          go_wp2_with fail
          refine h25.mono ?_
          rintro r w25' ⟨rfl, m25, rfl⟩
          have k25 := (Kept.refl Nought w24).drewN m25
          obtain ⟨w25, hw25⟩ : ∃ w25, w25 = w24.drewN m25 := ⟨_, rfl⟩
          rw [← hw25] at k25 ⊢
          have K25 := K24.trans k25
          have b1 := b1.grew k25
          have b6 := b6.grew k25
          have b7 := b7.grew k25
          have b8 := b8.grew k25
          have b15 := b15.grew k25
          have b16 := b16.grew k25
          have b17 := b17.grew k25
          have b18 := b18.grew k25
          have b19 := b19.grew k25
          have b20 := b20.grew k25
          have b22 := b22.grew k25
          have b24 := b24.grew k25
          clear h25 hw25 k25 K24
          clear c0 c1 c2 c3 c4 c5 c6 c7
          obtain ⟨c0, c1, c2, c3, c4, c5, c6, c7⟩ := JC.out _ K25
          rw [HEN.out] at c1
          have h26 := rOf (.slice t.qio t.qil t.qic) l.qi w25 (HR4.out.qi.grew K25) HDG.out.qi (by have := HZZ.out; omega)
          go_wp2_with fail
          refine h26.mono ?_
          rintro r w26 ⟨v26, rfl, b26, _, k26⟩
          have K26 := K25.trans k26
          have b1 := b1.grew k26
          have b6 := b6.grew k26
          have b7 := b7.grew k26
          have b8 := b8.grew k26
          have b15 := b15.grew k26
          have b16 := b16.grew k26
          have b17 := b17.grew k26
          have b18 := b18.grew k26
          have b19 := b19.grew k26
          have b20 := b20.grew k26
          have b22 := b22.grew k26
          have b24 := b24.grew k26
          clear h26 k26 K25
          clear c0 c1 c2 c3 c4 c5 c6 c7
          obtain ⟨c0, c1, c2, c3, c4, c5, c6, c7⟩ := JC.out _ K26
          rw [HEN.out] at c1
          rw [HN.out.vqi] at b26
          have h27 := rMulMod _ _ _ _ _ _ w26 b26 b7 b6 (by omega) (by have := HN.out.lu; omega) (by omega) (by have := HN.out.luq; omega)
          go_wp2_with fail
          refine h27.mono ?_
          rintro r w27 ⟨v27, rfl, b27, _, k27⟩
          have K27 := K26.trans k27
          have b1 := b1.grew k27
          have b6 := b6.grew k27
          have b7 := b7.grew k27
          have b8 := b8.grew k27
          have b15 := b15.grew k27
          have b16 := b16.grew k27
          have b17 := b17.grew k27
          have b18 := b18.grew k27
          have b19 := b19.grew k27
          have b20 := b20.grew k27
          have b22 := b22.grew k27
          have b24 := b24.grew k27
          have b26 := b26.grew k27
          clear h27 k27 K26
          clear c0 c1 c2 c3 c4 c5 c6 c7
          obtain ⟨c0, c1, c2, c3, c4, c5, c6, c7⟩ := JC.out _ K27
          rw [HEN.out] at c1
          rw [HN.out.u1] at b27
          have h28 := rCmp _ _ _ _ w27 b27 b1

          rw [show cmpN 1 1 = 0 by unfold cmpN; simp] at h28
          go_wp2_with fail
          refine h28.mono ?_
          rintro r w28' ⟨rfl, m28, rfl⟩
          have k28 := (Kept.refl Nought w27).drewN m28
          obtain ⟨w28, hw28⟩ : ∃ w28, w28 = w27.drewN m28 := ⟨_, rfl⟩
          rw [← hw28] at k28 ⊢
          have K28 := K27.trans k28
          have b1 := b1.grew k28
          have b6 := b6.grew k28
          have b7 := b7.grew k28
          have b8 := b8.grew k28
          have b15 := b15.grew k28
          have b16 := b16.grew k28
          have b17 := b17.grew k28
          have b18 := b18.grew k28
          have b19 := b19.grew k28
          have b20 := b20.grew k28
          have b22 := b22.grew k28
          have b24 := b24.grew k28
          have b26 := b26.grew k28
          have b27 := b27.grew k28
          clear h28 hw28 k28 K27
          clear c0 c1 c2 c3 c4 c5 c6 c7
          obtain ⟨c0, c1, c2, c3, c4, c5, c6, c7⟩ := JC.out _ K28
          rw [HEN.out] at c1
          have h29 := HKC.out t.no t.dO t.po t.qo t.dpo t.dqo t.qio t.nl t.nc t.dl t.dc t.pl t.pc t.ql t.qc t.dpl t.dpc t.dql t.dqc t.qil t.qic e l.n l.d l.p l.q l.dp l.dq l.qi 0 w28 HEB.out (.inl ⟨rfl, HGD.out⟩) (HR4.out.n.grew K28) (HR4.out.d.grew K28) (HR4.out.p.grew K28) (HR4.out.q.grew K28) (HR4.out.dp.grew K28) (HR4.out.dq.grew K28) (HR4.out.qi.grew K28) HDG.out.n HDG.out.d HDG.out.p HDG.out.q HDG.out.dp HDG.out.dq HDG.out.qi HPL.out.1 HPL.out.2.1
          clear LP LQ LD P3 Q3 b1 b6 b7 b8 b15 b16 b17 b18 b19 b20 b22 b24 b26 b27
          go_wp2_with fail
          refine h29.mono ?_
          rintro r w29 ⟨rfl, k29⟩
          have K29 := K28.trans k29
          clear c0 c1 c2 c3 c4 c5 c6 c7
          obtain ⟨c0, c1, c2, c3, c4, c5, c6, c7⟩ := JC.out _ K29
          rw [HEN.out] at c1
          have h30 := HKP.out t.no t.nl t.nc l.n e w29 HEB.out (HR4.out.n.grew K29) HDG.out.n HPL.out.2.2
          rw [HPE.out] at h30
          clear h29 k29
          go_wp2_with fail
          refine h30.mono ?_
          rintro r w30 ⟨rfl, k30⟩
          have HKF := toHid (HK4.out.trans (K29.trans k30))
          clear h30 k30 c0 c1 c2 c3 c4 c5 c6 c7
          go_wp2_with fail
          go_ret
          exact ⟨by first | rfl | simp, below_kept HKF.out (Nat.le_refl _)⟩
    · rw [hen] at c1
      have JM := same19 t ⟨none, 0, 0, 0, none, 0, 0, none, 0, 0, none, 0, 0, none, 0, 0, none, 0, 0, none, 0, 0⟩ l ⟨[], [], [], [], [], [], []⟩ true (iff_of_true rfl ⟨hen, hl0⟩) W4 HR4.out ⟨Row.nil _ _, Row.nil _ _, Row.nil _ _, Row.nil _ _, Row.nil _ _, Row.nil _ _, Row.nil _ _⟩
      clear HSA hl0 HR4 JC HKC HKP
      unfold KS.v at HW4 JM ⊢
      rw [hen, show ((0 : Nat) : Int) = 0 from rfl] at HW4 JM ⊢
      rw [show ((0 : Nat) : Int) = 0 from rfl] at c1
      clear hen
      go_wp2_with (rw [← HW4.out])
      refine JM.mono ?_
      rintro r w6 ⟨rfl, k6⟩
      have HK6 := toHid (HK4.out.trans k6)
      clear JM k6
      go_wp2_with fail
      go_ret
      exact ⟨by first | rfl | simp, below_kept HK6.out (Nat.le_refl _)⟩
  · have HF := toHid fun W => few19b ao bo L M cap dap W false (iff_of_false (by decide) hf)
    go_enter Tryz.func7, Tryz.ntmps7
    go_wp2_with fail
    refine hA.mono ?_
    rintro r w1 ⟨rfl, k1⟩
    have HK2 := toHid (k1.alloc (.cells #[.slice ao L cap, .slice bo M dap] 23))
    have J1 := HF.out w1
    clear hA k1
    go_wp2_with fail
    refine J1.mono ?_
    rintro r w2 ⟨rfl, rfl⟩
    clear J1 JF
    go_wp2_with fail
    go_ret
    exact ⟨rfl, below_kept HK2.out (Nat.le_refl _)⟩

end Go.Proofs.YtiljkgoafknefaaGreat


/- The walk of KeyEquations, the landed contracts paid. -/
namespace Go.Proofs.YtiljkgoafknefaaGreat
open Go.RowKit

theorem walkKeyEquations (u : Value) (xs : List Nat) (v : Value) (ys : List Nat) (e : Int) (w : World) (hu : Row .u64 w u xs) (hv : Row .u64 w v ys) (hdx : Digs 18446744073709551616 xs) (hdy : Digs 18446744073709551616 ys) (he : (Lit.int .u64 e).wf = true) :
    Calls Tryz.prog 7 #[u, v, .int .u64 e] w fun e w' => e = .returned (.bool true) ∧ Below w.heap.size w w' :=
  wKeyEquations kcCom kcSiz kcChk kcPub kcOf u xs v ys e w hu hv hdx hdy he

end Go.Proofs.YtiljkgoafknefaaGreat

