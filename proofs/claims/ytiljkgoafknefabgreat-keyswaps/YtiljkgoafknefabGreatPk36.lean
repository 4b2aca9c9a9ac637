/- Put together of: WKeySwaps LKeySwaps. -/
import Derived.Test.YtiljkgoafknefabGreatPk1
import Derived.Test.YtiljkgoafknefabGreatPk34
import Derived.Test.YtiljkgoafknefabGreatPk35

/- The walk of the statement on keys the other way round, of the landed contracts. -/
namespace Go.Proofs.YtiljkgoafknefabGreat
open Go.RowKit

theorem comN_comm (P Q : Nat) : comN P Q = comN Q P := by
  unfold comN
  rw [Nat.gcd_comm (Q - 1) (P - 1)]
  generalize P - 1 = a
  generalize Q - 1 = b
  rcases Nat.eq_zero_or_pos (Nat.gcd a b) with h | h
  · rw [Nat.gcd_eq_zero_iff] at h
    rw [h.1, h.2]
  · obtain ⟨x, hx⟩ := Nat.gcd_dvd_left a b
    obtain ⟨y, hy⟩ := Nat.gcd_dvd_right a b
    generalize Nat.gcd a b = g at *
    subst hx
    subst hy
    rw [Nat.mul_div_cancel_left _ h, Nat.mul_div_cancel_left _ h, Nat.mul_left_comm, Nat.mul_left_comm y g x, Nat.mul_comm x y]

theorem keyWords_comm (P Q : Nat) : keyWords P Q = keyWords Q P := by
  unfold keyWords
  rw [Nat.mul_comm]

theorem keyOk_comm {L M P Q e : Nat} (h : keyOk L M P Q e) : keyOk M L Q P e := by
  obtain ⟨⟨a, b⟩, c, d, f, g, i⟩ := h
  exact ⟨⟨b, a⟩, d, c, by rw [Nat.gcd_comm]; exact f, by rw [keyWords_comm]; exact g, by rw [comN_comm]; exact i⟩

theorem KeySays.swap {L M P Q e E E' en en' : Nat} {l m : KL} (h : KeySays L M P Q e E en l) (h' : KeySays M L Q P e E' en' m) : E' = E ∧ (E = 0 ∨ E = 190) ∧ (E = 0 → m.n = l.n ∧ m.d = l.d ∧ m.q = l.p ∧ m.p = l.q ∧ m.dq = l.dp ∧ m.dp = l.dq) := by
  rcases h with ⟨rfl, hok, rfl, d, u, h1⟩ | ⟨rfl, hno, rfl, rfl⟩
  · rcases h' with ⟨rfl, _, rfl, d', u', h2⟩ | ⟨_, hno, _⟩
    · have h21 := h2.1
      have h22 := h2.2.1
      rw [comN_comm] at h21 h22
      have hd : d' = d := inv_one (Nat.Coprime.symm hok.2.2.2.2.2) h21 h1.1 h22 h1.2.1
      subst hd
      obtain ⟨_, _, _, _, a1, a2, a3, a4, a5, a6, a7⟩ := h1
      obtain ⟨_, _, _, _, b1, b2, b3, b4, b5, b6, b7⟩ := h2
      refine ⟨rfl, .inl rfl, fun _ => ⟨?_, ?_, ?_, ?_, ?_, ?_⟩⟩
      · rw [b1, a1, keyWords_comm]
      · rw [b2, a2, keyWords_comm]
      · rw [b4, a3, Nat.max_comm]
      · rw [b3, a4, Nat.max_comm]
      · rw [b6, a5, Nat.max_comm]
      · rw [b5, a6, Nat.max_comm]
    · exact absurd (keyOk_comm hok) hno
  · rcases h' with ⟨_, hok, _⟩ | ⟨rfl, _, rfl, rfl⟩
    · exact absurd (keyOk_comm hok) hno
    · exact ⟨rfl, .inr rfl, fun h => by omega⟩

set_option maxRecDepth 40000 in
set_option maxHeartbeats 4000000 in
theorem wKeySwaps (hC : KCom) (hS : KSiz) (hK : KChk) (hO : KOfC) (u : Value) (xs : List Nat) (v : Value) (ys : List Nat) (e : Int) (w : World) (hu : Row .u64 w u xs) (hv : Row .u64 w v ys) (hdx : Digs 18446744073709551616 xs) (hdy : Digs 18446744073709551616 ys) (he : (Lit.int .u64 e).wf = true) :
    Calls Tryz.prog 3 #[u, v, .int .u64 e] w fun e w' => e = .returned (.bool true) ∧ Below w.heap.size w w' := by
  obtain ⟨he0, he1⟩ := bounds_u64 he
  obtain ⟨e, rfl⟩ := Int.eq_ofNat_of_zero_le he0
  have heb : e < 18446744073709551616 := by omega
  obtain ⟨ao, L, cap, rfl, hL, _, _, _, _⟩ := hu.open
  obtain ⟨bo, M, dap, rfl, hM, _, _, _, _⟩ := hv.open
  have hA := f19Awake hC hS hK w
  obtain ⟨P, hP⟩ : ∃ P, P = val 18446744073709551616 xs := ⟨_, rfl⟩
  obtain ⟨Q, hQ⟩ : ∃ Q, Q = val 18446744073709551616 ys := ⟨_, rfl⟩
  have JF := toHid fun W (k : Kept Nought w W) (hl : L ≤ 1000) (hm : M ≤ 1000) => (hO ao bo L M cap dap xs ys P Q e W hP hQ heb (hu.grew k) (hv.grew k) hdx hdy hl hm).mono fun _ _ h => of19 h
  have JR := toHid fun W (k : Kept Nought w W) (hl : L ≤ 1000) (hm : M ≤ 1000) => (hO bo ao M L dap cap ys xs Q P e W hQ hP heb (hv.grew k) (hu.grew k) hdy hdx hm hl).mono fun _ _ h => of19 h
  clear hu hv hdx hdy hL hM he hC hS hK hO hP hQ he0 he1 heb
  by_cases hf : fewL L ∧ fewL M
  · have hl := hf.1.le
    have hm := hf.2.le
    have HF := toHid fun W => few19b ao bo L M cap dap W true (iff_of_true rfl hf)
    clear hf
    go_enter Tryz.func3, Tryz.ntmps3
    go_wp2_with fail
    refine hA.mono ?_
    rintro r w1 ⟨rfl, k1⟩
    have HK2 := toHid (k1.alloc (.cells #[.slice ao L cap, .slice bo M dap] 23))
    have J1 := HF.out w1
    clear hA k1
    go_wp2_with fail
    refine J1.mono ?_
    rintro r w2 ⟨rfl, rfl⟩
    generalize w1.alloc (.cells #[.slice ao L cap, .slice bo M dap] 23) = w3 at *
    have J2 := JF.out w3 HK2.out (by omega) (by omega)
    clear J1
    go_wp2_with fail
    refine J2.mono ?_
    rintro r w4 ⟨t, E, rfl, l, hr4, hs4, _, k4⟩
    obtain ⟨W4, hW4⟩ : ∃ W4, W4 = w4.alloc (.cells t.v 28) := ⟨_, rfl⟩
    have kk4 : Kept Nought w4 W4 := by rw [hW4]; exact (Kept.refl Nought w4).alloc _
    have hx4 : W4.heap[w4.heap.size]? = some (.cells t.v 28 (0, 0)) := by rw [hW4]; exact heap_alloc_new _ _
    have HR4 := toHid (hr4.grew kk4)
    have HX4 := toHid hx4
    have HSA := toHid hs4
    have HK4 := toHid ((HK2.out.trans k4).trans kk4)
    have J3 := JR.out W4 HK4.out (by omega) (by omega)
    have HW4 := toHid hW4
    clear J2 k4 hr4 hs4 kk4 hx4 hW4
    unfold KS.v at HW4 ⊢
    go_wp2_with (rw [← HW4.out])
    refine J3.mono ?_
    rintro r w5 ⟨s, E', rfl, m, hr5, hs5, _, k5⟩
    obtain ⟨rfl, hE2, hsw⟩ := HSA.out.swap hs5
    obtain ⟨W5, hW5⟩ : ∃ W5, W5 = w5.alloc (.cells s.v 28) := ⟨_, rfl⟩
    have kk5 : Kept Nought w5 W5 := by rw [hW5]; exact (Kept.refl Nought w5).alloc _
    have hx5 : W5.heap[w5.heap.size]? = some (.cells s.v 28 (0, 0)) := by rw [hW5]; exact heap_alloc_new _ _
    have hx4 : W5.heap[w4.heap.size]? = some (.cells t.v 28 (0, 0)) := ((k5.trans kk5).block _ (lt_of_block HX4.out) (fun f => f)).trans HX4.out
    have HX : Hid (∀ W, Kept Nought W5 W → W.heap[w4.heap.size]? = some (.cells t.v 28 (0, 0)) ∧ W.heap[w5.heap.size]? = some (.cells s.v 28 (0, 0))) := fun W k => ⟨(k.block _ (lt_of_block hx4) (fun f => f)).trans hx4, (k.block _ (lt_of_block hx5) (fun f => f)).trans hx5⟩
    have HK5 := toHid ((HK4.out.trans k5).trans kk5)
    have HRT := toHid (HR4.out.grew (k5.trans kk5))
    have HRS := toHid (hr5.grew kk5)
    have HW5 := toHid hW5
    have HSW := toHid hsw
    clear J3 k5 hr5 hs5 kk5 hx5 hx4 hW5 HR4 HX4 HSA hsw
    rcases hE2 with rfl | rfl
    · obtain ⟨e1, e2, e3, e4, e5, e6⟩ := HSW.out rfl
      have HR2 := HRS.out
      obtain ⟨j1, j2, j3, j4, j5, j6, _⟩ := HR2
      rw [e1] at j1
      rw [e2] at j2
      rw [e4] at j3
      rw [e3] at j4
      rw [e6] at j5
      rw [e5] at j6
      have HG : Hid (Row .u64 W5 (.slice s.no s.nl s.nc) l.n ∧ Row .u64 W5 (.slice s.dO s.dl s.dc) l.d ∧ Row .u64 W5 (.slice s.qo s.ql s.qc) l.p ∧ Row .u64 W5 (.slice s.po s.pl s.pc) l.q ∧ Row .u64 W5 (.slice s.dqo s.dql s.dqc) l.dp ∧ Row .u64 W5 (.slice s.dpo s.dpl s.dpc) l.dq) := ⟨j1, j2, j4, j3, j6, j5⟩
      have K0 : Hid (Kept Nought W5 W5) := Kept.refl _ _
      clear e1 e2 e3 e4 e5 e6 j1 j2 j3 j4 j5 j6 HRS HSW
      obtain ⟨c0, c1, c2, c3, c4, c5, c6, c7⟩ := cells8 (HX.out _ K0.out).1
      obtain ⟨d0, d1, d2, d3, d4, d5, d6, d7⟩ := cells8 (HX.out _ K0.out).2
      have JM := rSame _ _ _ _ W5 (HRT.out.n.grew K0.out) (HG.out.1.grew K0.out)
      rw [decide_eq_true rfl] at JM
      unfold KS.v at HW5 ⊢
      go_wp2_with (rw [← HW5.out])
      refine JM.mono ?_
      rintro r v0 ⟨rfl, nq0, rfl⟩
      have K1 := toHid (K0.out.drewN nq0)
      clear JM c0 c1 c2 c3 c4 c5 c6 c7 d0 d1 d2 d3 d4 d5 d6 d7
      obtain ⟨V0, hV0⟩ : ∃ V0, V0 = W5.drewN nq0 := ⟨_, rfl⟩
      rw [← hV0] at K1 ⊢
      clear hV0
      obtain ⟨c0, c1, c2, c3, c4, c5, c6, c7⟩ := cells8 (HX.out _ K1.out).1
      obtain ⟨d0, d1, d2, d3, d4, d5, d6, d7⟩ := cells8 (HX.out _ K1.out).2
      have JM := rSame _ _ _ _ V0 (HRT.out.d.grew K1.out) (HG.out.2.1.grew K1.out)
      rw [decide_eq_true rfl] at JM
      go_wp2_with fail
      refine JM.mono ?_
      rintro r v1 ⟨rfl, nq1, rfl⟩
      have K2 := toHid (K1.out.drewN nq1)
      clear JM c0 c1 c2 c3 c4 c5 c6 c7 d0 d1 d2 d3 d4 d5 d6 d7
      obtain ⟨V1, hV1⟩ : ∃ V1, V1 = V0.drewN nq1 := ⟨_, rfl⟩
      rw [← hV1] at K2 ⊢
      clear hV1
      obtain ⟨c0, c1, c2, c3, c4, c5, c6, c7⟩ := cells8 (HX.out _ K2.out).1
      obtain ⟨d0, d1, d2, d3, d4, d5, d6, d7⟩ := cells8 (HX.out _ K2.out).2
      have JM := rSame _ _ _ _ V1 (HRT.out.p.grew K2.out) (HG.out.2.2.1.grew K2.out)
      rw [decide_eq_true rfl] at JM
      go_wp2_with fail
      refine JM.mono ?_
      rintro r v2 ⟨rfl, nq2, rfl⟩
      have K3 := toHid (K2.out.drewN nq2)
      clear JM c0 c1 c2 c3 c4 c5 c6 c7 d0 d1 d2 d3 d4 d5 d6 d7
      obtain ⟨V2, hV2⟩ : ∃ V2, V2 = V1.drewN nq2 := ⟨_, rfl⟩
      rw [← hV2] at K3 ⊢
      clear hV2
      obtain ⟨c0, c1, c2, c3, c4, c5, c6, c7⟩ := cells8 (HX.out _ K3.out).1
      obtain ⟨d0, d1, d2, d3, d4, d5, d6, d7⟩ := cells8 (HX.out _ K3.out).2
      have JM := rSame _ _ _ _ V2 (HRT.out.q.grew K3.out) (HG.out.2.2.2.1.grew K3.out)
      rw [decide_eq_true rfl] at JM
      go_wp2_with fail
      refine JM.mono ?_
      rintro r v3 ⟨rfl, nq3, rfl⟩
      have K4 := toHid (K3.out.drewN nq3)
      clear JM c0 c1 c2 c3 c4 c5 c6 c7 d0 d1 d2 d3 d4 d5 d6 d7
      obtain ⟨V3, hV3⟩ : ∃ V3, V3 = V2.drewN nq3 := ⟨_, rfl⟩
      rw [← hV3] at K4 ⊢
      clear hV3
      obtain ⟨c0, c1, c2, c3, c4, c5, c6, c7⟩ := cells8 (HX.out _ K4.out).1
      obtain ⟨d0, d1, d2, d3, d4, d5, d6, d7⟩ := cells8 (HX.out _ K4.out).2
      have JM := rSame _ _ _ _ V3 (HRT.out.dp.grew K4.out) (HG.out.2.2.2.2.1.grew K4.out)
      rw [decide_eq_true rfl] at JM
      go_wp2_with fail
      refine JM.mono ?_
      rintro r v4 ⟨rfl, nq4, rfl⟩
      have K5 := toHid (K4.out.drewN nq4)
      clear JM c0 c1 c2 c3 c4 c5 c6 c7 d0 d1 d2 d3 d4 d5 d6 d7
      obtain ⟨V4, hV4⟩ : ∃ V4, V4 = V3.drewN nq4 := ⟨_, rfl⟩
      rw [← hV4] at K5 ⊢
      clear hV4
      obtain ⟨c0, c1, c2, c3, c4, c5, c6, c7⟩ := cells8 (HX.out _ K5.out).1
      obtain ⟨d0, d1, d2, d3, d4, d5, d6, d7⟩ := cells8 (HX.out _ K5.out).2
      have JM := rSame _ _ _ _ V4 (HRT.out.dq.grew K5.out) (HG.out.2.2.2.2.2.grew K5.out)
      rw [decide_eq_true rfl] at JM
      go_wp2_with fail
      refine JM.mono ?_
      rintro r v5 ⟨rfl, nq5, rfl⟩
      have K6 := toHid (K5.out.drewN nq5)
      clear JM c0 c1 c2 c3 c4 c5 c6 c7 d0 d1 d2 d3 d4 d5 d6 d7
      obtain ⟨V5, hV5⟩ : ∃ V5, V5 = V4.drewN nq5 := ⟨_, rfl⟩
      rw [← hV5] at K6 ⊢
      clear hV5
      go_wp2_with fail
      go_ret
      exact ⟨by first | rfl | simp, below_kept (HK5.out.trans K6.out) (Nat.le_refl _)⟩
    · clear HRT HRS HSW HX
      unfold KS.v at HW5 ⊢
      go_wp2_with (rw [← HW5.out])
      go_ret
      exact ⟨by first | rfl | simp, below_kept HK5.out (Nat.le_refl _)⟩
  · have HF := toHid fun W => few19b ao bo L M cap dap W false (iff_of_false (by decide) hf)
    go_enter Tryz.func3, Tryz.ntmps3
    go_wp2_with fail
    refine hA.mono ?_
    rintro r w1 ⟨rfl, k1⟩
    have HK2 := toHid (k1.alloc (.cells #[.slice ao L cap, .slice bo M dap] 23))
    have J1 := HF.out w1
    clear hA k1
    go_wp2_with fail
    refine J1.mono ?_
    rintro r w2 ⟨rfl, rfl⟩
    clear J1 JF JR
    go_wp2_with fail
    go_ret
    exact ⟨rfl, below_kept HK2.out (Nat.le_refl _)⟩

end Go.Proofs.YtiljkgoafknefabGreat


/- The walk of KeySwaps, the landed contracts paid. -/
namespace Go.Proofs.YtiljkgoafknefabGreat
open Go.RowKit

theorem walkKeySwaps (u : Value) (xs : List Nat) (v : Value) (ys : List Nat) (e : Int) (w : World) (hu : Row .u64 w u xs) (hv : Row .u64 w v ys) (hdx : Digs 18446744073709551616 xs) (hdy : Digs 18446744073709551616 ys) (he : (Lit.int .u64 e).wf = true) :
    Calls Tryz.prog 3 #[u, v, .int .u64 e] w fun e w' => e = .returned (.bool true) ∧ Below w.heap.size w w' :=
  wKeySwaps kcCom kcSiz kcChk kcOf u xs v ys e w hu hv hdx hdy he

end Go.Proofs.YtiljkgoafknefabGreat

