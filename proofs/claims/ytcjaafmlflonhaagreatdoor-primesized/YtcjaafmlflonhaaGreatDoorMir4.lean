/- Package miller: passes. -/
import Derived.Test.YtcjaafmlflonhaaGreatDoorMir3
import Derived.Test.YtcjaafmlflonhaaGreatDoorSho3
namespace Go.Proofs.YtcjaafmlflonhaaGreatDoor
open Go.RowKit

theorem res17 {A n : Nat} (h : A < 18446744073709551616 ^ n) (hn : n ≤ 300) : resCode A (n : Int) = 0 ∧ resList A (n : Int) = digs 18446744073709551616 A n := by
  have h1 : resCode A (n : Int) = 0 := by
    unfold resCode
    rw [if_neg (by omega), if_neg]
    rintro (h2 | h2)
    · omega
    · have := (wordsN_le A n).2 h
      rw [Int.toNat_natCast] at h2
      omega
  refine ⟨h1, ?_⟩
  unfold resList
  rw [if_pos h1, Int.toNat_natCast]

/-- Two numbers in Montgomery's form are alike just if they are modulo X. -/
theorem eq17 {w : World} {xo yo : Option Addr} {n xc yc X P Q : Nat} (hX : 3 < X) (hp : X % 2 = 1) (hf : X < 18446744073709551616 ^ n) (hn : n ≤ 130) (hx : MonR w (.slice xo n xc) n X P) (hy : MonR w (.slice yo n yc) n X Q) (R : Bool) (hR : R = decide (P % X = Q % X)) :
    Calls Tryz.prog 114 #[.slice xo n xc, .slice yo n yc] w fun e w' => e = .returned (.bool R) ∧ Kept Nought w w' := by
  refine yEqual _ _ _ _ R ?_ w hx hy (digs_digs (by omega) _ _) (digs_digs (by omega) _ _) (by rw [digs_length]; omega) (by rw [digs_length]; omega)
  rw [mon_val (by omega) hf, mon_val (by omega) hf, hR]
  exact decide_eq_decide.2 (mon_same hp).symm

set_option maxRecDepth 100000 in
set_option maxHeartbeats 4000000 in
/-- passes. -/
theorem yPasses (ao bo lo oo vo : Option Addr) (n mc rc lc oc K s X M vc A : Nat) (ys : List Nat) (R : Bool) (hA : A = val 18446744073709551616 ys) (hAX : A < X) (hR : R = true ↔ strongP X A) (w : World) (h : Num17 w X ao bo lo oo n mc rc lc oc K s) (hv : Row .u64 w (.slice vo M vc) ys) (hd : Digs 18446744073709551616 ys) :
    Calls Tryz.prog 75 #[.agg (numV ao bo lo oo n mc rc lc oc K s), .slice vo M vc] w fun e w' => e = .returned (.bool R) ∧ Kept Nought w w' := by
  obtain ⟨W, hW⟩ : ∃ W, W = w.alloc (.cells (numV ao bo lo oo n mc rc lc oc K s) 111) := ⟨_, rfl⟩
  have k0 : Kept Nought w W := by rw [hW]; exact (Kept.refl Nought w).alloc _
  have hx0 : W.heap[w.heap.size]? = some (.cells (numV ao bo lo oo n mc rc lc oc K s) 111 (0, 0)) := by rw [hW]; exact heap_alloc_new _ _
  have JC : Hid (∀ W', Kept Nought W W' → W'.cell? ⟨w.heap.size, 0, none⟩ = some (.slice ao n mc) ∧ W'.cell? ⟨w.heap.size, 1, none⟩ = some (.int .u64 (K : Nat)) ∧ W'.cell? ⟨w.heap.size, 2, none⟩ = some (.slice bo n rc) ∧ W'.cell? ⟨w.heap.size, 3, none⟩ = some (.slice lo n lc) ∧ W'.cell? ⟨w.heap.size, 4, none⟩ = some (.slice oo n oc) ∧ W'.cell? ⟨w.heap.size, 5, none⟩ = some (.int .i64 (s : Nat))) := fun W' k => cells6 ((k.block _ (lt_of_block hx0) (fun f => f)).trans hx0)
  have hX3 := h.big
  have hX2 := h.par
  have hfit := h.fit
  have hn0 := h.n0
  have hnb := h.nb
  have hsb := h.sb
  have hs0 := tz_pos h.tz hX3 hX2
  have hvm : val 18446744073709551616 (digs 18446744073709551616 X n) = X := by rw [val_digs, Nat.mod_eq_of_lt hfit]
  obtain ⟨D, hD⟩ : ∃ D, D = (X - 1) / 2 ^ s := ⟨_, rfl⟩
  have hDf : D < 18446744073709551616 ^ n := by rw [hD]; exact Nat.lt_of_le_of_lt (Nat.le_trans (Nat.div_le_self _ _) (Nat.sub_le _ _)) hfit
  have hodd := h.odd
  rw [← hD] at hodd
  have hst := strong_of (A := A) h.tz
  rw [← hD] at hst
  have hM := h.mod
  have HSR : Hid (R = true ↔ (A ^ D % X = 1 ∨ ∃ i, i < s ∧ (A ^ D) ^ 2 ^ i % X = X - 1)) := hR.trans hst
  have JRes : Hid (∀ W', Kept Nought W W' → Calls Tryz.prog 96 #[.slice vo M vc, .int .i64 (n : Int)] W' fun e w' => ∃ zo zc, e = .returned (.tuple #[.slice zo n zc, .int .i64 0]) ∧ Row .u64 w' (.slice zo n zc) (digs 18446744073709551616 A n) ∧ Kept Nought W w') := fun W' k => by
    obtain ⟨r1, r2⟩ := res17 (Nat.lt_trans hAX hfit) (show n ≤ 300 by omega)
    have h1 := nResize _ ys (n : Int) W' (hv.grew (k0.trans k)) hd
    rw [← hA, r1, r2] at h1
    refine h1.mono ?_
    rintro e w' ⟨v', rfl, h2, h3⟩
    obtain ⟨zo, zn, zc, rfl, hl, _⟩ := h2.open
    obtain rfl : zn = n := by have := hl.out; rw [digs_length] at this; exact this.symm
    exact ⟨zo, zc, rfl, h2, k.trans h3⟩
  have JQ : Hid (∀ W' zo zc, Kept Nought W W' → Row .u64 W' (.slice zo n zc) (digs 18446744073709551616 A n) → Calls Tryz.prog 111 #[.agg #[.slice ao n mc, .int .u64 (K : Nat), .slice bo n rc], .slice zo n zc, .slice oo n oc] W' fun e w' => ∃ yo yc, e = .returned (.tuple #[.slice yo n yc, .int .i64 0]) ∧ Row .u64 w' (.slice yo n yc) (digs 18446744073709551616 (A ^ D % X) n) ∧ Kept Nought W w') := fun W' zo zc k h1 => by
    have kk := k0.trans k
    have hvA : val 18446744073709551616 (digs 18446744073709551616 A n) = A := by rw [val_digs, Nat.mod_eq_of_lt (Nat.lt_trans hAX hfit)]
    have hvD : val 18446744073709551616 (digs 18446744073709551616 D n) = D := by rw [val_digs, Nat.mod_eq_of_lt hDf]
    have hm2 := hM.grew kk
    have h2 := sQuick ao bo zo oo n n K mc rc n zc n oc _ _ _ _ 0 (.inl ⟨rfl, ⟨hm2.ok, rfl, by rw [hvA, hvm]; exact hAX⟩, by omega⟩) _ rfl W' hm2.hm.1 hm2.hr.1 h1 (hodd.grew kk) hm2.hmd hm2.hrd (digs_digs (by omega) _ _) (digs_digs (by omega) _ _) hm2.hK (by omega)
    rw [if_pos rfl, hvA, hvD, hvm] at h2
    refine h2.mono ?_
    rintro e w' ⟨v', rfl, h3, h4⟩
    obtain ⟨yo, yn, yc, rfl, hl, _⟩ := h3.open
    obtain rfl : yn = n := by have := hl.out; rw [digs_length] at this; exact this.symm
    exact ⟨yo, yc, rfl, h3, k.trans h4⟩
  have JE : Hid (∀ W' zo zc, Kept Nought W W' → Row .u64 W' (.slice zo n zc) (digs 18446744073709551616 (A ^ D % X) n) → Calls Tryz.prog 112 #[.pointer none, .agg #[.slice ao n mc, .int .u64 (K : Nat), .slice bo n rc], .slice zo n zc] W' fun e w' => ∃ yo yc, e = .returned (.tuple #[.slice yo n yc, .int .i64 0]) ∧ MonR w' (.slice yo n yc) n X ((A ^ D) ^ 2 ^ 0) ∧ Kept Nought W w') := fun W' zo zc k h1 => by
    have hlt : A ^ D % X < X := Nat.mod_lt _ (by omega)
    have hvP : val 18446744073709551616 (digs 18446744073709551616 (A ^ D % X) n) = A ^ D % X := by rw [val_digs, Nat.mod_eq_of_lt (Nat.lt_trans hlt hfit)]
    have h2 := ent9 ao bo zo n n K mc rc zc _ _ _ W' (hM.grew (k0.trans k)) h1 (digs_digs (by omega) _ _) (by rw [hvP, hvm]; exact hlt)
    rw [hvP, hvm] at h2
    refine h2.mono ?_
    rintro e w' ⟨yo, yc, rfl, h3, h4⟩
    refine ⟨yo, yc, rfl, ?_, k.trans h4⟩
    unfold MonR at h3 ⊢
    rw [mon_mod] at h3
    rw [Nat.pow_zero, Nat.pow_one]
    exact h3
  have JO : Hid (∀ W', Kept Nought W W' → Calls Tryz.prog 113 #[.agg #[.slice ao n mc, .int .u64 (K : Nat), .slice bo n rc]] W' fun e w' => ∃ zo zc, e = .returned (.slice zo n zc) ∧ MonR w' (.slice zo n zc) n X 1 ∧ Kept Nought W' w') := fun W' k => by
    have h2 := one9 ao bo n n K mc rc _ _ W' (hM.grew (k0.trans k))
    rw [hvm] at h2
    exact h2
  have JS : Hid (∀ W' zo zc, Kept Nought W W' → MonR W' (.slice zo n zc) n X 1 → Calls Tryz.prog 29 #[.pointer none, .slice ao n mc, .slice zo n zc] W' fun e w' => ∃ yo yc c, e = .returned (.tuple #[.slice yo n yc, .int .u64 (c : Nat)]) ∧ MonR w' (.slice yo n yc) n X (X - 1) ∧ Kept Nought W' w') := fun W' zo zc k h1 => by
    have hm2 := hM.grew (k0.trans k)
    have h2 := lSub none _ _ _ _ W' (TrRoom.none _ _ (by omega)) hm2.hm (RowT.none h1) hm2.hmd (digs_digs (by omega) _ _) (by rw [digs_length]; omega) (by rw [digs_length]; omega)
    rw [digs_length, digs_length, Nat.max_self, hvm, mon_val (by omega) hfit, mon_sub hX2 (by omega)] at h2
    refine h2.mono ?_
    rintro e w' ⟨v', rfl, ho, o', d⟩
    have hr := own_row' ho (digs_length _ _ _)
    obtain ⟨yo, yn, yc, rfl, hl, _⟩ := hr.open
    obtain rfl : yn = n := by have := hl.out; rw [digs_length] at this; exact this.symm
    exact ⟨yo, yc, _, rfl, hr, d.none.2⟩
  have JMul : Hid (∀ W' yo yc P, Kept Nought W W' → MonR W' (.slice yo n yc) n X P → Calls Tryz.prog 115 #[.pointer none, .agg #[.slice ao n mc, .int .u64 (K : Nat), .slice bo n rc], .slice yo n yc, .slice yo n yc] W' fun e w' => ∃ ro rc', e = .returned (.tuple #[.slice ro n rc', .int .i64 0]) ∧ MonR w' (.slice ro n rc') n X (P * P) ∧ Kept Nought W' w') := fun W' yo yc P k h1 => by
    have h2 := mul9 ao bo yo yo n n K mc rc yc yc P P _ _ W' (hM.grew (k0.trans k)) (by rw [hvm]; exact h1) (by rw [hvm]; exact h1)
    rw [hvm] at h2
    refine h2.mono ?_
    rintro e w' ⟨zo, zc, rfl, h3, _, h4⟩
    exact ⟨zo, zc, rfl, h3, h4⟩
  have HW := toHid hW
  have HK0 := toHid k0
  obtain ⟨p0, p1, p2, p3, p4, p5⟩ := JC.out _ (Kept.refl Nought W)
  unfold numV at HW ⊢
  clear hW k0 hx0 hR h hv hd hst hM hodd hDf hvm hA hAX
  go_enter Tryz.func75, Tryz.ntmps75
  go_wp2_with (rw [← HW.out])
  go_step3
  go_wp2_with fail
  go_region_held3 (fun w' => w'.cell? ⟨w.heap.size, 0, none⟩ = some (.slice ao n mc) ∧ w'.cell? ⟨w.heap.size, 1, none⟩ = some (.int .u64 (K : Int)) ∧ w'.cell? ⟨w.heap.size, 2, none⟩ = some (.slice bo n rc) ∧ w'.cell? ⟨w.heap.size, 4, none⟩ = some (.slice oo n oc))
    (((try dsimp only); (repeat' apply And.intro) <;> first | (go_keep; done) | assumption))
    (first
    | (go_at_call 110; refine (yStep yo n yc w3).mono ?_; rintro e w4 ⟨rfl, rfl⟩)
    | (go_at_call 111; refine (JQ.out _ zo zc k2 hr2).mono ?_; rintro e w3 ⟨yo, yc, rfl, hr3, k3⟩; obtain ⟨t0, t1, t2, t3, t4, t5⟩ := JC.out _ k3)
    | (go_at_call 110; refine (yStep zo n zc w2).mono ?_; rintro e w2' ⟨rfl, rfl⟩)
    | (go_at_call 96; refine (JRes.out _ (Kept.refl Nought W).drew).mono ?_; rintro e w2 ⟨zo, zc, rfl, hr2, k2⟩; obtain ⟨s0, s1, s2, s3, s4, s5⟩ := JC.out _ k2))
  have hE := JE.out _ yo yc k3 hr3
  clear JRes JQ JE hr2 k2 hr3 p0 p1 p2 p3 p4 p5 s0 s1 s2 s3 s4 s5 hD
  go_wp2_with fail
  refine hE.mono ?_
  rintro e w5 ⟨xo, xc, rfl, hm5, k5⟩
  have hSt := yStep xo n xc w5
  clear hE k3 t0 t1 t2 t3 t4 t5
  go_wp2_with fail
  refine hSt.mono ?_
  rintro e w6 ⟨rfl, rfl⟩
  obtain ⟨p0, p1, p2, p3, p4, p5⟩ := JC.out _ k5
  have hOn := JO.out _ k5
  clear hSt JO
  go_wp2_with fail
  refine hOn.mono ?_
  rintro e w7 ⟨io, ic, rfl, hm7, k7⟩
  have K7 := k5.trans k7
  have hp7 := hm5.grew k7
  have hSu := JS.out _ io ic K7 hm7
  obtain ⟨q0, q1, q2, q3, q4, q5⟩ := JC.out _ K7
  clear hOn JS p0 p1 p2 p3 p4 p5 hm5 k5 k7
  go_wp2_with fail
  refine hSu.mono ?_
  rintro e w8 ⟨eo, ec, c8, rfl, hl8, k8⟩
  have K8 := K7.trans k8
  have hp8 := hp7.grew k8
  have ho8 := hm7.grew k8
  obtain ⟨B, hB⟩ : ∃ B, B = A ^ D := ⟨_, rfl⟩
  rw [← hB] at HSR hp8
  clear hSu q0 q1 q2 q3 q4 q5 hp7 hm7 k8 K7 hB
  have e1 : 1 % X = 1 := Nat.mod_eq_of_lt (by omega)
  have eL : (X - 1) % X = X - 1 := Nat.mod_eq_of_lt (by omega)
  have HE1 := toHid e1
  have HEL := toHid eL
  clear e1 eL
  by_cases h1 : B ^ 2 ^ 0 % X = 1
  · have hEq := eq17 hX3 hX2 hfit hnb hp8 ho8 true (by rw [HE1.out]; exact (decide_eq_true h1).symm)
    have HT : Hid (R = true) := HSR.out.2 (.inl (by rw [Nat.pow_zero, Nat.pow_one] at h1; exact h1))
    clear h1
    go_wp2_with fail
    refine hEq.mono ?_
    rintro e w9 ⟨rfl, k9⟩
    go_wp2_with fail
    try rw [Exit.noGoto_ret]
    go_ret
    exact ⟨by rw [HT.out]; rfl, HK0.out.trans (K8.trans k9)⟩
  have hEq := eq17 hX3 hX2 hfit hnb hp8 ho8 false (by rw [HE1.out]; exact (decide_eq_false h1).symm)
  have HN1 := toHid h1
  clear h1
  go_wp2_with fail
  refine hEq.mono ?_
  rintro e w9 ⟨rfl, k9⟩
  have K9 := K8.trans k9
  have hp9 := hp8.grew k9
  have ho9 := ho8.grew k9
  have hl9 := hl8.grew k9
  clear hEq hp8 ho8 hl8 K8 k9
  by_cases h2 : B ^ 2 ^ 0 % X = X - 1
  · have hEq := eq17 hX3 hX2 hfit hnb hp9 hl9 true (by rw [HEL.out]; exact (decide_eq_true h2).symm)
    have HT : Hid (R = true) := HSR.out.2 (.inr ⟨0, hs0, h2⟩)
    clear h2
    go_wp2_with fail
    refine hEq.mono ?_
    rintro e w10 ⟨rfl, k10⟩
    go_wp2_with fail
    try rw [Exit.noGoto_ret]
    go_ret
    exact ⟨by rw [HT.out]; rfl, HK0.out.trans (K9.trans k10)⟩
  have hEq := eq17 hX3 hX2 hfit hnb hp9 hl9 false (by rw [HEL.out]; exact (decide_eq_false h2).symm)
  have HN0 : Hid (∀ j, j ≤ 0 → B ^ 2 ^ j % X ≠ X - 1) := fun j hj => by
    have e : j = 0 := Nat.le_zero.1 hj
    rw [e]
    exact h2
  clear h2
  go_wp2_with fail
  refine hEq.mono ?_
  rintro e w10 ⟨rfl, k10⟩
  have K10 := toHid (K9.trans k10)
  have HP := toHid (hp9.grew k10)
  have HO := toHid (ho9.grew k10)
  have HL := toHid (hl9.grew k10)
  obtain ⟨p0, p1, p2, p3, p4, p5⟩ := JC.out _ K10.out
  clear hEq hp9 ho9 hl9 K9 k10
  go_wp2_with fail
  go_step3
  go_wp2_with fail
  clear p0 p1 p2 p3 p4 p5
  go_loopw [5, 9, 56] (fun pv fv iv wr => ∃ (i : Nat) (po : Option Addr) (pc : Nat), i + 1 ≤ s ∧ fv = .bool false ∧ iv = .int .i64 (i : Int) ∧ pv = .slice po n pc ∧ Hid (MonR wr (.slice po n pc) n X (B ^ 2 ^ i)) ∧ Hid (∀ j, j ≤ i → B ^ 2 ^ j % X ≠ X - 1) ∧ Hid (Kept Nought w10 wr)) (fun _ _ iv _ => s - (intOf iv).toNat)
  case atStart => exact ⟨0, xo, xc, by omega, rfl, rfl, rfl, HP.out, HN0.out, Kept.refl _ _⟩
  case round =>
    clear HP
    obtain ⟨i, po, pc, his, rfl, rfl, rfl, hmi, hall, hki⟩ := hrel
    have KI := K10.out.trans hki.out
    obtain ⟨p0, p1, p2, p3, p4, p5⟩ := JC.out _ KI
    by_cases hin : i + 1 < s
    · have g1 : (i : Int) < (s : Int) - 1 := by omega
      have hMu := JMul.out wr po pc _ KI hmi.out
      go_wp2_with fail
      refine hMu.mono ?_
      rintro e w11 ⟨ro, rc', rfl, hm11, k11⟩
      have hm12 : MonR w11 (.slice ro n rc') n X (B ^ 2 ^ (i + 1)) := by unfold MonR; rw [← sq_mon]; exact hm11
      have hSt := yStep ro n rc' w11
      clear hMu hm11
      go_wp2_with fail
      refine hSt.mono ?_
      rintro e w12 ⟨rfl, rfl⟩
      have K12 := hki.out.trans k11
      have hl12 := HL.out.grew K12
      have ho12 := HO.out.grew K12
      clear hSt k11
      by_cases h3 : B ^ 2 ^ (i + 1) % X = X - 1
      · have hEq := eq17 hX3 hX2 hfit hnb hm12 hl12 true (by rw [HEL.out]; exact (decide_eq_true h3).symm)
        have HT : Hid (R = true) := HSR.out.2 (.inr ⟨i + 1, hin, h3⟩)
        clear h3
        go_wp2_with fail
        refine hEq.mono ?_
        rintro e w13 ⟨rfl, k13⟩
        go_wp2_with fail
        try rw [Exit.noGoto_ret]
        go_ret
        exact ⟨by rw [HT.out]; rfl, HK0.out.trans (K10.out.trans (K12.trans k13))⟩
      · have hEq := eq17 hX3 hX2 hfit hnb hm12 hl12 false (by rw [HEL.out]; exact (decide_eq_false h3).symm)
        have HN3 : Hid (∀ j, j ≤ i + 1 → B ^ 2 ^ j % X ≠ X - 1) := fun j hj => by
          by_cases e : j = i + 1
          · subst e; exact h3
          · exact hall.out j (by omega)
        clear h3
        go_wp2_with fail
        refine hEq.mono ?_
        rintro e w13 ⟨rfl, k13⟩
        have K13 := K12.trans k13
        have hm13 := hm12.grew k13
        have ho13 := ho12.grew k13
        clear hEq k13 K12 hm12 ho12 hl12
        by_cases h4 : B ^ 2 ^ (i + 1) % X = 1
        · have hEq := eq17 hX3 hX2 hfit hnb hm13 ho13 true (by rw [HE1.out]; exact (decide_eq_true h4).symm)
          have HT : Hid (R = false) := by
            unfold Hid
            cases hb : R with
            | false => rfl
            | true =>
              rcases HSR.out.1 hb with h5 | ⟨j, hj, h5⟩
              · exact absurd (by rw [Nat.pow_zero, Nat.pow_one]; exact h5) HN1.out
              · by_cases hji : j ≤ i + 1
                · exact absurd h5 (HN3.out j hji)
                · have := sq_one (show 1 < X by omega) h4 j (by omega)
                  omega
          clear h4
          go_wp2_with fail
          refine hEq.mono ?_
          rintro e w14 ⟨rfl, k14⟩
          go_wp2_with fail
          try rw [Exit.noGoto_ret]
          go_ret
          exact ⟨by rw [HT.out]; rfl, HK0.out.trans (K10.out.trans (K13.trans k14))⟩
        · have hEq := eq17 hX3 hX2 hfit hnb hm13 ho13 false (by rw [HE1.out]; exact (decide_eq_false h4).symm)
          clear h4
          go_wp2_with fail
          refine hEq.mono ?_
          rintro e w14 ⟨rfl, k14⟩
          have HM14 := toHid (hm13.grew k14)
          have HK14 := toHid (K13.trans k14)
          clear hEq hm13 ho13 K13 k14
          go_wp2_with fail
          go_roundw
          case rel => exact ⟨i + 1, ro, rc', by omega, rfl, by go_num, rfl, HM14, HN3, HK14⟩
          case measure => simp [intOf]; omega
    · have g1 : ¬ (i : Int) < (s : Int) - 1 := by omega
      have HT : Hid (R = false) := by
        unfold Hid
        cases hb : R with
        | false => rfl
        | true =>
          rcases HSR.out.1 hb with h5 | ⟨j, hj, h5⟩
          · exact absurd (by rw [Nat.pow_zero, Nat.pow_one]; exact h5) HN1.out
          · exact absurd h5 (hall.out j (by omega))
      go_wp2_with fail
      try rw [Exit.noGoto_ret]
      go_ret
      exact ⟨by rw [HT.out]; rfl, HK0.out.trans (K10.out.trans hki.out)⟩

end Go.Proofs.YtcjaafmlflonhaaGreatDoor
