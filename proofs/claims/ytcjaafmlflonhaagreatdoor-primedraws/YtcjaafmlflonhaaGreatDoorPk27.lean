/- Put together of: Sho3 Mir4 Byt1. -/
import Derived.Test.YtcjaafmlflonhaaGreatDoorPk1
import Derived.Test.YtcjaafmlflonhaaGreatDoorPk25
import Derived.Test.YtcjaafmlflonhaaGreatDoorPk26
import Derived.Laws.AppendOwn
import Derived.Laws.AppendOwnNone
import Derived.Laws.BytesArg
import Derived.Lib.Strings

/- Package short: Quick, Exp. -/
namespace Go.Proofs.YtcjaafmlflonhaaGreatDoor
open Go.RowKit

/-- A number goes in, with no trace. -/
theorem ent9 (ao bo xo : Option Addr) (n l K mcap rcap xc : Nat) (ms rs xs : List Nat) (w : World) (hM : Mod8 w none ao bo n l K mcap rcap ms rs) (hx : Row .u64 w (.slice xo n xc) xs) (hdx : Digs 18446744073709551616 xs) (hlt : val 18446744073709551616 xs < val 18446744073709551616 ms) :
    Calls Tryz.prog 112 #[.pointer none, .agg #[.slice ao n mcap, .int .u64 (K : Nat), .slice bo l rcap], .slice xo n xc] w fun e w' => ∃ zo zc, e = .returned (.tuple #[.slice zo n zc, .int .i64 0]) ∧ MonR w' (.slice zo n zc) n (val 18446744073709551616 ms) (val 18446744073709551616 xs) ∧ Kept Nought w w' := by
  obtain ⟨⟨f0, f1⟩, f2, f3, f4, f5⟩ := hM.facts
  refine (mEnter none ao bo xo n l K mcap rcap n xc 0 ms rs xs w (TrRoom.none w _ (by omega)) hM.hm hM.hr (RowT.none hx) hM.hmd hM.hrd hdx hM.hK (by omega) ⟨fun _ => ⟨hM.ok, rfl, hlt⟩, fun _ => rfl⟩ (by omega)).mono ?_
  rintro e w' ⟨v', rfl, ⟨Y, hR, hG⟩, _, o', d⟩
  rw [if_pos rfl] at hR
  have hG' : Y = mon n (val 18446744073709551616 ms) (val 18446744073709551616 xs) := hG rfl
  rw [hG'] at hR
  have hA : MonR w' v' n (val 18446744073709551616 ms) (val 18446744073709551616 xs) := hR
  obtain ⟨zo, zc, rfl⟩ := hA.shape
  exact ⟨zo, zc, rfl, hA, d.none.2⟩

set_option maxRecDepth 40000 in
set_option maxHeartbeats 2000000 in
/-- Quick. -/
theorem sQuick (ao bo xo eo : Option Addr) (n l K mcap rcap N1 xc L ecap : Nat) (ms rs xs ys : List Nat) (E : Nat)
    (hE : (E = 0 ∧ (okMod ms K rs ∧ (N1 = n ∧ val 18446744073709551616 xs < val 18446744073709551616 ms)) ∧ L ≤ 300) ∨ (E = 2 ∧ (okMod ms K rs ∧ (N1 = n ∧ val 18446744073709551616 xs < val 18446744073709551616 ms)) ∧ 300 < L) ∨ (E = 1 ∧ ¬ (okMod ms K rs ∧ (N1 = n ∧ val 18446744073709551616 xs < val 18446744073709551616 ms))))
    (RL : List Nat) (hRL : RL = if E = 0 then digs 18446744073709551616 (val 18446744073709551616 xs ^ val 18446744073709551616 ys % val 18446744073709551616 ms) n else []) (w : World)
    (hm : Row .u64 w (.slice ao n mcap) ms) (hr : Row .u64 w (.slice bo l rcap) rs) (hx : Row .u64 w (.slice xo N1 xc) xs) (hy : Row .u64 w (.slice eo L ecap) ys) (hmd : Digs 18446744073709551616 ms) (hrd : Digs 18446744073709551616 rs) (hdx : Digs 18446744073709551616 xs) (hdy : Digs 18446744073709551616 ys) (hK : K < 18446744073709551616) (hnb : n ≤ 300) :
    Calls Tryz.prog 111 #[.agg #[.slice ao n mcap, .int .u64 (K : Nat), .slice bo l rcap], .slice xo N1 xc, .slice eo L ecap] w fun e w' => ∃ v', e = .returned (.tuple #[v', .int .i64 ((E : Nat) : Int)]) ∧ Row .u64 w' v' RL ∧ Kept Nought w w' := by
  obtain ⟨W, hW⟩ : ∃ W, W = w.alloc (.cells #[.slice ao n mcap, .int .u64 (K : Nat), .slice bo l rcap] 109) := ⟨_, rfl⟩
  have k0 : Kept Nought w W := by rw [hW]; exact (Kept.refl Nought w).alloc _
  have hx0 : W.heap[w.heap.size]? = some (.cells #[.slice ao n mcap, .int .u64 (K : Nat), .slice bo l rcap] 109 (0, 0)) := by rw [hW]; exact heap_alloc_new _ _
  have JC : Hid (∀ W', Kept Nought W W' → W'.cell? ⟨w.heap.size, 0, none⟩ = some (.slice ao n mcap) ∧ W'.cell? ⟨w.heap.size, 1, none⟩ = some (.int .u64 (K : Nat)) ∧ W'.cell? ⟨w.heap.size, 2, none⟩ = some (.slice bo l rcap)) := fun W' k => cells3 ((k.block _ (lt_of_block hx0) (fun f => f)).trans hx0)
  have HW := toHid hW
  have HK0 := toHid k0
  obtain ⟨p0, p1, p2⟩ := JC.out _ (Kept.refl Nought W)
  by_cases hP : okMod ms K rs ∧ (N1 = n ∧ val 18446744073709551616 xs < val 18446744073709551616 ms)
  · obtain ⟨hok, rfl, hlt⟩ := hP
    have hM : Mod8 w none ao bo N1 l K mcap rcap ms rs := ⟨RowT.none hm, RowT.none hr, hmd, hrd, hK, hok⟩
    have hEn := ent9 ao bo xo N1 l K mcap rcap xc ms rs xs W (hM.grew k0) (hx.grew k0) hdx hlt
    by_cases hL : L ≤ 300
    · obtain rfl : E = 0 := by
        rcases hE with h | h | h
        · exact h.1
        · omega
        · exact absurd ⟨hok, rfl, hlt⟩ h.2
      rw [if_pos rfl] at hRL
      have gL : ¬ (L : Int) > 300 := by omega
      have JR : Hid (∀ W' zo zc, Kept Nought W W' → MonR W' (.slice zo N1 zc) N1 (val 18446744073709551616 ms) (val 18446744073709551616 xs) → Calls Tryz.prog 144 #[.agg #[.slice ao N1 mcap, .int .u64 (K : Nat), .slice bo l rcap], .slice zo N1 zc, .slice eo L ecap] W' fun e w' => ∃ yo yc, e = .returned (.slice yo N1 yc) ∧ MonR w' (.slice yo N1 yc) N1 (val 18446744073709551616 ms) (val 18446744073709551616 xs ^ val 18446744073709551616 ys) ∧ Kept Nought W w') := fun W' zo zc k h => by
        refine (sRaised ao bo zo eo N1 l K mcap rcap zc L ecap _ ms rs ys W' (hM.grew (k0.trans k)) h (hy.grew (k0.trans k)) hdy hL).mono ?_
        rintro e w' ⟨yo, yc, rfl, h1, h2⟩
        exact ⟨yo, yc, rfl, h1, k.trans h2⟩
      have JL : Hid (∀ W' zo zc, Kept Nought W W' → MonR W' (.slice zo N1 zc) N1 (val 18446744073709551616 ms) (val 18446744073709551616 xs ^ val 18446744073709551616 ys) → Calls Tryz.prog 143 #[.pointer none, .agg #[.slice ao N1 mcap, .int .u64 (K : Nat), .slice bo l rcap], .slice zo N1 zc] W' fun e w' => ∃ v', e = .returned (.tuple #[v', .int .i64 0]) ∧ Row .u64 w' v' RL ∧ Kept Nought W w') := fun W' zo zc k h => by
        refine (lea9 ao bo zo N1 l K mcap rcap zc _ ms rs W' (hM.grew (k0.trans k)) h).mono ?_
        rintro e w' ⟨v', rfl, h1, h2⟩
        rw [← hRL] at h1
        exact ⟨v', rfl, h1, k.trans h2⟩
      clear hE hRL hm hr hx hy hmd hrd hdx hdy hK hW k0 hx0 hok hlt hM hL hnb
      generalize val 18446744073709551616 ms = V at *
      generalize val 18446744073709551616 xs = X at *
      generalize X ^ val 18446744073709551616 ys = Y at *
      go_enter Tryz.func111, Tryz.ntmps111
      go_wp2_with (rw [← HW.out])
      refine hEn.mono ?_
      rintro e w1 ⟨zo, zc, rfl, hA1, k1⟩
      obtain ⟨q0, q1, q2⟩ := JC.out _ k1
      have kd : Kept Nought W w1.drew := k1.drew
      have hA1d := hA1.grew (Kept.refl Nought w1).drew
      clear hEn p0 p1 p2
      go_wp2_with fail
      go_region_held3 (fun w' => w'.cell? ⟨w.heap.size, 0, none⟩ = some (.slice ao N1 mcap) ∧ w'.cell? ⟨w.heap.size, 1, none⟩ = some (.int .u64 (K : Int)) ∧ w'.cell? ⟨w.heap.size, 2, none⟩ = some (.slice bo l rcap))
        (((try dsimp only); (repeat' apply And.intro) <;> first | (go_keep; done) | assumption))
        (first
        | (go_at_call 144; refine (JR.out _ zo zc kd hA1d).mono ?_; rintro e w2 ⟨yo, yc, rfl, hA2, k2⟩; obtain ⟨s0, s1, s2⟩ := JC.out _ k2)
        | (go_at_call 143; refine (JL.out _ yo yc k2 hA2).mono ?_; rintro e w4 ⟨v4, rfl, hr4, k4⟩; obtain ⟨t0, t1, t2⟩ := JC.out _ k4))
      all_goals
        go_wp2_with fail
        go_ret2
        exact ⟨_, rfl, hr4, HK0.out.trans k4⟩
    · obtain rfl : E = 2 := by
        rcases hE with h | h | h
        · exact absurd h.2.2 hL
        · exact h.1
        · exact absurd ⟨hok, rfl, hlt⟩ h.2
      rw [if_neg (by omega)] at hRL
      have gL : (L : Int) > 300 := by omega
      have HRL := toHid hRL
      clear hE hRL hm hr hx hy hmd hrd hdx hdy hK hW k0 hx0 hok hlt hM hL hnb
      go_enter Tryz.func111, Tryz.ntmps111
      go_wp2_with (rw [← HW.out])
      refine hEn.mono ?_
      rintro e w1 ⟨zo, zc, rfl, hA1, k1⟩
      clear hEn p0 p1 p2 hA1
      go_wp2_with fail
      go_ret2
      exact ⟨_, rfl, by rw [HRL.out]; exact Row.nil _ _, HK0.out.trans k1⟩
  · obtain rfl : E = 1 := by
      rcases hE with h | h | h
      · exact absurd h.2.1 hP
      · exact absurd h.2.1 hP
      · exact h.1
    rw [if_neg (by omega)] at hRL
    have HRL := toHid hRL
    have hEn : Calls Tryz.prog 112 #[.pointer none, .agg #[.slice ao n mcap, .int .u64 (K : Nat), .slice bo l rcap], .slice xo N1 xc] W fun e w' => ∃ v', e = .returned (.tuple #[v', .int .i64 1]) ∧ Kept Nought W w' := by
      refine (mEnter none ao bo xo n l K mcap rcap N1 xc 1 ms rs xs W (TrRoom.none W _ (by omega)) (RowT.none (hm.grew k0)) (RowT.none (hr.grew k0)) (RowT.none (hx.grew k0)) hmd hrd hdx hK hnb ⟨fun h => absurd h (by omega), fun h => absurd h hP⟩ (by omega)).mono ?_
      rintro e w' ⟨v', rfl, _, _, o', d⟩
      exact ⟨v', rfl, d.none.2⟩
    clear hE hRL hm hr hx hy hmd hrd hdx hdy hK hW k0 hx0 hP hnb
    go_enter Tryz.func111, Tryz.ntmps111
    go_wp2_with (rw [← HW.out])
    refine hEn.mono ?_
    rintro e w1 ⟨v1, rfl, k1⟩
    clear hEn p0 p1 p2
    go_wp2_with fail
    go_ret2
    exact ⟨_, rfl, by rw [HRL.out]; exact Row.nil _ _, HK0.out.trans k1⟩

end Go.Proofs.YtcjaafmlflonhaaGreatDoor


/- Package miller: passes. -/
namespace Go.Proofs.YtcjaafmlflonhaaGreatDoor
open Go.RowKit

theorem res17 {A n : Nat} (h : A < 18446744073709551616 ^ n) (hn : n ≤ 300) : resCode A (n : Int) = 0 ∧ resList A (n : Int) = digs 18446744073709551616 A n := by
  have h1 : resCode A (n : Int) = 0 := by
    unfold resCode
    rw [if_neg (by omega), if_neg]
    rintro (h2 | h2)
    · omega
    · have := (wordsN_le A n).2 h
      rw [Int.toNat_natCast] at h2
      omega
  refine ⟨h1, ?_⟩
  unfold resList
  rw [if_pos h1, Int.toNat_natCast]

/-- Two numbers in Montgomery's form are alike just if they are modulo X. -/
theorem eq17 {w : World} {xo yo : Option Addr} {n xc yc X P Q : Nat} (hX : 3 < X) (hp : X % 2 = 1) (hf : X < 18446744073709551616 ^ n) (hn : n ≤ 130) (hx : MonR w (.slice xo n xc) n X P) (hy : MonR w (.slice yo n yc) n X Q) (R : Bool) (hR : R = decide (P % X = Q % X)) :
    Calls Tryz.prog 114 #[.slice xo n xc, .slice yo n yc] w fun e w' => e = .returned (.bool R) ∧ Kept Nought w w' := by
  refine yEqual _ _ _ _ R ?_ w hx hy (digs_digs (by omega) _ _) (digs_digs (by omega) _ _) (by rw [digs_length]; omega) (by rw [digs_length]; omega)
  rw [mon_val (by omega) hf, mon_val (by omega) hf, hR]
  exact decide_eq_decide.2 (mon_same hp).symm

set_option maxRecDepth 100000 in
set_option maxHeartbeats 4000000 in
/-- passes. -/
theorem yPasses (ao bo lo oo vo : Option Addr) (n mc rc lc oc K s X M vc A : Nat) (ys : List Nat) (R : Bool) (hA : A = val 18446744073709551616 ys) (hAX : A < X) (hR : R = true ↔ strongP X A) (w : World) (h : Num17 w X ao bo lo oo n mc rc lc oc K s) (hv : Row .u64 w (.slice vo M vc) ys) (hd : Digs 18446744073709551616 ys) :
    Calls Tryz.prog 75 #[.agg (numV ao bo lo oo n mc rc lc oc K s), .slice vo M vc] w fun e w' => e = .returned (.bool R) ∧ Kept Nought w w' := by
  obtain ⟨W, hW⟩ : ∃ W, W = w.alloc (.cells (numV ao bo lo oo n mc rc lc oc K s) 111) := ⟨_, rfl⟩
  have k0 : Kept Nought w W := by rw [hW]; exact (Kept.refl Nought w).alloc _
  have hx0 : W.heap[w.heap.size]? = some (.cells (numV ao bo lo oo n mc rc lc oc K s) 111 (0, 0)) := by rw [hW]; exact heap_alloc_new _ _
  have JC : Hid (∀ W', Kept Nought W W' → W'.cell? ⟨w.heap.size, 0, none⟩ = some (.slice ao n mc) ∧ W'.cell? ⟨w.heap.size, 1, none⟩ = some (.int .u64 (K : Nat)) ∧ W'.cell? ⟨w.heap.size, 2, none⟩ = some (.slice bo n rc) ∧ W'.cell? ⟨w.heap.size, 3, none⟩ = some (.slice lo n lc) ∧ W'.cell? ⟨w.heap.size, 4, none⟩ = some (.slice oo n oc) ∧ W'.cell? ⟨w.heap.size, 5, none⟩ = some (.int .i64 (s : Nat))) := fun W' k => cells6 ((k.block _ (lt_of_block hx0) (fun f => f)).trans hx0)
  have hX3 := h.big
  have hX2 := h.par
  have hfit := h.fit
  have hn0 := h.n0
  have hnb := h.nb
  have hsb := h.sb
  have hs0 := tz_pos h.tz hX3 hX2
  have hvm : val 18446744073709551616 (digs 18446744073709551616 X n) = X := by rw [val_digs, Nat.mod_eq_of_lt hfit]
  obtain ⟨D, hD⟩ : ∃ D, D = (X - 1) / 2 ^ s := ⟨_, rfl⟩
  have hDf : D < 18446744073709551616 ^ n := by rw [hD]; exact Nat.lt_of_le_of_lt (Nat.le_trans (Nat.div_le_self _ _) (Nat.sub_le _ _)) hfit
  have hodd := h.odd
  rw [← hD] at hodd
  have hst := strong_of (A := A) h.tz
  rw [← hD] at hst
  have hM := h.mod
  have HSR : Hid (R = true ↔ (A ^ D % X = 1 ∨ ∃ i, i < s ∧ (A ^ D) ^ 2 ^ i % X = X - 1)) := hR.trans hst
  have JRes : Hid (∀ W', Kept Nought W W' → Calls Tryz.prog 96 #[.slice vo M vc, .int .i64 (n : Int)] W' fun e w' => ∃ zo zc, e = .returned (.tuple #[.slice zo n zc, .int .i64 0]) ∧ Row .u64 w' (.slice zo n zc) (digs 18446744073709551616 A n) ∧ Kept Nought W w') := fun W' k => by
    obtain ⟨r1, r2⟩ := res17 (Nat.lt_trans hAX hfit) (show n ≤ 300 by omega)
    have h1 := nResize _ ys (n : Int) W' (hv.grew (k0.trans k)) hd
    rw [← hA, r1, r2] at h1
    refine h1.mono ?_
    rintro e w' ⟨v', rfl, h2, h3⟩
    obtain ⟨zo, zn, zc, rfl, hl, _⟩ := h2.open
    obtain rfl : zn = n := by have := hl.out; rw [digs_length] at this; exact this.symm
    exact ⟨zo, zc, rfl, h2, k.trans h3⟩
  have JQ : Hid (∀ W' zo zc, Kept Nought W W' → Row .u64 W' (.slice zo n zc) (digs 18446744073709551616 A n) → Calls Tryz.prog 111 #[.agg #[.slice ao n mc, .int .u64 (K : Nat), .slice bo n rc], .slice zo n zc, .slice oo n oc] W' fun e w' => ∃ yo yc, e = .returned (.tuple #[.slice yo n yc, .int .i64 0]) ∧ Row .u64 w' (.slice yo n yc) (digs 18446744073709551616 (A ^ D % X) n) ∧ Kept Nought W w') := fun W' zo zc k h1 => by
    have kk := k0.trans k
    have hvA : val 18446744073709551616 (digs 18446744073709551616 A n) = A := by rw [val_digs, Nat.mod_eq_of_lt (Nat.lt_trans hAX hfit)]
    have hvD : val 18446744073709551616 (digs 18446744073709551616 D n) = D := by rw [val_digs, Nat.mod_eq_of_lt hDf]
    have hm2 := hM.grew kk
    have h2 := sQuick ao bo zo oo n n K mc rc n zc n oc _ _ _ _ 0 (.inl ⟨rfl, ⟨hm2.ok, rfl, by rw [hvA, hvm]; exact hAX⟩, by omega⟩) _ rfl W' hm2.hm.1 hm2.hr.1 h1 (hodd.grew kk) hm2.hmd hm2.hrd (digs_digs (by omega) _ _) (digs_digs (by omega) _ _) hm2.hK (by omega)
    rw [if_pos rfl, hvA, hvD, hvm] at h2
    refine h2.mono ?_
    rintro e w' ⟨v', rfl, h3, h4⟩
    obtain ⟨yo, yn, yc, rfl, hl, _⟩ := h3.open
    obtain rfl : yn = n := by have := hl.out; rw [digs_length] at this; exact this.symm
    exact ⟨yo, yc, rfl, h3, k.trans h4⟩
  have JE : Hid (∀ W' zo zc, Kept Nought W W' → Row .u64 W' (.slice zo n zc) (digs 18446744073709551616 (A ^ D % X) n) → Calls Tryz.prog 112 #[.pointer none, .agg #[.slice ao n mc, .int .u64 (K : Nat), .slice bo n rc], .slice zo n zc] W' fun e w' => ∃ yo yc, e = .returned (.tuple #[.slice yo n yc, .int .i64 0]) ∧ MonR w' (.slice yo n yc) n X ((A ^ D) ^ 2 ^ 0) ∧ Kept Nought W w') := fun W' zo zc k h1 => by
    have hlt : A ^ D % X < X := Nat.mod_lt _ (by omega)
    have hvP : val 18446744073709551616 (digs 18446744073709551616 (A ^ D % X) n) = A ^ D % X := by rw [val_digs, Nat.mod_eq_of_lt (Nat.lt_trans hlt hfit)]
    have h2 := ent9 ao bo zo n n K mc rc zc _ _ _ W' (hM.grew (k0.trans k)) h1 (digs_digs (by omega) _ _) (by rw [hvP, hvm]; exact hlt)
    rw [hvP, hvm] at h2
    refine h2.mono ?_
    rintro e w' ⟨yo, yc, rfl, h3, h4⟩
    refine ⟨yo, yc, rfl, ?_, k.trans h4⟩
    unfold MonR at h3 ⊢
    rw [mon_mod] at h3
    rw [Nat.pow_zero, Nat.pow_one]
    exact h3
  have JO : Hid (∀ W', Kept Nought W W' → Calls Tryz.prog 113 #[.agg #[.slice ao n mc, .int .u64 (K : Nat), .slice bo n rc]] W' fun e w' => ∃ zo zc, e = .returned (.slice zo n zc) ∧ MonR w' (.slice zo n zc) n X 1 ∧ Kept Nought W' w') := fun W' k => by
    have h2 := one9 ao bo n n K mc rc _ _ W' (hM.grew (k0.trans k))
    rw [hvm] at h2
    exact h2
  have JS : Hid (∀ W' zo zc, Kept Nought W W' → MonR W' (.slice zo n zc) n X 1 → Calls Tryz.prog 29 #[.pointer none, .slice ao n mc, .slice zo n zc] W' fun e w' => ∃ yo yc c, e = .returned (.tuple #[.slice yo n yc, .int .u64 (c : Nat)]) ∧ MonR w' (.slice yo n yc) n X (X - 1) ∧ Kept Nought W' w') := fun W' zo zc k h1 => by
    have hm2 := hM.grew (k0.trans k)
    have h2 := lSub none _ _ _ _ W' (TrRoom.none _ _ (by omega)) hm2.hm (RowT.none h1) hm2.hmd (digs_digs (by omega) _ _) (by rw [digs_length]; omega) (by rw [digs_length]; omega)
    rw [digs_length, digs_length, Nat.max_self, hvm, mon_val (by omega) hfit, mon_sub hX2 (by omega)] at h2
    refine h2.mono ?_
    rintro e w' ⟨v', rfl, ho, o', d⟩
    have hr := own_row' ho (digs_length _ _ _)
    obtain ⟨yo, yn, yc, rfl, hl, _⟩ := hr.open
    obtain rfl : yn = n := by have := hl.out; rw [digs_length] at this; exact this.symm
    exact ⟨yo, yc, _, rfl, hr, d.none.2⟩
  have JMul : Hid (∀ W' yo yc P, Kept Nought W W' → MonR W' (.slice yo n yc) n X P → Calls Tryz.prog 115 #[.pointer none, .agg #[.slice ao n mc, .int .u64 (K : Nat), .slice bo n rc], .slice yo n yc, .slice yo n yc] W' fun e w' => ∃ ro rc', e = .returned (.tuple #[.slice ro n rc', .int .i64 0]) ∧ MonR w' (.slice ro n rc') n X (P * P) ∧ Kept Nought W' w') := fun W' yo yc P k h1 => by
    have h2 := mul9 ao bo yo yo n n K mc rc yc yc P P _ _ W' (hM.grew (k0.trans k)) (by rw [hvm]; exact h1) (by rw [hvm]; exact h1)
    rw [hvm] at h2
    refine h2.mono ?_
    rintro e w' ⟨zo, zc, rfl, h3, _, h4⟩
    exact ⟨zo, zc, rfl, h3, h4⟩
  have HW := toHid hW
  have HK0 := toHid k0
  obtain ⟨p0, p1, p2, p3, p4, p5⟩ := JC.out _ (Kept.refl Nought W)
  unfold numV at HW ⊢
  clear hW k0 hx0 hR h hv hd hst hM hodd hDf hvm hA hAX
  go_enter Tryz.func75, Tryz.ntmps75
  go_wp2_with (rw [← HW.out])
  go_step3
  go_wp2_with fail
  go_region_held3 (fun w' => w'.cell? ⟨w.heap.size, 0, none⟩ = some (.slice ao n mc) ∧ w'.cell? ⟨w.heap.size, 1, none⟩ = some (.int .u64 (K : Int)) ∧ w'.cell? ⟨w.heap.size, 2, none⟩ = some (.slice bo n rc) ∧ w'.cell? ⟨w.heap.size, 4, none⟩ = some (.slice oo n oc))
    (((try dsimp only); (repeat' apply And.intro) <;> first | (go_keep; done) | assumption))
    (first
    | (go_at_call 110; refine (yStep yo n yc w3).mono ?_; rintro e w4 ⟨rfl, rfl⟩)
    | (go_at_call 111; refine (JQ.out _ zo zc k2 hr2).mono ?_; rintro e w3 ⟨yo, yc, rfl, hr3, k3⟩; obtain ⟨t0, t1, t2, t3, t4, t5⟩ := JC.out _ k3)
    | (go_at_call 110; refine (yStep zo n zc w2).mono ?_; rintro e w2' ⟨rfl, rfl⟩)
    | (go_at_call 96; refine (JRes.out _ (Kept.refl Nought W).drew).mono ?_; rintro e w2 ⟨zo, zc, rfl, hr2, k2⟩; obtain ⟨s0, s1, s2, s3, s4, s5⟩ := JC.out _ k2))
  have hE := JE.out _ yo yc k3 hr3
  clear JRes JQ JE hr2 k2 hr3 p0 p1 p2 p3 p4 p5 s0 s1 s2 s3 s4 s5 hD
  go_wp2_with fail
  refine hE.mono ?_
  rintro e w5 ⟨xo, xc, rfl, hm5, k5⟩
  have hSt := yStep xo n xc w5
  clear hE k3 t0 t1 t2 t3 t4 t5
  go_wp2_with fail
  refine hSt.mono ?_
  rintro e w6 ⟨rfl, rfl⟩
  obtain ⟨p0, p1, p2, p3, p4, p5⟩ := JC.out _ k5
  have hOn := JO.out _ k5
  clear hSt JO
  go_wp2_with fail
  refine hOn.mono ?_
  rintro e w7 ⟨io, ic, rfl, hm7, k7⟩
  have K7 := k5.trans k7
  have hp7 := hm5.grew k7
  have hSu := JS.out _ io ic K7 hm7
  obtain ⟨q0, q1, q2, q3, q4, q5⟩ := JC.out _ K7
  clear hOn JS p0 p1 p2 p3 p4 p5 hm5 k5 k7
  go_wp2_with fail
  refine hSu.mono ?_
  rintro e w8 ⟨eo, ec, c8, rfl, hl8, k8⟩
  have K8 := K7.trans k8
  have hp8 := hp7.grew k8
  have ho8 := hm7.grew k8
  obtain ⟨B, hB⟩ : ∃ B, B = A ^ D := ⟨_, rfl⟩
  rw [← hB] at HSR hp8
  clear hSu q0 q1 q2 q3 q4 q5 hp7 hm7 k8 K7 hB
  have e1 : 1 % X = 1 := Nat.mod_eq_of_lt (by omega)
  have eL : (X - 1) % X = X - 1 := Nat.mod_eq_of_lt (by omega)
  have HE1 := toHid e1
  have HEL := toHid eL
  clear e1 eL
  by_cases h1 : B ^ 2 ^ 0 % X = 1
  · have hEq := eq17 hX3 hX2 hfit hnb hp8 ho8 true (by rw [HE1.out]; exact (decide_eq_true h1).symm)
    have HT : Hid (R = true) := HSR.out.2 (.inl (by rw [Nat.pow_zero, Nat.pow_one] at h1; exact h1))
    clear h1
    go_wp2_with fail
    refine hEq.mono ?_
    rintro e w9 ⟨rfl, k9⟩
    go_wp2_with fail
    try rw [Exit.noGoto_ret]
    go_ret
    exact ⟨by rw [HT.out]; rfl, HK0.out.trans (K8.trans k9)⟩
  have hEq := eq17 hX3 hX2 hfit hnb hp8 ho8 false (by rw [HE1.out]; exact (decide_eq_false h1).symm)
  have HN1 := toHid h1
  clear h1
  go_wp2_with fail
  refine hEq.mono ?_
  rintro e w9 ⟨rfl, k9⟩
  have K9 := K8.trans k9
  have hp9 := hp8.grew k9
  have ho9 := ho8.grew k9
  have hl9 := hl8.grew k9
  clear hEq hp8 ho8 hl8 K8 k9
  by_cases h2 : B ^ 2 ^ 0 % X = X - 1
  · have hEq := eq17 hX3 hX2 hfit hnb hp9 hl9 true (by rw [HEL.out]; exact (decide_eq_true h2).symm)
    have HT : Hid (R = true) := HSR.out.2 (.inr ⟨0, hs0, h2⟩)
    clear h2
    go_wp2_with fail
    refine hEq.mono ?_
    rintro e w10 ⟨rfl, k10⟩
    go_wp2_with fail
    try rw [Exit.noGoto_ret]
    go_ret
    exact ⟨by rw [HT.out]; rfl, HK0.out.trans (K9.trans k10)⟩
  have hEq := eq17 hX3 hX2 hfit hnb hp9 hl9 false (by rw [HEL.out]; exact (decide_eq_false h2).symm)
  have HN0 : Hid (∀ j, j ≤ 0 → B ^ 2 ^ j % X ≠ X - 1) := fun j hj => by
    have e : j = 0 := Nat.le_zero.1 hj
    rw [e]
    exact h2
  clear h2
  go_wp2_with fail
  refine hEq.mono ?_
  rintro e w10 ⟨rfl, k10⟩
  have K10 := toHid (K9.trans k10)
  have HP := toHid (hp9.grew k10)
  have HO := toHid (ho9.grew k10)
  have HL := toHid (hl9.grew k10)
  obtain ⟨p0, p1, p2, p3, p4, p5⟩ := JC.out _ K10.out
  clear hEq hp9 ho9 hl9 K9 k10
  go_wp2_with fail
  go_step3
  go_wp2_with fail
  clear p0 p1 p2 p3 p4 p5
  go_loopw [5, 9, 56] (fun pv fv iv wr => ∃ (i : Nat) (po : Option Addr) (pc : Nat), i + 1 ≤ s ∧ fv = .bool false ∧ iv = .int .i64 (i : Int) ∧ pv = .slice po n pc ∧ Hid (MonR wr (.slice po n pc) n X (B ^ 2 ^ i)) ∧ Hid (∀ j, j ≤ i → B ^ 2 ^ j % X ≠ X - 1) ∧ Hid (Kept Nought w10 wr)) (fun _ _ iv _ => s - (intOf iv).toNat)
  case atStart => exact ⟨0, xo, xc, by omega, rfl, rfl, rfl, HP.out, HN0.out, Kept.refl _ _⟩
  case round =>
    clear HP
    obtain ⟨i, po, pc, his, rfl, rfl, rfl, hmi, hall, hki⟩ := hrel
    have KI := K10.out.trans hki.out
    obtain ⟨p0, p1, p2, p3, p4, p5⟩ := JC.out _ KI
    by_cases hin : i + 1 < s
    · have g1 : (i : Int) < (s : Int) - 1 := by omega
      have hMu := JMul.out wr po pc _ KI hmi.out
      go_wp2_with fail
      refine hMu.mono ?_
      rintro e w11 ⟨ro, rc', rfl, hm11, k11⟩
      have hm12 : MonR w11 (.slice ro n rc') n X (B ^ 2 ^ (i + 1)) := by unfold MonR; rw [← sq_mon]; exact hm11
      have hSt := yStep ro n rc' w11
      clear hMu hm11
      go_wp2_with fail
      refine hSt.mono ?_
      rintro e w12 ⟨rfl, rfl⟩
      have K12 := hki.out.trans k11
      have hl12 := HL.out.grew K12
      have ho12 := HO.out.grew K12
      clear hSt k11
      by_cases h3 : B ^ 2 ^ (i + 1) % X = X - 1
      · have hEq := eq17 hX3 hX2 hfit hnb hm12 hl12 true (by rw [HEL.out]; exact (decide_eq_true h3).symm)
        have HT : Hid (R = true) := HSR.out.2 (.inr ⟨i + 1, hin, h3⟩)
        clear h3
        go_wp2_with fail
        refine hEq.mono ?_
        rintro e w13 ⟨rfl, k13⟩
        go_wp2_with fail
        try rw [Exit.noGoto_ret]
        go_ret
        exact ⟨by rw [HT.out]; rfl, HK0.out.trans (K10.out.trans (K12.trans k13))⟩
      · have hEq := eq17 hX3 hX2 hfit hnb hm12 hl12 false (by rw [HEL.out]; exact (decide_eq_false h3).symm)
        have HN3 : Hid (∀ j, j ≤ i + 1 → B ^ 2 ^ j % X ≠ X - 1) := fun j hj => by
          by_cases e : j = i + 1
          · subst e; exact h3
          · exact hall.out j (by omega)
        clear h3
        go_wp2_with fail
        refine hEq.mono ?_
        rintro e w13 ⟨rfl, k13⟩
        have K13 := K12.trans k13
        have hm13 := hm12.grew k13
        have ho13 := ho12.grew k13
        clear hEq k13 K12 hm12 ho12 hl12
        by_cases h4 : B ^ 2 ^ (i + 1) % X = 1
        · have hEq := eq17 hX3 hX2 hfit hnb hm13 ho13 true (by rw [HE1.out]; exact (decide_eq_true h4).symm)
          have HT : Hid (R = false) := by
            unfold Hid
            cases hb : R with
            | false => rfl
            | true =>
              rcases HSR.out.1 hb with h5 | ⟨j, hj, h5⟩
              · exact absurd (by rw [Nat.pow_zero, Nat.pow_one]; exact h5) HN1.out
              · by_cases hji : j ≤ i + 1
                · exact absurd h5 (HN3.out j hji)
                · have := sq_one (show 1 < X by omega) h4 j (by omega)
                  omega
          clear h4
          go_wp2_with fail
          refine hEq.mono ?_
          rintro e w14 ⟨rfl, k14⟩
          go_wp2_with fail
          try rw [Exit.noGoto_ret]
          go_ret
          exact ⟨by rw [HT.out]; rfl, HK0.out.trans (K10.out.trans (K13.trans k14))⟩
        · have hEq := eq17 hX3 hX2 hfit hnb hm13 ho13 false (by rw [HE1.out]; exact (decide_eq_false h4).symm)
          clear h4
          go_wp2_with fail
          refine hEq.mono ?_
          rintro e w14 ⟨rfl, k14⟩
          have HM14 := toHid (hm13.grew k14)
          have HK14 := toHid (K13.trans k14)
          clear hEq hm13 ho13 K13 k14
          go_wp2_with fail
          go_roundw
          case rel => exact ⟨i + 1, ro, rc', by omega, rfl, by go_num, rfl, HM14, HN3, HK14⟩
          case measure => simp [intOf]; omega
    · have g1 : ¬ (i : Int) < (s : Int) - 1 := by omega
      have HT : Hid (R = false) := by
        unfold Hid
        cases hb : R with
        | false => rfl
        | true =>
          rcases HSR.out.1 hb with h5 | ⟨j, hj, h5⟩
          · exact absurd (by rw [Nat.pow_zero, Nat.pow_one]; exact h5) HN1.out
          · exact absurd h5 (hall.out j (by omega))
      go_wp2_with fail
      try rw [Exit.noGoto_ret]
      go_ret
      exact ⟨by rw [HT.out]; rfl, HK0.out.trans (K10.out.trans hki.out)⟩

end Go.Proofs.YtcjaafmlflonhaaGreatDoor


/- Rows of bytes: owned ones, parts of them, append, texts; the plain Same of bytes. -/
namespace Go.Proofs.YtcjaafmlflonhaaGreatDoor
open Go.RowKit

theorem Tryz.info8s : (Tryz.prog.info? 5).map (fun i => (i.zero, i.size, i.bytes)) = some (some (.int .u8 0), 1, 1) := by kernel_rfl

/-- Bytes that only this slice holds, from block base on. -/
def OwnB (w : World) (base : Nat) (v : Value) (zs : List Nat) : Prop := OwnN .u8 5 w base v zs.length zs

theorem OwnB.row {w : World} {base : Nat} {v : Value} {zs : List Nat} (h : OwnB w base v zs) : Row .u8 w v zs := Row.of_own (base := base) (e := 5) h

theorem OwnB.of {w : World} {base n : Nat} {v : Value} {zs : List Nat} (h : OwnN .u8 5 w base v n zs) : OwnB w base v zs := by
  have hn : zs.length = n := by
    have := h.1
    rw [List.length_map] at this
    omega
  unfold OwnB
  rw [hn]
  exact h

theorem OwnB.kept {S : Nat → Prop} {w w' : World} {base : Nat} {v : Value} {zs : List Nat} (h : OwnB w base v zs) (hk : Kept S w w') (hs : ∀ b, base ≤ b → ¬ S b) : OwnB w' base v zs := hk.own h fun b hb => hs b (h.lt b hb).1

theorem OwnB.grew {w w' : World} {base : Nat} {v : Value} {zs : List Nat} (h : OwnB w base v zs) (hk : Kept Nought w w') : OwnB w' base v zs := h.kept hk fun _ _ f => f

theorem OwnB.base {w : World} {base base' : Nat} {v : Value} {zs : List Nat} (h : OwnB w base v zs) (hb : base' ≤ base) : OwnB w base' v zs := own_base h fun k hk => Nat.le_trans hb (h.lt k hk).1

theorem OwnB.nil (w : World) (base : Nat) : OwnB w base (.slice none 0 0) [] := World.ownsRow_nil _ _ _ _

def sliceLen : Value → Nat
  | .slice _ n _ => n
  | _ => 0

theorem row_part {k : IntKind} {w : World} {b off n cap s m : Nat} {zs : List Nat} (h : Row k w (.slice (some ⟨b, off, none⟩) n cap) zs) (h2 : s + m ≤ n) : Row k w (.slice (some ⟨b, off + s, none⟩) m (cap - s)) ((zs.drop s).take m) := by
  obtain ⟨ao, cap', e', c1, c2, _, h4⟩ := h
  cases e'
  have hl : ((zs.drop s).take m).length = m := by rw [List.length_take, List.length_drop]; omega
  refine ⟨_, _, by rw [hl], by omega, by omega, (fun e => by cases e), fun i hi => ?_⟩
  rw [hl] at hi
  obtain ⟨b', off', e', hcell⟩ := h4 (s + i) (by omega)
  cases e'
  refine ⟨b, off + s, rfl, ?_⟩
  rw [Nat.add_assoc, hcell, List.getD_eq_getElem?_getD, List.getD_eq_getElem?_getD, List.getElem?_take, if_pos hi, List.getElem?_drop]

theorem news_row {k : IntKind} {w W : World} {ad : Addr} {n cap : Nat} {zs : List Nat} (h : Row k w (.slice (some ad) n cap) zs) (kk : Kept Nought w W) : ∀ j u, (zs.map fun z : Nat => Value.int k (z : Int))[j]? = some u → W.cell? (ad.add j) = some u := fun j u hj => by
  obtain ⟨hlt, hv⟩ := List.getElem?_eq_some_iff.1 hj
  rw [List.length_map] at hlt
  obtain ⟨ao, cap', e', c1, c2, _, h4⟩ := h
  cases e'
  obtain ⟨b, off, e', hcell⟩ := h4 j hlt
  cases e'
  have hadd : (⟨b, off, none⟩ : Addr).add j = ⟨b, off + j, none⟩ := by unfold Addr.add; split <;> simp_all
  rw [hadd, kk.cellN hcell, ← hv, List.getElem_map, List.getD_eq_getElem?_getD, List.getElem?_eq_getElem hlt]
  rfl

theorem ones8 (k : IntKind) (zs : List Nat) : ∀ u ∈ (zs.map fun z : Nat => Value.int k (z : Int)), u.oneCell' = true := fun u hu => by
  obtain ⟨x, _, rfl⟩ := List.mem_map.1 hu
  rfl

/-- append of bytes, whether the slice that they come in is nil or not, to a row of the call's own. -/
theorem wpList_append_row {w : World} {ops : Array Oper} {rest : List Oper} {o : Oper} {a : Act} {Q : Exit → Act → World → Prop} (hgd : o.guard = none) (s x : Operand)
    (ho : o.op = .call { callee := .builtin .append, args := #[s, x], argTypes := #[22, 22] })
    (base : Nat) (v : Value) (zs : List Nat) (hs : a.eval s = v) (hown : OwnB w base v zs) (u : Value) (hx : a.eval x = u) (bs : List Nat) (hr : Row .u8 w u bs) (hl : zs.length + bs.length ≤ 100000000) (hbase : base ≤ w.heap.size)
    (h : ∀ v' w', OwnB w' base v' (zs ++ bs) → w.grownBy w' v.ownBlock → wpList Tryz.prog ops Q rest (a.put o.dst v') w') : wpList Tryz.prog ops Q (o :: rest) a w := by
  obtain ⟨i0, hi0, hz0, hz1, hz2⟩ := info_parts Tryz.info8s
  obtain ⟨ao, n, cap, rfl, hL, hc, _, hn, hnum⟩ := hr.open
  cases ao with
  | none =>
    obtain rfl := hn rfl
    obtain rfl : n = 0 := by omega
    obtain rfl : bs = [] := List.length_eq_zero_iff.1 hL.out
    refine wpList_append_own_none hgd s x 22 ho base 5 i0 1 Tryz.underlying22 hi0 v zs.length _ hs hown hx ?_
    exact h v w (by rw [List.append_nil]; exact hown) ⟨rfl, rfl, rfl, Nat.le_refl _, fun _ _ _ => rfl⟩
  | some ad =>
    have hlb := hL.out
    refine wpList_append_own w hgd s x 22 ho base 5 i0 (.int .u8 0) 1 1 Tryz.underlying22 hi0 hz0 hz1 hz2 rfl (by decide) v zs.length _ hs hown ad n cap (bs.map fun z : Nat => Value.int .u8 (z : Int)) hx ?_ (news_row hr (Kept.refl _ _)) (ones8 .u8 bs) (by unfold maxLen; omega) (by omega) hbase ?_
    · rw [List.length_map, hlb, Nat.mul_one]
    · intro v' w' ho' hg _
      refine h v' w' (OwnB.of (n := zs.length + n) ?_) hg
      unfold OwnN
      rw [List.map_append]
      exact ho'

end Go.Proofs.YtcjaafmlflonhaaGreatDoor

