/- Package short: Quick, Exp. -/
import Derived.Test.YtcjaafmlflonhaaGreatDoorSho2
namespace Go.Proofs.YtcjaafmlflonhaaGreatDoor
open Go.RowKit

/-- A number goes in, with no trace. -/
theorem ent9 (ao bo xo : Option Addr) (n l K mcap rcap xc : Nat) (ms rs xs : List Nat) (w : World) (hM : Mod8 w none ao bo n l K mcap rcap ms rs) (hx : Row .u64 w (.slice xo n xc) xs) (hdx : Digs 18446744073709551616 xs) (hlt : val 18446744073709551616 xs < val 18446744073709551616 ms) :
    Calls Tryz.prog 112 #[.pointer none, .agg #[.slice ao n mcap, .int .u64 (K : Nat), .slice bo l rcap], .slice xo n xc] w fun e w' => ∃ zo zc, e = .returned (.tuple #[.slice zo n zc, .int .i64 0]) ∧ MonR w' (.slice zo n zc) n (val 18446744073709551616 ms) (val 18446744073709551616 xs) ∧ Kept Nought w w' := by
  obtain ⟨⟨f0, f1⟩, f2, f3, f4, f5⟩ := hM.facts
  refine (mEnter none ao bo xo n l K mcap rcap n xc 0 ms rs xs w (TrRoom.none w _ (by omega)) hM.hm hM.hr (RowT.none hx) hM.hmd hM.hrd hdx hM.hK (by omega) ⟨fun _ => ⟨hM.ok, rfl, hlt⟩, fun _ => rfl⟩ (by omega)).mono ?_
  rintro e w' ⟨v', rfl, ⟨Y, hR, hG⟩, _, o', d⟩
  rw [if_pos rfl] at hR
  have hG' : Y = mon n (val 18446744073709551616 ms) (val 18446744073709551616 xs) := hG rfl
  rw [hG'] at hR
  have hA : MonR w' v' n (val 18446744073709551616 ms) (val 18446744073709551616 xs) := hR
  obtain ⟨zo, zc, rfl⟩ := hA.shape
  exact ⟨zo, zc, rfl, hA, d.none.2⟩

set_option maxRecDepth 40000 in
set_option maxHeartbeats 2000000 in
/-- Quick. -/
theorem sQuick (ao bo xo eo : Option Addr) (n l K mcap rcap N1 xc L ecap : Nat) (ms rs xs ys : List Nat) (E : Nat)
    (hE : (E = 0 ∧ (okMod ms K rs ∧ (N1 = n ∧ val 18446744073709551616 xs < val 18446744073709551616 ms)) ∧ L ≤ 300) ∨ (E = 2 ∧ (okMod ms K rs ∧ (N1 = n ∧ val 18446744073709551616 xs < val 18446744073709551616 ms)) ∧ 300 < L) ∨ (E = 1 ∧ ¬ (okMod ms K rs ∧ (N1 = n ∧ val 18446744073709551616 xs < val 18446744073709551616 ms))))
    (RL : List Nat) (hRL : RL = if E = 0 then digs 18446744073709551616 (val 18446744073709551616 xs ^ val 18446744073709551616 ys % val 18446744073709551616 ms) n else []) (w : World)
    (hm : Row .u64 w (.slice ao n mcap) ms) (hr : Row .u64 w (.slice bo l rcap) rs) (hx : Row .u64 w (.slice xo N1 xc) xs) (hy : Row .u64 w (.slice eo L ecap) ys) (hmd : Digs 18446744073709551616 ms) (hrd : Digs 18446744073709551616 rs) (hdx : Digs 18446744073709551616 xs) (hdy : Digs 18446744073709551616 ys) (hK : K < 18446744073709551616) (hnb : n ≤ 300) :
    Calls Tryz.prog 111 #[.agg #[.slice ao n mcap, .int .u64 (K : Nat), .slice bo l rcap], .slice xo N1 xc, .slice eo L ecap] w fun e w' => ∃ v', e = .returned (.tuple #[v', .int .i64 ((E : Nat) : Int)]) ∧ Row .u64 w' v' RL ∧ Kept Nought w w' := by
  obtain ⟨W, hW⟩ : ∃ W, W = w.alloc (.cells #[.slice ao n mcap, .int .u64 (K : Nat), .slice bo l rcap] 109) := ⟨_, rfl⟩
  have k0 : Kept Nought w W := by rw [hW]; exact (Kept.refl Nought w).alloc _
  have hx0 : W.heap[w.heap.size]? = some (.cells #[.slice ao n mcap, .int .u64 (K : Nat), .slice bo l rcap] 109 (0, 0)) := by rw [hW]; exact heap_alloc_new _ _
  have JC : Hid (∀ W', Kept Nought W W' → W'.cell? ⟨w.heap.size, 0, none⟩ = some (.slice ao n mcap) ∧ W'.cell? ⟨w.heap.size, 1, none⟩ = some (.int .u64 (K : Nat)) ∧ W'.cell? ⟨w.heap.size, 2, none⟩ = some (.slice bo l rcap)) := fun W' k => cells3 ((k.block _ (lt_of_block hx0) (fun f => f)).trans hx0)
  have HW := toHid hW
  have HK0 := toHid k0
  obtain ⟨p0, p1, p2⟩ := JC.out _ (Kept.refl Nought W)
  by_cases hP : okMod ms K rs ∧ (N1 = n ∧ val 18446744073709551616 xs < val 18446744073709551616 ms)
  · obtain ⟨hok, rfl, hlt⟩ := hP
    have hM : Mod8 w none ao bo N1 l K mcap rcap ms rs := ⟨RowT.none hm, RowT.none hr, hmd, hrd, hK, hok⟩
    have hEn := ent9 ao bo xo N1 l K mcap rcap xc ms rs xs W (hM.grew k0) (hx.grew k0) hdx hlt
    by_cases hL : L ≤ 300
    · obtain rfl : E = 0 := by
        rcases hE with h | h | h
        · exact h.1
        · omega
        · exact absurd ⟨hok, rfl, hlt⟩ h.2
      rw [if_pos rfl] at hRL
      have gL : ¬ (L : Int) > 300 := by omega
      have JR : Hid (∀ W' zo zc, Kept Nought W W' → MonR W' (.slice zo N1 zc) N1 (val 18446744073709551616 ms) (val 18446744073709551616 xs) → Calls Tryz.prog 144 #[.agg #[.slice ao N1 mcap, .int .u64 (K : Nat), .slice bo l rcap], .slice zo N1 zc, .slice eo L ecap] W' fun e w' => ∃ yo yc, e = .returned (.slice yo N1 yc) ∧ MonR w' (.slice yo N1 yc) N1 (val 18446744073709551616 ms) (val 18446744073709551616 xs ^ val 18446744073709551616 ys) ∧ Kept Nought W w') := fun W' zo zc k h => by
        refine (sRaised ao bo zo eo N1 l K mcap rcap zc L ecap _ ms rs ys W' (hM.grew (k0.trans k)) h (hy.grew (k0.trans k)) hdy hL).mono ?_
        rintro e w' ⟨yo, yc, rfl, h1, h2⟩
        exact ⟨yo, yc, rfl, h1, k.trans h2⟩
      have JL : Hid (∀ W' zo zc, Kept Nought W W' → MonR W' (.slice zo N1 zc) N1 (val 18446744073709551616 ms) (val 18446744073709551616 xs ^ val 18446744073709551616 ys) → Calls Tryz.prog 143 #[.pointer none, .agg #[.slice ao N1 mcap, .int .u64 (K : Nat), .slice bo l rcap], .slice zo N1 zc] W' fun e w' => ∃ v', e = .returned (.tuple #[v', .int .i64 0]) ∧ Row .u64 w' v' RL ∧ Kept Nought W w') := fun W' zo zc k h => by
        refine (lea9 ao bo zo N1 l K mcap rcap zc _ ms rs W' (hM.grew (k0.trans k)) h).mono ?_
        rintro e w' ⟨v', rfl, h1, h2⟩
        rw [← hRL] at h1
        exact ⟨v', rfl, h1, k.trans h2⟩
      clear hE hRL hm hr hx hy hmd hrd hdx hdy hK hW k0 hx0 hok hlt hM hL hnb
      generalize val 18446744073709551616 ms = V at *
      generalize val 18446744073709551616 xs = X at *
      generalize X ^ val 18446744073709551616 ys = Y at *
      go_enter Tryz.func111, Tryz.ntmps111
      go_wp2_with (rw [← HW.out])
      refine hEn.mono ?_
      rintro e w1 ⟨zo, zc, rfl, hA1, k1⟩
      obtain ⟨q0, q1, q2⟩ := JC.out _ k1
      have kd : Kept Nought W w1.drew := k1.drew
      have hA1d := hA1.grew (Kept.refl Nought w1).drew
      clear hEn p0 p1 p2
      go_wp2_with fail
      go_region_held3 (fun w' => w'.cell? ⟨w.heap.size, 0, none⟩ = some (.slice ao N1 mcap) ∧ w'.cell? ⟨w.heap.size, 1, none⟩ = some (.int .u64 (K : Int)) ∧ w'.cell? ⟨w.heap.size, 2, none⟩ = some (.slice bo l rcap))
        (((try dsimp only); (repeat' apply And.intro) <;> first | (go_keep; done) | assumption))
        (first
        | (go_at_call 144; refine (JR.out _ zo zc kd hA1d).mono ?_; rintro e w2 ⟨yo, yc, rfl, hA2, k2⟩; obtain ⟨s0, s1, s2⟩ := JC.out _ k2)
        | (go_at_call 143; refine (JL.out _ yo yc k2 hA2).mono ?_; rintro e w4 ⟨v4, rfl, hr4, k4⟩; obtain ⟨t0, t1, t2⟩ := JC.out _ k4))
      all_goals
        go_wp2_with fail
        go_ret2
        exact ⟨_, rfl, hr4, HK0.out.trans k4⟩
    · obtain rfl : E = 2 := by
        rcases hE with h | h | h
        · exact absurd h.2.2 hL
        · exact h.1
        · exact absurd ⟨hok, rfl, hlt⟩ h.2
      rw [if_neg (by omega)] at hRL
      have gL : (L : Int) > 300 := by omega
      have HRL := toHid hRL
      clear hE hRL hm hr hx hy hmd hrd hdx hdy hK hW k0 hx0 hok hlt hM hL hnb
      go_enter Tryz.func111, Tryz.ntmps111
      go_wp2_with (rw [← HW.out])
      refine hEn.mono ?_
      rintro e w1 ⟨zo, zc, rfl, hA1, k1⟩
      clear hEn p0 p1 p2 hA1
      go_wp2_with fail
      go_ret2
      exact ⟨_, rfl, by rw [HRL.out]; exact Row.nil _ _, HK0.out.trans k1⟩
  · obtain rfl : E = 1 := by
      rcases hE with h | h | h
      · exact absurd h.2.1 hP
      · exact absurd h.2.1 hP
      · exact h.1
    rw [if_neg (by omega)] at hRL
    have HRL := toHid hRL
    have hEn : Calls Tryz.prog 112 #[.pointer none, .agg #[.slice ao n mcap, .int .u64 (K : Nat), .slice bo l rcap], .slice xo N1 xc] W fun e w' => ∃ v', e = .returned (.tuple #[v', .int .i64 1]) ∧ Kept Nought W w' := by
      refine (mEnter none ao bo xo n l K mcap rcap N1 xc 1 ms rs xs W (TrRoom.none W _ (by omega)) (RowT.none (hm.grew k0)) (RowT.none (hr.grew k0)) (RowT.none (hx.grew k0)) hmd hrd hdx hK hnb ⟨fun h => absurd h (by omega), fun h => absurd h hP⟩ (by omega)).mono ?_
      rintro e w' ⟨v', rfl, _, _, o', d⟩
      exact ⟨v', rfl, d.none.2⟩
    clear hE hRL hm hr hx hy hmd hrd hdx hdy hK hW k0 hx0 hP hnb
    go_enter Tryz.func111, Tryz.ntmps111
    go_wp2_with (rw [← HW.out])
    refine hEn.mono ?_
    rintro e w1 ⟨v1, rfl, k1⟩
    clear hEn p0 p1 p2
    go_wp2_with fail
    go_ret2
    exact ⟨_, rfl, by rw [HRL.out]; exact Row.nil _ _, HK0.out.trans k1⟩

theorem clamp1 : clampN 1 = 1 := by decide

end Go.Proofs.YtcjaafmlflonhaaGreatDoor
