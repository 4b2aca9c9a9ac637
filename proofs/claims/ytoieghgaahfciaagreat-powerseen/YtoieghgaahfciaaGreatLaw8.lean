/- What the laws of layer 8 ask first; Exp and Table with no trace. -/
import Derived.Test.YtoieghgaahfciaaGreatPowK
import Derived.Test.YtoieghgaahfciaaGreatLaw6
import Derived.Test.YtoieghgaahfciaaGreatRef8B
namespace Go.Proofs.YtoieghgaahfciaaGreat
open Go.RowKit

theorem row1p (W : World) (z : Nat) : Row .u64 (W.alloc (.cells #[.int .u64 (z : Nat)] 24)) (.slice (some ⟨W.heap.size, 0, none⟩) 1 1) [z] :=
  Row.of_own (base := W.heap.size) (e := 24) (World.ownsRow_lit W #[.int .u64 (z : Nat)] 1 (Nat.le_refl _) (by unfold maxLen; omega) rfl)

/-- Exp with no trace. -/
theorem exp8 (ao bo xo eo : Option Addr) (n l K mcap rcap N1 xc L ecap : Nat) (ms rs xs ys : List Nat) (E : Nat)
    (hE : (E = 0 ∧ (okMod ms K rs ∧ (N1 = n ∧ val 18446744073709551616 xs < val 18446744073709551616 ms)) ∧ L ≤ 300) ∨ (E = 2 ∧ (okMod ms K rs ∧ (N1 = n ∧ val 18446744073709551616 xs < val 18446744073709551616 ms)) ∧ 300 < L) ∨ (E = 1 ∧ ¬ (okMod ms K rs ∧ (N1 = n ∧ val 18446744073709551616 xs < val 18446744073709551616 ms))))
    (RL : List Nat) (hRL : RL = if E = 0 then digs 18446744073709551616 (val 18446744073709551616 xs ^ val 18446744073709551616 ys % val 18446744073709551616 ms) n else []) (w : World)
    (hm : Row .u64 w (.slice ao n mcap) ms) (hr : Row .u64 w (.slice bo l rcap) rs) (hx : Row .u64 w (.slice xo N1 xc) xs) (hy : Row .u64 w (.slice eo L ecap) ys) (hmd : Digs 18446744073709551616 ms) (hrd : Digs 18446744073709551616 rs) (hdx : Digs 18446744073709551616 xs) (hdy : Digs 18446744073709551616 ys) (hK : K < 18446744073709551616) (hnb : n ≤ 300) :
    Calls Tryz.prog 9 #[.pointer none, .agg #[.slice ao n mcap, .int .u64 (K : Nat), .slice bo l rcap], .slice xo N1 xc, .slice eo L ecap] w fun e w' => ∃ v', e = .returned (.tuple #[v', .int .i64 ((E : Nat) : Int)]) ∧ Row .u64 w' v' RL ∧ Kept Nought w w' := by
  obtain ⟨F, hF, hF1⟩ := err_of (okMod ms K rs ∧ (N1 = n ∧ val 18446744073709551616 xs < val 18446744073709551616 ms))
  refine (wExp none ao bo xo eo n l K mcap rcap N1 xc L ecap ms rs xs ys F w (TrRoom.none w _ (by omega)) (RowT.none hm) (RowT.none hr) (RowT.none hx) (RowT.none hy) hmd hrd hdx hdy hK hnb hF hF1).mono ?_
  rintro e w' ⟨zo, zn, zc, c, rfl, ⟨h1, h2, rfl, h3, o', d⟩ | ⟨h1, h2, m, o', d⟩⟩
  · have hp := hF.1 h1
    rcases hE with ⟨rfl, _, _⟩ | ⟨_, _, h4⟩ | ⟨_, h4⟩
    · rw [if_pos rfl] at hRL
      exact ⟨_, rfl, by rw [hRL]; exact h3.1, d.none.2⟩
    · omega
    · exact absurd hp h4
  · rw [h2]
    rcases h1 with ⟨h4, rfl⟩ | ⟨h4, h5, rfl⟩
    · have hp : ¬ (okMod ms K rs ∧ (N1 = n ∧ val 18446744073709551616 xs < val 18446744073709551616 ms)) := fun h => by have := hF.2 h; omega
      rcases hE with ⟨_, h6, _⟩ | ⟨_, h6, _⟩ | ⟨rfl, _⟩
      · exact absurd h6 hp
      · exact absurd h6 hp
      · rw [if_neg (by omega)] at hRL
        exact ⟨_, rfl, by rw [hRL]; exact Row.nil _ _, d.none.2⟩
    · rcases hE with ⟨_, _, h6⟩ | ⟨rfl, _, _⟩ | ⟨_, h6⟩
      · omega
      · rw [if_neg (by omega)] at hRL
        exact ⟨_, rfl, by rw [hRL]; exact Row.nil _ _, d.none.2⟩
      · exact absurd (hF.1 h4) h6

/-- Table with no trace. -/
theorem table8 (ao bo xo : Option Addr) (n l K mcap rcap N1 xc : Nat) (ms rs xs : List Nat) (E : Nat) (hE : E = 0 ↔ okMod ms K rs ∧ (N1 = n ∧ val 18446744073709551616 xs < val 18446744073709551616 ms)) (hE1 : E ≤ 1) (w : World)
    (hm : Row .u64 w (.slice ao n mcap) ms) (hr : Row .u64 w (.slice bo l rcap) rs) (hx : Row .u64 w (.slice xo N1 xc) xs) (hmd : Digs 18446744073709551616 ms) (hrd : Digs 18446744073709551616 rs) (hdx : Digs 18446744073709551616 xs) (hK : K < 18446744073709551616) (hnb : n ≤ 300) :
    Calls Tryz.prog 12 #[.pointer none, .agg #[.slice ao n mcap, .int .u64 (K : Nat), .slice bo l rcap], .slice xo N1 xc] w fun e w' => ∃ (zo : Option Addr) (zn zc : Nat), e = .returned (.tuple #[.slice zo zn zc, .int .i64 (E : Int)]) ∧
      ((E = 0 ∧ ∃ b0, TabAns n b0 (val 18446744073709551616 ms) (val 18446744073709551616 xs) w' (.slice zo zn zc)) ∨ (E = 1 ∧ Value.slice zo zn zc = .slice none 0 0)) ∧ Kept Nought w w' := by
  refine (wTable none ao bo xo n l K mcap rcap N1 xc ms rs xs E w (TrRoom.none w _ (by omega)) (RowT.none hm) (RowT.none hr) (RowT.none hx) hmd hrd hdx hK hnb hE hE1).mono ?_
  rintro e w' ⟨zo, zn, zc, rfl, ⟨h1, ⟨b0, _, h2⟩, o', d⟩ | ⟨h1, h2, m, o', d⟩⟩
  · exact ⟨zo, zn, zc, rfl, .inl ⟨h1, b0, h2⟩, d.none.2⟩
  · exact ⟨zo, zn, zc, rfl, .inr ⟨h1, h2⟩, d.none.2⟩

theorem ex8 : digs 18446744073709551616 (val 18446744073709551616 [3] ^ val 18446744073709551616 [5] % val 18446744073709551616 [7]) 1 = [5] ∧ val 18446744073709551616 [3] < val 18446744073709551616 [7] := by decide

set_option maxRecDepth 20000 in
set_option maxHeartbeats 1000000 in
/-- awake. -/
theorem f8Awake (w : World) : Calls Tryz.prog 7 #[] w fun r w' => r = .returned (.bool true) ∧ Kept Nought w w' := by
  have hS := q6Setup _ 1 1 [7] 7 0 rfl ex6.1.symm _ (row7 w) (Digs.one (by omega)) (by omega)
  rw [ex6.2.1, ex6.2.2] at hS
  have k0 := (Kept.refl Nought w).alloc (.cells #[.int .u64 7] 24)
  have HK0 := toHid k0
  go_enter Tryz.func7, Tryz.ntmps7
  go_wp2_with fail
  refine hS.mono ?_
  rintro e w1 ⟨a, K, b, rfl, ha, hb, hK, k1⟩
  have hok := (setup_ok ex6.1 hK).1
  rw [ex6.2.1, ex6.2.2] at hok
  have hKb : K < 18446744073709551616 := hK.1
  obtain ⟨ao, n, cap, rfl, hL, _, _, _, _⟩ := ha.open
  obtain ⟨bo, m, dap, rfl, hM, _, _, _, _⟩ := hb.open
  obtain rfl : n = 1 := hL.out.symm
  obtain rfl : m = 1 := hM.out.symm
  have K1 := toHid (HK0.out.trans k1)
  have HA := toHid ha
  have HB := toHid hb
  have HO := toHid hok
  have dm : Digs 18446744073709551616 [7] := Digs.one (by omega)
  have dr : Digs 18446744073709551616 [4] := Digs.one (by omega)
  have d3 : Digs 18446744073709551616 [3] := Digs.one (by omega)
  have d5 : Digs 18446744073709551616 [5] := Digs.one (by omega)
  have JA : Hid (∀ W, Kept Nought w1 W → Calls Tryz.prog 9 #[.pointer none, .agg #[.slice ao 1 cap, .int .u64 (K : Nat), .slice bo 1 dap], .slice (some ⟨W.heap.size, 0, none⟩) 1 1, .slice (some ⟨W.heap.size + 1, 0, none⟩) 1 1] ((W.alloc (.cells #[.int .u64 3] 24)).alloc (.cells #[.int .u64 5] 24)) fun e w' => ∃ v', e = .returned (.tuple #[v', .int .i64 0]) ∧ Row .u64 w' v' [5] ∧ Kept Nought W w') := fun W k => by
    have k2 := ((Kept.refl Nought W).alloc (.cells #[.int .u64 3] 24)).alloc (.cells #[.int .u64 5] 24)
    have r5 := row1p (W.alloc (.cells #[.int .u64 3] 24)) 5
    rw [show (W.alloc (.cells #[.int .u64 3] 24)).heap.size = W.heap.size + 1 by simp] at r5
    refine (exp8 ao bo _ _ 1 1 K cap dap 1 1 1 1 [7] [4] [3] [5] 0 (.inl ⟨rfl, ⟨HO.out, rfl, ex8.2⟩, by omega⟩) [5] ex8.1.symm _ (HA.out.grew (k.trans k2)) (HB.out.grew (k.trans k2)) ((row1p W 3).grew ((Kept.refl Nought _).alloc _)) r5 dm dr d3 d5 hKb (by omega)).mono ?_
    rintro e w' ⟨v', rfl, h1, h2⟩
    exact ⟨v', rfl, h1, k2.trans h2⟩
  obtain ⟨W1, hW1⟩ : ∃ W1, W1 = w1.alloc (.cells #[.slice ao 1 cap, .int .u64 (K : Nat), .slice bo 1 dap] 26) := ⟨_, rfl⟩
  have kW : Kept Nought w1 W1 := by rw [hW1]; exact (Kept.refl Nought w1).alloc _
  have hx0 : W1.heap[w1.heap.size]? = some (.cells #[.slice ao 1 cap, .int .u64 (K : Nat), .slice bo 1 dap] 26 (0, 0)) := by rw [hW1]; exact heap_alloc_new _ _
  obtain ⟨p0, p1, p2⟩ := cells3 hx0
  have HW1 := toHid hW1
  have KW := toHid kW
  have hA := JA.out _ KW.out
  unfold modCells
  clear hS ha hb hK hok hL hM k0 k1 HA HB HO dm dr d3 d5 hKb hx0 hW1 kW
  go_wp2_with (rw [← HW1.out])
  refine hA.mono ?_
  rintro e w2 ⟨v2, rfl, hr2, k2⟩
  obtain ⟨ao2, n2, cap2, rfl, hL2, _, _, _, hnum2⟩ := hr2.open
  obtain rfl : n2 = 1 := hL2.out.symm
  obtain ⟨b2, off2, rfl, hc2⟩ := hnum2 0 (by omega)
  have K2 := toHid (K1.out.trans (KW.out.trans k2))
  have hc2' : w2.cell? ⟨b2, off2, none⟩ = some (.int .u64 5) := hc2
  clear hA hr2 hnum2 hL2 k2 p0 p1 p2 hc2
  go_wp2_with fail
  go_ret
  exact ⟨rfl, K2.out⟩

end Go.Proofs.YtoieghgaahfciaaGreat
