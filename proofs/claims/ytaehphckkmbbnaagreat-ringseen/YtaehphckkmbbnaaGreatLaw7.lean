/- Layer 7 with no trace: ring's functions as the laws call them; the laws' first test; sum, difference, product. -/
import Derived.Test.YtaehphckkmbbnaaGreatRinE
import Derived.Test.YtaehphckkmbbnaaGreatLaw6
import Derived.Test.YtaehphckkmbbnaaGreatRef7D
namespace Go.Proofs.YtaehphckkmbbnaaGreat
open Go.RowKit

theorem asked_none {w w' : World} {u : Bool} {P : Prop} {L : List Nat} {dE : List Ev} {v' : Value} {c : Nat} (h : Asked w none u P (fun zs c => zs = L ∧ c = 0) dE w' v' c) {E : Nat} (hE : (E = 0 ∧ P) ∨ (E = 1 ∧ ¬ P)) {RL : List Nat} (hRL : RL = if E = 0 then L else []) : c = E ∧ Row .u64 w' v' RL ∧ Kept Nought w w' := by
  obtain ⟨zs, m, o', h1, _, d, hp, hn⟩ := h
  have k := d.none.2
  rcases hE with ⟨rfl, hP⟩ | ⟨rfl, hP⟩
  · obtain ⟨⟨rfl, rfl⟩, _⟩ := hp hP
    rw [if_pos rfl] at hRL
    subst hRL
    exact ⟨rfl, h1, k⟩
  · obtain ⟨rfl, rfl⟩ := hn hP
    rw [if_neg (by omega)] at hRL
    subst hRL
    exact ⟨rfl, h1, k⟩

theorem err7 (P : Prop) : ∃ E : Nat, (E = 0 ∧ P) ∨ (E = 1 ∧ ¬ P) := by
  by_cases h : P
  · exact ⟨0, .inl ⟨rfl, h⟩⟩
  · exact ⟨1, .inr ⟨rfl, h⟩⟩

/-- Add with no trace. -/
theorem add7 (ao bo xo yo : Option Addr) (n l K mcap rcap N1 N2 xc yc : Nat) (ms rs xs ys : List Nat) (E : Nat) (hE : (E = 0 ∧ okMod ms K rs ∧ (N1 = n ∧ val 18446744073709551616 xs < val 18446744073709551616 ms) ∧ (N2 = n ∧ val 18446744073709551616 ys < val 18446744073709551616 ms)) ∨ (E = 1 ∧ ¬ (okMod ms K rs ∧ (N1 = n ∧ val 18446744073709551616 xs < val 18446744073709551616 ms) ∧ (N2 = n ∧ val 18446744073709551616 ys < val 18446744073709551616 ms)))) (RL : List Nat) (hRL : RL = if E = 0 then digs 18446744073709551616 ((val 18446744073709551616 xs + val 18446744073709551616 ys) % val 18446744073709551616 ms) n else []) (w : World)
    (hm : Row .u64 w (.slice ao n mcap) ms) (hr : Row .u64 w (.slice bo l rcap) rs) (hx : Row .u64 w (.slice xo N1 xc) xs) (hy : Row .u64 w (.slice yo N2 yc) ys) (hmd : Digs 18446744073709551616 ms) (hrd : Digs 18446744073709551616 rs) (hdx : Digs 18446744073709551616 xs) (hdy : Digs 18446744073709551616 ys) (hK : K < 18446744073709551616) (hn : n ≤ 1000) (h1 : N1 ≤ 1000) (h2 : N2 ≤ 1000) :
    Calls Tryz.prog 8 #[.pointer none, .agg #[.slice ao n mcap, .int .u64 (K : Nat), .slice bo l rcap], .slice xo N1 xc, .slice yo N2 yc] w fun e w' => ∃ v', e = .returned (.tuple #[v', .int .i64 (E : Nat)]) ∧ Row .u64 w' v' RL ∧ Kept Nought w w' := by
  refine (gAdd none ao bo xo yo n l K mcap rcap N1 N2 xc yc ms rs xs ys w (TrRoom.none _ _ (by omega)) (RowT.none hm) (RowT.none hr) (RowT.none hx) (RowT.none hy) hmd hrd hdx hdy hK (by omega) (by omega) (by omega)).mono ?_
  rintro e w' ⟨v', c, rfl, h⟩
  obtain ⟨rfl, h3, h4⟩ := asked_none h hE hRL
  exact ⟨v', rfl, h3, h4⟩

/-- Sub with no trace. -/
theorem sub7 (ao bo xo yo : Option Addr) (n l K mcap rcap N1 N2 xc yc : Nat) (ms rs xs ys : List Nat) (E : Nat) (hE : (E = 0 ∧ okMod ms K rs ∧ (N1 = n ∧ val 18446744073709551616 xs < val 18446744073709551616 ms) ∧ (N2 = n ∧ val 18446744073709551616 ys < val 18446744073709551616 ms)) ∨ (E = 1 ∧ ¬ (okMod ms K rs ∧ (N1 = n ∧ val 18446744073709551616 xs < val 18446744073709551616 ms) ∧ (N2 = n ∧ val 18446744073709551616 ys < val 18446744073709551616 ms)))) (RL : List Nat) (hRL : RL = if E = 0 then digs 18446744073709551616 (subM (val 18446744073709551616 xs) (val 18446744073709551616 ys) (val 18446744073709551616 ms)) n else []) (w : World)
    (hm : Row .u64 w (.slice ao n mcap) ms) (hr : Row .u64 w (.slice bo l rcap) rs) (hx : Row .u64 w (.slice xo N1 xc) xs) (hy : Row .u64 w (.slice yo N2 yc) ys) (hmd : Digs 18446744073709551616 ms) (hrd : Digs 18446744073709551616 rs) (hdx : Digs 18446744073709551616 xs) (hdy : Digs 18446744073709551616 ys) (hK : K < 18446744073709551616) (hn : n ≤ 1000) (h1 : N1 ≤ 1000) (h2 : N2 ≤ 1000) :
    Calls Tryz.prog 9 #[.pointer none, .agg #[.slice ao n mcap, .int .u64 (K : Nat), .slice bo l rcap], .slice xo N1 xc, .slice yo N2 yc] w fun e w' => ∃ v', e = .returned (.tuple #[v', .int .i64 (E : Nat)]) ∧ Row .u64 w' v' RL ∧ Kept Nought w w' := by
  refine (gSub none ao bo xo yo n l K mcap rcap N1 N2 xc yc ms rs xs ys w (TrRoom.none _ _ (by omega)) (RowT.none hm) (RowT.none hr) (RowT.none hx) (RowT.none hy) hmd hrd hdx hdy hK (by omega) (by omega) (by omega)).mono ?_
  rintro e w' ⟨v', c, rfl, h⟩
  obtain ⟨rfl, h3, h4⟩ := asked_none h hE hRL
  exact ⟨v', rfl, h3, h4⟩

/-- Mul with no trace. -/
theorem mul7 (ao bo xo yo : Option Addr) (n l K mcap rcap N1 N2 xc yc : Nat) (ms rs xs ys : List Nat) (E : Nat) (hE : (E = 0 ∧ okMod ms K rs ∧ (N1 = n ∧ val 18446744073709551616 xs < val 18446744073709551616 ms) ∧ (N2 = n ∧ val 18446744073709551616 ys < val 18446744073709551616 ms)) ∨ (E = 1 ∧ ¬ (okMod ms K rs ∧ (N1 = n ∧ val 18446744073709551616 xs < val 18446744073709551616 ms) ∧ (N2 = n ∧ val 18446744073709551616 ys < val 18446744073709551616 ms)))) (RL : List Nat) (hRL : RL = if E = 0 then digs 18446744073709551616 (val 18446744073709551616 xs * val 18446744073709551616 ys % val 18446744073709551616 ms) n else []) (w : World)
    (hm : Row .u64 w (.slice ao n mcap) ms) (hr : Row .u64 w (.slice bo l rcap) rs) (hx : Row .u64 w (.slice xo N1 xc) xs) (hy : Row .u64 w (.slice yo N2 yc) ys) (hmd : Digs 18446744073709551616 ms) (hrd : Digs 18446744073709551616 rs) (hdx : Digs 18446744073709551616 xs) (hdy : Digs 18446744073709551616 ys) (hK : K < 18446744073709551616) (hn : n ≤ 1000) (h1 : N1 ≤ 1000) (h2 : N2 ≤ 1000) :
    Calls Tryz.prog 12 #[.pointer none, .agg #[.slice ao n mcap, .int .u64 (K : Nat), .slice bo l rcap], .slice xo N1 xc, .slice yo N2 yc] w fun e w' => ∃ v', e = .returned (.tuple #[v', .int .i64 (E : Nat)]) ∧ Row .u64 w' v' RL ∧ Kept Nought w w' := by
  refine (gMul none ao bo xo yo n l K mcap rcap N1 N2 xc yc ms rs xs ys w (TrRoom.none _ _ (by omega)) (RowT.none hm) (RowT.none hr) (RowT.none hx) (RowT.none hy) hmd hrd hdx hdy hK (by omega) (by omega) (by omega)).mono ?_
  rintro e w' ⟨v', c, rfl, h⟩
  obtain ⟨rfl, h3, h4⟩ := asked_none h hE hRL
  exact ⟨v', rfl, h3, h4⟩

/-- Neg with no trace. -/
theorem neg7 (ao bo xo : Option Addr) (n l K mcap rcap N1 xc : Nat) (ms rs xs : List Nat) (E : Nat) (hE : (E = 0 ∧ okMod ms K rs ∧ (N1 = n ∧ val 18446744073709551616 xs < val 18446744073709551616 ms)) ∨ (E = 1 ∧ ¬ (okMod ms K rs ∧ (N1 = n ∧ val 18446744073709551616 xs < val 18446744073709551616 ms)))) (RL : List Nat) (hRL : RL = if E = 0 then digs 18446744073709551616 (subM 0 (val 18446744073709551616 xs) (val 18446744073709551616 ms)) n else []) (w : World)
    (hm : Row .u64 w (.slice ao n mcap) ms) (hr : Row .u64 w (.slice bo l rcap) rs) (hx : Row .u64 w (.slice xo N1 xc) xs) (hmd : Digs 18446744073709551616 ms) (hrd : Digs 18446744073709551616 rs) (hdx : Digs 18446744073709551616 xs) (hK : K < 18446744073709551616) (hn : n ≤ 1000) (h1 : N1 ≤ 1000) :
    Calls Tryz.prog 10 #[.pointer none, .agg #[.slice ao n mcap, .int .u64 (K : Nat), .slice bo l rcap], .slice xo N1 xc] w fun e w' => ∃ v', e = .returned (.tuple #[v', .int .i64 (E : Nat)]) ∧ Row .u64 w' v' RL ∧ Kept Nought w w' := by
  refine (gNeg none ao bo xo n l K mcap rcap N1 xc ms rs xs w (TrRoom.none _ _ (by omega)) (RowT.none hm) (RowT.none hr) (RowT.none hx) hmd hrd hdx hK (by omega) (by omega)).mono ?_
  rintro e w' ⟨v', c, rfl, h⟩
  obtain ⟨rfl, h3, h4⟩ := asked_none h hE hRL
  exact ⟨v', rfl, h3, h4⟩

/-- Half with no trace. -/
theorem half7 (ao bo xo : Option Addr) (n l K mcap rcap N1 xc : Nat) (ms rs xs : List Nat) (E : Nat) (hE : (E = 0 ∧ okMod ms K rs ∧ (N1 = n ∧ val 18446744073709551616 xs < val 18446744073709551616 ms)) ∨ (E = 1 ∧ ¬ (okMod ms K rs ∧ (N1 = n ∧ val 18446744073709551616 xs < val 18446744073709551616 ms)))) (RL : List Nat) (hRL : RL = if E = 0 then digs 18446744073709551616 (halfM (val 18446744073709551616 xs) (val 18446744073709551616 ms)) n else []) (w : World)
    (hm : Row .u64 w (.slice ao n mcap) ms) (hr : Row .u64 w (.slice bo l rcap) rs) (hx : Row .u64 w (.slice xo N1 xc) xs) (hmd : Digs 18446744073709551616 ms) (hrd : Digs 18446744073709551616 rs) (hdx : Digs 18446744073709551616 xs) (hK : K < 18446744073709551616) (hn : n ≤ 1000) (h1 : N1 ≤ 1000) :
    Calls Tryz.prog 11 #[.pointer none, .agg #[.slice ao n mcap, .int .u64 (K : Nat), .slice bo l rcap], .slice xo N1 xc] w fun e w' => ∃ v', e = .returned (.tuple #[v', .int .i64 (E : Nat)]) ∧ Row .u64 w' v' RL ∧ Kept Nought w w' := by
  refine (gHalfW none ao bo xo n l K mcap rcap N1 xc ms rs xs w (TrRoom.none _ _ (by omega)) (RowT.none hm) (RowT.none hr) (RowT.none hx) hmd hrd hdx hK (by omega) (by omega)).mono ?_
  rintro e w' ⟨v', c, rfl, h⟩
  obtain ⟨rfl, h3, h4⟩ := asked_none h hE hRL
  exact ⟨v', rfl, h3, h4⟩

/-- Reduce with no trace. -/
theorem red7 (ao bo xo : Option Addr) (n l K mcap rcap N1 xc : Nat) (ms rs xs : List Nat) (E : Nat) (hE : (E = 0 ∧ okMod ms K rs ∧ N1 ≤ 300) ∨ (E = 2 ∧ okMod ms K rs ∧ 300 < N1) ∨ (E = 1 ∧ ¬ okMod ms K rs)) (RL : List Nat) (hRL : RL = if E = 0 then digs 18446744073709551616 (val 18446744073709551616 xs % val 18446744073709551616 ms) n else []) (w : World)
    (hm : Row .u64 w (.slice ao n mcap) ms) (hr : Row .u64 w (.slice bo l rcap) rs) (hx : Row .u64 w (.slice xo N1 xc) xs) (hmd : Digs 18446744073709551616 ms) (hrd : Digs 18446744073709551616 rs) (hdx : Digs 18446744073709551616 xs) (hK : K < 18446744073709551616) (hn : n ≤ 1000) :
    Calls Tryz.prog 13 #[.pointer none, .agg #[.slice ao n mcap, .int .u64 (K : Nat), .slice bo l rcap], .slice xo N1 xc] w fun e w' => ∃ v', e = .returned (.tuple #[v', .int .i64 (E : Nat)]) ∧ Row .u64 w' v' RL ∧ Kept Nought w w' := by
  obtain ⟨_, _, _, e1, hLm, _, _, _, _⟩ := hm.open
  cases e1
  obtain ⟨_, _, _, e1, hLr, _, _, _, _⟩ := hr.open
  cases e1
  refine (gRed none ao bo xo n l K mcap rcap N1 xc ms rs xs w (TrRoom.none _ _ (by omega)) (RowT.none hm) (RowT.none hr) (RowT.none hx) hmd hrd hdx hK (by omega)).mono ?_
  rintro e w' ⟨v', c, rfl, zs, m, o', h1, _, d, hp, hq⟩
  have k := d.none.2
  rcases hE with ⟨rfl, hok, h3⟩ | ⟨rfl, hok, h3⟩ | ⟨rfl, hok⟩
  · obtain ⟨f1, f2, f3, f4, f5, f6, f7⟩ := hok.facts hLm.out hLr.out hmd hrd hK
    obtain ⟨⟨rfl, rfl⟩, _⟩ := hp hok
    obtain ⟨e1, _, e3⟩ := div_good (X := val 18446744073709551616 xs) (Y := val 18446744073709551616 ms) (L := N1) (M := n) ⟨h3, by omega⟩ (by omega)
    rw [if_pos rfl] at hRL
    subst hRL
    rw [e3] at h1
    exact ⟨v', by rw [e1], h1, k⟩
  · obtain ⟨⟨rfl, rfl⟩, _⟩ := hp hok
    obtain ⟨e1, _, e3⟩ := div_long (X := val 18446744073709551616 xs) (Y := val 18446744073709551616 ms) (L := N1) (M := n) (by omega)
    rw [if_neg (by omega)] at hRL
    subst hRL
    rw [e3] at h1
    exact ⟨v', by rw [e1], h1, k⟩
  · obtain ⟨rfl, rfl⟩ := hq hok
    rw [if_neg (by omega)] at hRL
    subst hRL
    exact ⟨v', rfl, h1, k⟩

theorem row1 (w : World) (x : Nat) : Row .u64 (w.alloc (.cells #[.int .u64 (x : Nat)] 24)) (.slice (some ⟨w.heap.size, 0, none⟩) 1 1) [x] := Row.of_block (k := .u64) (w := w.alloc (.cells #[.int .u64 (x : Nat)] 24)) (g := w.heap.size) (zs := [x]) (t := 24) (heap_alloc_new _ _) rfl (by unfold maxLen; omega)

theorem ex7a : digs 18446744073709551616 ((val 18446744073709551616 [5] + val 18446744073709551616 [4]) % val 18446744073709551616 [7]) 1 = [2] := by decide

theorem ex7b : digs 18446744073709551616 (halfM (val 18446744073709551616 [5]) (val 18446744073709551616 [7])) 1 = [6] := by decide

theorem ex7c : val 18446744073709551616 [5] < val 18446744073709551616 [7] ∧ val 18446744073709551616 [4] < val 18446744073709551616 [7] := by decide

set_option maxRecDepth 20000 in
set_option maxHeartbeats 1000000 in
/-- awake. -/
theorem f7Awake (w : World) : Calls Tryz.prog 4 #[] w fun r w' => r = .returned (.bool true) ∧ Kept Nought w w' := by
  have hS := q6Setup _ 1 1 [7] 7 0 rfl ex6.1.symm _ (row7 w) (Digs.one (by omega)) (by omega)
  rw [ex6.2.1, ex6.2.2] at hS
  have k0 := (Kept.refl Nought w).alloc (.cells #[.int .u64 7] 24)
  have HK0 := toHid k0
  go_enter Tryz.func4, Tryz.ntmps4
  go_wp2_with fail
  refine hS.mono ?_
  rintro e w1 ⟨a, K, b, rfl, ha, hb, hK, k1⟩
  have hok := (setup_ok ex6.1 hK).1
  rw [ex6.2.1, ex6.2.2] at hok
  have hKb : K < 18446744073709551616 := hK.1
  obtain ⟨ao, n, cap, rfl, hL, _, _, _, _⟩ := ha.open
  obtain ⟨bo, m, dap, rfl, hM, _, _, _, _⟩ := hb.open
  obtain rfl : n = 1 := hL.out.symm
  obtain rfl : m = 1 := hM.out.symm
  have K1 := toHid (HK0.out.trans k1)
  have HA := toHid ha
  have HB := toHid hb
  have HO := toHid hok
  have dm : Digs 18446744073709551616 [7] := Digs.one (by omega)
  have dr : Digs 18446744073709551616 [4] := Digs.one (by omega)
  have d5 : Digs 18446744073709551616 [5] := Digs.one (by omega)
  have JA : Hid (∀ W, Kept Nought w1 W → Calls Tryz.prog 8 #[.pointer none, .agg #[.slice ao 1 cap, .int .u64 (K : Nat), .slice bo 1 dap], .slice (some ⟨W.heap.size, 0, none⟩) 1 1, .slice (some ⟨W.heap.size + 1, 0, none⟩) 1 1] ((W.alloc (.cells #[.int .u64 5] 24)).alloc (.cells #[.int .u64 4] 24)) fun e w' => ∃ v', e = .returned (.tuple #[v', .int .i64 0]) ∧ Row .u64 w' v' [2] ∧ Kept Nought W w') := fun W k => by
    have k2 := ((Kept.refl Nought W).alloc (.cells #[.int .u64 5] 24)).alloc (.cells #[.int .u64 4] 24)
    have r4 := row1 (W.alloc (.cells #[.int .u64 5] 24)) 4
    rw [show (W.alloc (.cells #[.int .u64 5] 24)).heap.size = W.heap.size + 1 by simp] at r4
    refine (add7 ao bo _ _ 1 1 K cap dap 1 1 1 1 [7] [4] [5] [4] 0 (.inl ⟨rfl, HO.out, ⟨rfl, ex7c.1⟩, rfl, ex7c.2⟩) [2] ex7a.symm _ (HA.out.grew (k.trans k2)) (HB.out.grew (k.trans k2)) ((row1 W 5).grew ((Kept.refl Nought _).alloc _)) r4 dm dr d5 dr hKb (by omega) (by omega) (by omega)).mono ?_
    rintro e w' ⟨v', rfl, h1, h2⟩
    exact ⟨v', rfl, h1, k2.trans h2⟩
  have JH : Hid (∀ W, Kept Nought w1 W → Calls Tryz.prog 11 #[.pointer none, .agg #[.slice ao 1 cap, .int .u64 (K : Nat), .slice bo 1 dap], .slice (some ⟨W.heap.size, 0, none⟩) 1 1] (W.alloc (.cells #[.int .u64 5] 24)) fun e w' => ∃ v', e = .returned (.tuple #[v', .int .i64 0]) ∧ Row .u64 w' v' [6] ∧ Kept Nought W w') := fun W k => by
    have k2 := (Kept.refl Nought W).alloc (.cells #[.int .u64 5] 24)
    refine (half7 ao bo _ 1 1 K cap dap 1 1 [7] [4] [5] 0 (.inl ⟨rfl, HO.out, rfl, ex7c.1⟩) [6] ex7b.symm _ (HA.out.grew (k.trans k2)) (HB.out.grew (k.trans k2)) (row1 W 5) dm dr d5 hKb (by omega) (by omega)).mono ?_
    rintro e w' ⟨v', rfl, h1, h2⟩
    exact ⟨v', rfl, h1, k2.trans h2⟩
  obtain ⟨W1, hW1⟩ : ∃ W1, W1 = w1.alloc (.cells #[.slice ao 1 cap, .int .u64 (K : Nat), .slice bo 1 dap] 26) := ⟨_, rfl⟩
  have kW : Kept Nought w1 W1 := by rw [hW1]; exact (Kept.refl Nought w1).alloc _
  have hx0 : W1.heap[w1.heap.size]? = some (.cells #[.slice ao 1 cap, .int .u64 (K : Nat), .slice bo 1 dap] 26 (0, 0)) := by rw [hW1]; exact heap_alloc_new _ _
  have JC : Hid (∀ W', Kept Nought W1 W' → W'.cell? ⟨w1.heap.size, 0, none⟩ = some (.slice ao 1 cap) ∧ W'.cell? ⟨w1.heap.size, 1, none⟩ = some (.int .u64 (K : Nat)) ∧ W'.cell? ⟨w1.heap.size, 2, none⟩ = some (.slice bo 1 dap)) := fun W' k => cells3 ((k.block _ (lt_of_block hx0) (fun f => f)).trans hx0)
  have HW1 := toHid hW1
  have KW := toHid kW
  unfold modCells
  clear hS ha hb hK hok hL hM k0 k1 HA HB HO dm dr d5 hKb hx0 hW1 kW
  obtain ⟨p0, p1, p2⟩ := JC.out _ (Kept.refl _ _)
  have hA := JA.out _ KW.out
  go_wp2_with (rw [← HW1.out])
  refine hA.mono ?_
  rintro e w2 ⟨v2, rfl, hr2, k2⟩
  obtain ⟨q0, q1, q2⟩ := JC.out _ k2
  have hH := JH.out _ (KW.out.trans k2)
  have HR2 := toHid hr2
  have K2 := toHid k2
  clear hA p0 p1 p2 hr2 k2
  go_wp2_with fail
  refine hH.mono ?_
  rintro e w3 ⟨v3, rfl, hr3, k3⟩
  have hr2 := HR2.out.grew k3
  obtain ⟨ao2, n2, cap2, rfl, hL2, _, _, _, hnum2⟩ := hr2.open
  obtain ⟨ao3, n3, cap3, rfl, hL3, _, _, _, hnum3⟩ := hr3.open
  obtain rfl : n2 = 1 := hL2.out.symm
  obtain rfl : n3 = 1 := hL3.out.symm
  obtain ⟨b2, off2, rfl, hc2⟩ := hnum2 0 (by omega)
  obtain ⟨b3, off3, rfl, hc3⟩ := hnum3 0 (by omega)
  have hc2' : w3.cell? ⟨b2, off2, none⟩ = some (.int .u64 2) := hc2
  have hc3' : w3.cell? ⟨b3, off3, none⟩ = some (.int .u64 6) := hc3
  have kk := toHid (K1.out.trans (KW.out.trans (K2.out.trans k3)))
  clear hH q0 q1 q2 hr2 hr3 k3 hnum2 hnum3 hc2 hc3 hL2 hL3
  go_wp2_with fail
  go_ret
  exact ⟨rfl, kk.out⟩

end Go.Proofs.YtaehphckkmbbnaaGreat
