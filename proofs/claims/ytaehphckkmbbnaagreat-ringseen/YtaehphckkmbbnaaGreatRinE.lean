/- Package ring: Mul, Reduce. -/
import Derived.Test.YtaehphckkmbbnaaGreatRinD
import Derived.Test.YtaehphckkmbbnaaGreatPrK
namespace Go.Proofs.YtaehphckkmbbnaaGreat
open Go.RowKit

/-- What ring.Mul's closure writes down. -/
def mulEv7 (n : Nat) : List Ev := (List.replicate 1 (1, (n : Int), 0) ++ timesEvs n) ++ (List.replicate 2 (1, (n : Int), 0) ++ timesEvs n)

theorem mul_num7 {n V X Z Yx Y : Nat} (hodd : V % 2 = 1) (h1 : EntG n V X Yx) (h2 : MulG n V Yx Z Y) : Y = X * Z % V := by
  unfold EntG at h1
  obtain ⟨h2, h3⟩ := h2
  have hco : Nat.Coprime (2 ^ (64 * n)) V := (odd_coprime hodd).symm
  rw [← Nat.mod_eq_of_lt h2]
  apply cancel_mod hco
  rw [h3, h1, Nat.mul_mod, Nat.mod_mod, ← Nat.mul_mod, Nat.mul_assoc]

theorem err_two (P : Prop) : ∃ E : Nat, (E = 0 ↔ P) ∧ E ≤ 1 := by
  by_cases h : P
  · exact ⟨0, by simp [h], by omega⟩
  · exact ⟨1, by simp [h], by omega⟩

theorem timesEvs_len (n : Nat) : (timesEvs n).length = n + (n + 2) := by unfold timesEvs; simp

set_option maxRecDepth 20000 in
set_option maxHeartbeats 4000000 in
/-- What Mul asks for. -/
theorem gMul1 (o : Tr) (ao bo xo yo : Option Addr) (n l K mcap rcap xc yc bT bM bA bB : Nat) (ms rs xs ys : List Nat) (w : World)
    (ht : TrRoom w o 4900) (hm : RowT w o (.slice ao n mcap) ms) (hr : RowT w o (.slice bo l rcap) rs) (hx : RowT w o (.slice xo n xc) xs) (hy : RowT w o (.slice yo n yc) ys) (hmd : Digs 18446744073709551616 ms) (hrd : Digs 18446744073709551616 rs) (hdx : Digs 18446744073709551616 xs) (hdy : Digs 18446744073709551616 ys) (hK : K < 18446744073709551616) (hn : n ≤ 130)
    (hT : Box w bT (trPtr o) 29) (hM : w.heap[bM]? = some (.cells #[.slice ao n mcap, .int .u64 (K : Nat), .slice bo l rcap] 26 (0, 0))) (hA : Box w bA (.slice xo n xc) 23) (hB : Box w bB (.slice yo n yc) 23) :
    Calls Tryz.prog 28 #[.pointer (some ⟨bT, 0, none⟩), .pointer (some ⟨bM, 0, none⟩), .pointer (some ⟨bA, 0, none⟩), .pointer (some ⟨bB, 0, none⟩)] w fun e w' => ∃ v' c, e = .returned (.tuple #[v', .int .i64 ((c : Nat) : Int)]) ∧ ∃ zs m' o2, Row .u64 w' v' zs ∧ Lies true w w' v' ∧ Did w o m' w' o2 ∧
      (okMod ms K rs → val 18446744073709551616 xs < val 18446744073709551616 ms → val 18446744073709551616 ys < val 18446744073709551616 ms → (zs = digs 18446744073709551616 (val 18446744073709551616 xs * val 18446744073709551616 ys % val 18446744073709551616 ms) n ∧ c = 0) ∧ m' = mulEv7 n) := by
  obtain ⟨_, _, _, e1, hLm, _, _, _, _⟩ := hm.1.open
  cases e1
  obtain ⟨_, _, _, e1, hLr, _, _, _, _⟩ := hr.1.open
  cases e1
  obtain ⟨po, hpo⟩ := trPtr_shape o
  have hti := ht.1
  obtain ⟨E, hE, hE1⟩ := err_two (okMod ms K rs ∧ (n = n ∧ val 18446744073709551616 xs < val 18446744073709551616 ms))
  have hEn := mEnter o ao bo xo n l K mcap rcap n xc E ms rs xs w (ht.less (by omega)) hm hr hx hmd hrd hdx hK (by omega) hE hE1
  have JM : Hid (∀ (W : World) (o1 : Tr) (m1 : List Ev) (v1 : Value) (Yx : Nat), Did w o m1 W o1 → m1.length ≤ 2900 → Row .u64 W v1 (if E = 0 then digs 18446744073709551616 Yx n else []) → U64s W v1 → (E = 0 → EntG n (val 18446744073709551616 ms) (val 18446744073709551616 xs) Yx) → m1 = List.replicate 1 (1, (n : Int), 0) ++ timesEvs n →
      Calls Tryz.prog 30 #[.pointer po, .agg #[.slice ao n mcap, .int .u64 (K : Nat), .slice bo l rcap], v1, .slice yo n yc] W fun e w' => ∃ v' c, e = .returned (.tuple #[v', .int .i64 ((c : Nat) : Int)]) ∧ ∃ zs m' o2, Row .u64 w' v' zs ∧ Lies true w w' v' ∧ Did w o m' w' o2 ∧ (okMod ms K rs → val 18446744073709551616 xs < val 18446744073709551616 ms → val 18446744073709551616 ys < val 18446744073709551616 ms → (zs = digs 18446744073709551616 (val 18446744073709551616 xs * val 18446744073709551616 ys % val 18446744073709551616 ms) n ∧ c = 0) ∧ m' = mulEv7 n)) := fun W o1 m1 v1 Yx d hl hr1 hu1 hG hm1 => by
    obtain ⟨x1, n1, c1, rfl, hL1, _, _, _, _⟩ := hr1.open
    have hro : TrRoom W o1 2000 := d.room (ht.less (by omega))
    have hd1 : Digs 18446744073709551616 (if E = 0 then digs 18446744073709551616 Yx n else []) := by
      split
      · exact digs_digs (by omega) _ _
      · intro d hd; cases hd
    obtain ⟨E2, hE2, hE21⟩ := err_two (okMod ms K rs ∧ (n1 = n ∧ val 18446744073709551616 (if E = 0 then digs 18446744073709551616 Yx n else []) < val 18446744073709551616 ms) ∧ (n = n ∧ val 18446744073709551616 ys < val 18446744073709551616 ms))
    have := mMul o1 ao bo x1 yo n l K mcap rcap n1 n c1 yc E2 ms rs _ ys W hro (hm.did d) (hr.did d) (hu1.rowT hr1 hro.1) (hy.did d) hmd hrd hd1 hdy hK (by omega) hE2 hE21
    rw [d.ptr, hpo] at this
    refine this.mono ?_
    rintro e w' ⟨v', rfl, ⟨Y, h1, h2⟩, h3, o2, h4⟩
    rw [if_pos hn] at h4
    refine ⟨v', E2, rfl, _, _, o2, h1, (fun _ => ⟨(fun b hb => Nat.le_trans d.size (h3.1 b hb)), h3.2⟩), d.trans h4, fun hok hx hz => ?_⟩
    obtain ⟨f1, f2, f3, f4, f5, f6, f7⟩ := hok.facts hLm.out hLr.out hmd hrd hK
    obtain rfl : E = 0 := hE.2 ⟨hok, rfl, hx⟩
    have hY1 : Yx < val 18446744073709551616 ms := by rw [hG rfl]; exact Nat.mod_lt _ (by omega)
    rw [if_pos rfl, digs_length] at hL1
    rw [if_pos rfl, val_digs, Nat.mod_eq_of_lt (Nat.lt_trans hY1 f6)] at hE2 h2
    obtain rfl : E2 = 0 := hE2.2 ⟨hok, ⟨hL1.out.symm, hY1⟩, rfl, hz⟩
    refine ⟨⟨?_, rfl⟩, by rw [hm1]; rfl⟩
    rw [if_pos rfl, mul_num7 f5 (hG rfl) (h2 rfl)]
  have JC : Hid (∀ W m o', Did w o m W o' → W.cell? ⟨bT, 0, none⟩ = some (.pointer po) ∧ W.cell? ⟨bB, 0, none⟩ = some (.slice yo n yc) ∧ W.cell? ⟨bM, 0, none⟩ = some (.slice ao n mcap) ∧ W.cell? ⟨bM, 1, none⟩ = some (.int .u64 (K : Nat)) ∧ W.cell? ⟨bM, 2, none⟩ = some (.slice bo l rcap)) := fun W m o' d => by
    rw [← hpo]
    exact ⟨(hT.did d hti (by decide) (by decide)).cell, (hB.did d hti (by decide) (by decide)).cell, cells3 ((d.kept.block _ (lt_of_block hM) (cells_apart hM hti (by decide) (by decide))).trans hM)⟩
  have cA := hA.cell
  obtain ⟨cT, cB, p0, p1, p2⟩ := JC.out _ _ _ (Did.of_kept (Kept.refl Nought w) hti)
  rw [hpo] at hEn
  unfold Answered at hEn
  rw [if_pos hn] at hEn
  clear hm hr hx hy hmd hrd hdx hdy hK hT hM hA hB hpo hti ht hLm hLr hE
  generalize EntG n (val 18446744073709551616 ms) (val 18446744073709551616 xs) = G1 at *
  go_enter Tryz.func28, Tryz.ntmps28
  go_wp2_with fail
  refine hEn.mono ?_
  rintro e w1 ⟨v1, rfl, ⟨Yx, h1, h2⟩, h3, o1, d1⟩
  obtain ⟨cT, cB, p0, p1, p2⟩ := JC.out _ _ _ d1
  have hM2 := JM.out w1 o1 _ v1 Yx d1 (by rw [List.length_append, List.length_replicate, timesEvs_len]; omega) h1 h3.2 h2 rfl
  clear hEn cA h1 h2 h3
  go_wp2_with fail
  refine hM2.mono ?_
  rintro e w2 ⟨v2, c2, rfl, h4⟩
  clear hM2
  go_wp2_with fail
  go_ret2
  exact ⟨_, c2, rfl, h4⟩

set_option maxRecDepth 20000 in
set_option maxHeartbeats 4000000 in
/-- Mul. -/
theorem gMul (o : Tr) (ao bo xo yo : Option Addr) (n l K mcap rcap N1 N2 xc yc : Nat) (ms rs xs ys : List Nat) (w : World)
    (ht : TrRoom w o 5000) (hm : RowT w o (.slice ao n mcap) ms) (hr : RowT w o (.slice bo l rcap) rs) (hx : RowT w o (.slice xo N1 xc) xs) (hy : RowT w o (.slice yo N2 yc) ys) (hmd : Digs 18446744073709551616 ms) (hrd : Digs 18446744073709551616 rs) (hdx : Digs 18446744073709551616 xs) (hdy : Digs 18446744073709551616 ys) (hK : K < 18446744073709551616) (hnb : n ≤ 1000000) (hN1 : N1 ≤ 1000000000) (hN2 : N2 ≤ 1000000000) :
    Calls Tryz.prog 12 #[trPtr o, .agg #[.slice ao n mcap, .int .u64 (K : Nat), .slice bo l rcap], .slice xo N1 xc, .slice yo N2 yc] w fun e w' => ∃ v' c, e = .returned (.tuple #[v', .int .i64 ((c : Nat) : Int)]) ∧ Asked w o true (okMod ms K rs ∧ (N1 = n ∧ val 18446744073709551616 xs < val 18446744073709551616 ms) ∧ (N2 = n ∧ val 18446744073709551616 ys < val 18446744073709551616 ms)) (fun zs c => zs = digs 18446744073709551616 (val 18446744073709551616 xs * val 18446744073709551616 ys % val 18446744073709551616 ms) n ∧ c = 0) (List.replicate 2 (1, (n : Int), 0) ++ mulEv7 n) w' v' c := by
  have hmf : ∀ (fn : Fn) (first cap : Array Value) (w : World), (Instr.makeFunc fn first cap).run Tryz.prog w = .ok (.func fn first cap) w := fun _ _ _ _ => rfl
  have he : ∀ args w, (callFunc 28 args).run Tryz.prog w = .ok (.enter 28 args) w := fun _ _ => by simp [go_sem]
  obtain ⟨po, hpo⟩ := trPtr_shape o
  obtain ⟨W, hW⟩ : ∃ W, W = (((w.alloc (.cells #[.pointer po] 29)).alloc (.cells #[.slice ao n mcap, .int .u64 (K : Nat), .slice bo l rcap] 26)).alloc (.cells #[.slice xo N1 xc] 23)).alloc (.cells #[.slice yo N2 yc] 23) := ⟨_, rfl⟩
  have k0 : Kept Nought w W := by rw [hW]; exact ((((Kept.refl Nought w).alloc _).alloc _).alloc _).alloc _
  have hT0 : Box W w.heap.size (.pointer po) 29 := by rw [hW]; exact (((Box.new w _ _).alloc _).alloc _).alloc _
  have hM0 : W.heap[w.heap.size + 1]? = some (.cells #[.slice ao n mcap, .int .u64 (K : Nat), .slice bo l rcap] 26 (0, 0)) := by
    rw [hW]
    refine heapAt_alloc (heapAt_alloc ?_)
    have := heap_alloc_new (w.alloc (.cells #[.pointer po] 29)) (.cells #[.slice ao n mcap, .int .u64 (K : Nat), .slice bo l rcap] 26)
    rwa [show (w.alloc (.cells #[.pointer po] 29)).heap.size = w.heap.size + 1 by simp] at this
  have hA0 : Box W (w.heap.size + 1 + 1) (.slice xo N1 xc) 23 := by
    rw [hW]
    refine Box.alloc ?_ _
    have := Box.new ((w.alloc (.cells #[.pointer po] 29)).alloc (.cells #[.slice ao n mcap, .int .u64 (K : Nat), .slice bo l rcap] 26)) (.slice xo N1 xc) 23
    rwa [show ((w.alloc (.cells #[.pointer po] 29)).alloc (.cells #[.slice ao n mcap, .int .u64 (K : Nat), .slice bo l rcap] 26)).heap.size = w.heap.size + 1 + 1 by simp] at this
  have hB0 : Box W (w.heap.size + 1 + 1 + 1) (.slice yo N2 yc) 23 := by
    rw [hW]
    have := Box.new (((w.alloc (.cells #[.pointer po] 29)).alloc (.cells #[.slice ao n mcap, .int .u64 (K : Nat), .slice bo l rcap] 26)).alloc (.cells #[.slice xo N1 xc] 23)) (.slice yo N2 yc) 23
    rwa [show (((w.alloc (.cells #[.pointer po] 29)).alloc (.cells #[.slice ao n mcap, .int .u64 (K : Nat), .slice bo l rcap] 26)).alloc (.cells #[.slice xo N1 xc] 23)).heap.size = w.heap.size + 1 + 1 + 1 by simp] at this
  obtain ⟨Wl, hWl⟩ : ∃ Wl, Wl = W.alloc (.cells #[.slice xo N1 xc, .slice yo N2 yc] 23) := ⟨_, rfl⟩
  have kl : Kept Nought W Wl := by rw [hWl]; exact (Kept.refl Nought W).alloc _
  have hl0 : Wl.heap[W.heap.size]? = some (.cells #[.slice xo N1 xc, .slice yo N2 yc] 23 (0, 0)) := by rw [hWl]; exact heap_alloc_new _ _
  have kk := k0.trans kl
  have hAsk := gAsked o ao bo (some ⟨W.heap.size, 0, none⟩) n l K mcap rcap 2 2 28 #[.pointer (some ⟨w.heap.size, 0, none⟩), .pointer (some ⟨w.heap.size + 1, 0, none⟩), .pointer (some ⟨w.heap.size + 1 + 1, 0, none⟩), .pointer (some ⟨w.heap.size + 1 + 1 + 1, 0, none⟩)]
    (fun i => if i = 0 then xo else yo) (fun i => if i = 0 then N1 else N2) (fun i => if i = 0 then xc else yc) (fun i => if i = 0 then xs else ys) ms rs 4998 (mulEv7 n) true (fun zs c => zs = digs 18446744073709551616 (val 18446744073709551616 xs * val 18446744073709551616 ys % val 18446744073709551616 ms) n ∧ c = 0) Wl
    (ht.grew kk) (hm.grew kk) (hr.grew kk) hmd hrd hK (by omega) (by omega)
    (fun i hi => by
      have h01 : i = 0 ∨ i = 1 := by omega
      rcases h01 with rfl | rfl
      · exact hN1
      · exact hN2)
    (fun W' m o' d => two_slots ((d.kept.block _ (lt_of_block hl0) (cells_apart hl0 (ht.grew kk).1 (by decide) (by decide))).trans hl0))
    (fun i hi => by
      have h01 : i = 0 ∨ i = 1 := by omega
      rcases h01 with rfl | rfl
      · exact hx.grew kk
      · exact hy.grew kk)
    (fun i hi => by
      have h01 : i = 0 ∨ i = 1 := by omega
      rcases h01 with rfl | rfl
      · exact hdx
      · exact hdy)
    he
    (fun hn hall W' m o' d hroom => by
      have hti := (ht.grew kk).1
      have e1 : N1 = n := hall 0 (by omega)
      have e2 : N2 = n := hall 1 (by omega)
      subst e1
      subst e2
      refine (gMul1 o' ao bo xo yo N2 l K mcap rcap xc yc w.heap.size (w.heap.size + 1) (w.heap.size + 1 + 1) (w.heap.size + 1 + 1 + 1) ms rs xs ys W' (hroom.less (by omega)) ((hm.grew kk).did d) ((hr.grew kk).did d) ((hx.grew kk).did d) ((hy.grew kk).did d) hmd hrd hdx hdy hK hn (by rw [d.ptr, hpo]; exact (hT0.grew kl).did d hti (by decide) (by decide)) ((d.kept.block _ (lt_of_block ((kl.block _ (lt_of_block hM0) (fun f => f)).trans hM0)) (cells_apart ((kl.block _ (lt_of_block hM0) (fun f => f)).trans hM0) hti (by decide) (by decide))).trans ((kl.block _ (lt_of_block hM0) (fun f => f)).trans hM0)) ((hA0.grew kl).did d hti (by decide) (by decide)) ((hB0.grew kl).did d hti (by decide) (by decide))).mono ?_
      rintro e w' ⟨v', c, rfl, zs, m', o2, h1, h2, h3, h4⟩
      exact ⟨v', c, rfl, zs, m', o2, h1, h2, h3, fun hok hin => h4 hok (hin 0 (by omega)).2 (hin 1 (by omega)).2⟩)
  have hPre : (okMod ms K rs ∧ AllIn 2 n (val 18446744073709551616 ms) (fun i => if i = 0 then N1 else N2) (fun i => if i = 0 then xs else ys)) ↔ (okMod ms K rs ∧ (N1 = n ∧ val 18446744073709551616 xs < val 18446744073709551616 ms) ∧ (N2 = n ∧ val 18446744073709551616 ys < val 18446744073709551616 ms)) := by
    refine and_congr_right fun _ => ⟨fun h => ⟨h 0 (by omega), h 1 (by omega)⟩, fun h i hi => ?_⟩
    have h01 : i = 0 ∨ i = 1 := by omega
    rcases h01 with rfl | rfl
    · exact h.1
    · exact h.2
  rw [hPre] at hAsk
  have HB : Hid (∀ w' v' c, Asked Wl o true (okMod ms K rs ∧ (N1 = n ∧ val 18446744073709551616 xs < val 18446744073709551616 ms) ∧ (N2 = n ∧ val 18446744073709551616 ys < val 18446744073709551616 ms)) (fun zs c => zs = digs 18446744073709551616 (val 18446744073709551616 xs * val 18446744073709551616 ys % val 18446744073709551616 ms) n ∧ c = 0) (List.replicate 2 (1, (n : Int), 0) ++ mulEv7 n) w' v' c → Asked w o true (okMod ms K rs ∧ (N1 = n ∧ val 18446744073709551616 xs < val 18446744073709551616 ms) ∧ (N2 = n ∧ val 18446744073709551616 ys < val 18446744073709551616 ms)) (fun zs c => zs = digs 18446744073709551616 (val 18446744073709551616 xs * val 18446744073709551616 ys % val 18446744073709551616 ms) n ∧ c = 0) (List.replicate 2 (1, (n : Int), 0) ++ mulEv7 n) w' v' c) := fun w' v' c h => h.after kk
  have hsz : W.heap.size = w.heap.size + 1 + 1 + 1 + 1 := by rw [hW]; simp
  rw [hsz] at hAsk
  have HW := toHid hW
  have HWl := toHid hWl
  obtain ⟨c3, c4, c5⟩ := cells3 hM0
  have c0 := hT0.cell
  have c1 := hA0.cell
  have c2 := hB0.cell
  rw [hpo] at hAsk ⊢
  clear ht hm hr hx hy hmd hrd hdx hdy hK hnb hpo k0 hT0 hM0 hA0 hB0 hW hWl hl0 kk kl he hsz hPre hN1 hN2
  generalize (okMod ms K rs ∧ (N1 = n ∧ val 18446744073709551616 xs < val 18446744073709551616 ms) ∧ (N2 = n ∧ val 18446744073709551616 ys < val 18446744073709551616 ms)) = PP at *
  generalize (fun zs c => zs = digs 18446744073709551616 (val 18446744073709551616 xs * val 18446744073709551616 ys % val 18446744073709551616 ms) n ∧ c = 0) = RR at *
  generalize List.replicate 2 (1, (n : Int), 0) ++ mulEv7 n = EE at *
  go_enter Tryz.func12, Tryz.ntmps12
  go_wp2_with fail
  rw [← HW.out, ← HWl.out]
  refine hAsk.mono ?_
  rintro e w1 ⟨v1, c, rfl, h1⟩
  have H1 := toHid (HB.out _ _ _ h1)
  clear hAsk h1 c0 c1 c2 c3 c4 c5
  go_wp2_with fail
  go_ret2
  exact ⟨_, c, rfl, H1.out⟩

set_option maxRecDepth 20000 in
set_option maxHeartbeats 2000000 in
/-- What Reduce asks for. -/
theorem gRed1 (o : Tr) (ao bo xo : Option Addr) (n l K mcap rcap N1 xc bT bM bA : Nat) (ms xs : List Nat) (w : World)
    (ht : TrRoom w o 60000) (hm : RowT w o (.slice ao n mcap) ms) (hx : RowT w o (.slice xo N1 xc) xs) (hmd : Digs 18446744073709551616 ms) (hdx : Digs 18446744073709551616 xs)
    (hT : Box w bT (trPtr o) 29) (hM : w.heap[bM]? = some (.cells #[.slice ao n mcap, .int .u64 (K : Nat), .slice bo l rcap] 26 (0, 0))) (hA : Box w bA (.slice xo N1 xc) 23) :
    Calls Tryz.prog 31 #[.pointer (some ⟨bT, 0, none⟩), .pointer (some ⟨bA, 0, none⟩), .pointer (some ⟨bM, 0, none⟩)] w fun e w' => ∃ v' c, e = .returned (.tuple #[v', .int .i64 ((c : Nat) : Int)]) ∧ ∃ zs m' o2, Row .u64 w' v' zs ∧ Lies true w w' v' ∧ Did w o m' w' o2 ∧
      ((zs = divR (val 18446744073709551616 xs) (val 18446744073709551616 ms) N1 n ∧ c = divE (val 18446744073709551616 ms) N1 n) ∧ m' = divSeen N1 n) := by
  obtain ⟨po, hpo⟩ := trPtr_shape o
  obtain ⟨E, hE⟩ : ∃ E, E = divE (val 18446744073709551616 ms) N1 n := ⟨_, rfl⟩
  have hD := pDivideU o xo ao N1 n xc mcap xs ms E hE w ht hx hm hdx hmd
  rw [← hE]
  have cT := hT.cell
  have cA := hA.cell
  obtain ⟨p0, p1, p2⟩ := cells3 hM
  rw [hpo] at hD cT
  clear hm hx hmd hdx hT hM hA hpo ht hE
  generalize divR (val 18446744073709551616 xs) (val 18446744073709551616 ms) N1 n = RL at *
  generalize divSeen N1 n = DS at *
  go_enter Tryz.func31, Tryz.ntmps31
  go_wp2_with fail
  refine hD.mono ?_
  rintro e w1 ⟨v1, v2, rfl, _, h2, h3, o1, h4⟩
  clear hD cT cA p0 p1 p2
  go_wp2_with fail
  go_ret2
  exact ⟨_, E, rfl, _, _, o1, h2, fun _ => h3, h4, ⟨rfl, rfl⟩, rfl⟩

set_option maxRecDepth 20000 in
set_option maxHeartbeats 4000000 in
/-- Reduce. -/
theorem gRed (o : Tr) (ao bo xo : Option Addr) (n l K mcap rcap N1 xc : Nat) (ms rs xs : List Nat) (w : World)
    (ht : TrRoom w o 60000) (hm : RowT w o (.slice ao n mcap) ms) (hr : RowT w o (.slice bo l rcap) rs) (hx : RowT w o (.slice xo N1 xc) xs) (hmd : Digs 18446744073709551616 ms) (hrd : Digs 18446744073709551616 rs) (hdx : Digs 18446744073709551616 xs) (hK : K < 18446744073709551616) (hnb : n ≤ 1000000) :
    Calls Tryz.prog 13 #[trPtr o, .agg #[.slice ao n mcap, .int .u64 (K : Nat), .slice bo l rcap], .slice xo N1 xc] w fun e w' => ∃ v' c, e = .returned (.tuple #[v', .int .i64 ((c : Nat) : Int)]) ∧ Asked w o true (okMod ms K rs) (fun zs c => zs = divR (val 18446744073709551616 xs) (val 18446744073709551616 ms) N1 n ∧ c = divE (val 18446744073709551616 ms) N1 n) (List.replicate 0 (1, (n : Int), 0) ++ divSeen N1 n) w' v' c := by
  have hmf : ∀ (fn : Fn) (first cap : Array Value) (w : World), (Instr.makeFunc fn first cap).run Tryz.prog w = .ok (.func fn first cap) w := fun _ _ _ _ => rfl
  have he : ∀ args w, (callFunc 31 args).run Tryz.prog w = .ok (.enter 31 args) w := fun _ _ => by simp [go_sem]
  obtain ⟨po, hpo⟩ := trPtr_shape o
  obtain ⟨W, hW⟩ : ∃ W, W = ((w.alloc (.cells #[.pointer po] 29)).alloc (.cells #[.slice ao n mcap, .int .u64 (K : Nat), .slice bo l rcap] 26)).alloc (.cells #[.slice xo N1 xc] 23) := ⟨_, rfl⟩
  have k0 : Kept Nought w W := by rw [hW]; exact (((Kept.refl Nought w).alloc _).alloc _).alloc _
  have hT0 : Box W w.heap.size (.pointer po) 29 := by rw [hW]; exact ((Box.new w _ _).alloc _).alloc _
  have hM0 : W.heap[w.heap.size + 1]? = some (.cells #[.slice ao n mcap, .int .u64 (K : Nat), .slice bo l rcap] 26 (0, 0)) := by
    rw [hW]
    refine heapAt_alloc ?_
    have := heap_alloc_new (w.alloc (.cells #[.pointer po] 29)) (.cells #[.slice ao n mcap, .int .u64 (K : Nat), .slice bo l rcap] 26)
    rwa [show (w.alloc (.cells #[.pointer po] 29)).heap.size = w.heap.size + 1 by simp] at this
  have hA0 : Box W (w.heap.size + 1 + 1) (.slice xo N1 xc) 23 := by
    rw [hW]
    have := Box.new ((w.alloc (.cells #[.pointer po] 29)).alloc (.cells #[.slice ao n mcap, .int .u64 (K : Nat), .slice bo l rcap] 26)) (.slice xo N1 xc) 23
    rwa [show ((w.alloc (.cells #[.pointer po] 29)).alloc (.cells #[.slice ao n mcap, .int .u64 (K : Nat), .slice bo l rcap] 26)).heap.size = w.heap.size + 1 + 1 by simp] at this
  have hAsk := gAsked o ao bo none n l K mcap rcap 0 0 31 #[.pointer (some ⟨w.heap.size, 0, none⟩), .pointer (some ⟨w.heap.size + 1 + 1, 0, none⟩), .pointer (some ⟨w.heap.size + 1, 0, none⟩)]
    (fun _ => none) (fun _ => 0) (fun _ => 0) (fun _ => []) ms rs 60000 (divSeen N1 n) true (fun zs c => zs = divR (val 18446744073709551616 xs) (val 18446744073709551616 ms) N1 n ∧ c = divE (val 18446744073709551616 ms) N1 n) W
    ((ht.grew k0).less (by omega)) (hm.grew k0) (hr.grew k0) hmd hrd hK (by omega) (by omega)
    (fun i hi => absurd hi (by omega)) (fun W' m o' d i hi => absurd hi (by omega)) (fun i hi => absurd hi (by omega)) (fun i hi => absurd hi (by omega))
    he
    (fun hn hall W' m o' d hroom => by
      have hti := (ht.grew k0).1
      refine (gRed1 o' ao bo xo n l K mcap rcap N1 xc w.heap.size (w.heap.size + 1) (w.heap.size + 1 + 1) ms xs W' hroom ((hm.grew k0).did d) ((hx.grew k0).did d) hmd hdx (by rw [d.ptr, hpo]; exact hT0.did d hti (by decide) (by decide)) ((d.kept.block _ (lt_of_block hM0) (cells_apart hM0 hti (by decide) (by decide))).trans hM0) (hA0.did d hti (by decide) (by decide))).mono ?_
      rintro e w' ⟨v', c, rfl, zs, m', o2, h1, h2, h3, h4⟩
      exact ⟨v', c, rfl, zs, m', o2, h1, h2, h3, fun _ _ => h4⟩)
  have hPre : (okMod ms K rs ∧ AllIn 0 n (val 18446744073709551616 ms) (fun _ => 0) (fun _ => [])) ↔ okMod ms K rs := ⟨fun h => h.1, fun h => ⟨h, fun i hi => absurd hi (by omega)⟩⟩
  rw [hPre] at hAsk
  have HB : Hid (∀ w' v' c, Asked W o true (okMod ms K rs) (fun zs c => zs = divR (val 18446744073709551616 xs) (val 18446744073709551616 ms) N1 n ∧ c = divE (val 18446744073709551616 ms) N1 n) (List.replicate 0 (1, (n : Int), 0) ++ divSeen N1 n) w' v' c → Asked w o true (okMod ms K rs) (fun zs c => zs = divR (val 18446744073709551616 xs) (val 18446744073709551616 ms) N1 n ∧ c = divE (val 18446744073709551616 ms) N1 n) (List.replicate 0 (1, (n : Int), 0) ++ divSeen N1 n) w' v' c) := fun w' v' c h => h.after k0
  have HW := toHid hW
  obtain ⟨c3, c4, c5⟩ := cells3 hM0
  have c0 := hT0.cell
  rw [hpo] at hAsk ⊢
  clear ht hm hr hx hmd hrd hdx hK hnb hpo k0 hT0 hM0 hA0 hW he hPre
  generalize (okMod ms K rs) = PP at *
  generalize (fun zs c => zs = divR (val 18446744073709551616 xs) (val 18446744073709551616 ms) N1 n ∧ c = divE (val 18446744073709551616 ms) N1 n) = RR at *
  generalize List.replicate 0 (1, (n : Int), 0) ++ divSeen N1 n = EE at *
  go_enter Tryz.func13, Tryz.ntmps13
  go_wp2_with fail
  rw [← HW.out]
  refine hAsk.mono ?_
  rintro e w1 ⟨v1, c, rfl, h1⟩
  have H1 := toHid (HB.out _ _ _ h1)
  clear hAsk h1 c0 c3 c4 c5
  go_wp2_with fail
  go_ret2
  exact ⟨_, c, rfl, H1.out⟩

end Go.Proofs.YtaehphckkmbbnaaGreat
