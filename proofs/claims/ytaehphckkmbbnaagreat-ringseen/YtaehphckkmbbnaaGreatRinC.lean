/- Package ring: Add, Sub. -/
import Derived.Test.YtaehphckkmbbnaaGreatRinB
namespace Go.Proofs.YtaehphckkmbbnaaGreat
open Go.RowKit

theorem Asked.after {w W : World} {o : Tr} {u : Bool} {P : Prop} {R : List Nat → Nat → Prop} {dE : List Ev} {w' : World} {v' : Value} {c : Nat} (k : Kept Nought w W) (h : Asked W o u P R dE w' v' c) : Asked w o u P R dE w' v' c := by
  obtain ⟨zs, m, o', h1, h2, h3, h4⟩ := h
  exact ⟨zs, m, o', h1, h2.after k.size, Did.after k h3, h4⟩

set_option maxRecDepth 20000 in
set_option maxHeartbeats 2000000 in
/-- What Add asks for. -/
theorem gAdd1 (o : Tr) (ao bo xo yo : Option Addr) (n l K mcap rcap xc yc bT bM bA bB : Nat) (ms xs ys : List Nat) (w : World)
    (ht : TrRoom w o 3) (hm : RowT w o (.slice ao n mcap) ms) (hx : RowT w o (.slice xo n xc) xs) (hy : RowT w o (.slice yo n yc) ys) (hmd : Digs 18446744073709551616 ms) (hdx : Digs 18446744073709551616 xs) (hdy : Digs 18446744073709551616 ys) (hn : n ≤ 130)
    (hT : Box w bT (trPtr o) 29) (hM : w.heap[bM]? = some (.cells #[.slice ao n mcap, .int .u64 (K : Nat), .slice bo l rcap] 26 (0, 0))) (hA : Box w bA (.slice xo n xc) 23) (hB : Box w bB (.slice yo n yc) 23) :
    Calls Tryz.prog 21 #[.pointer (some ⟨bT, 0, none⟩), .pointer (some ⟨bM, 0, none⟩), .pointer (some ⟨bA, 0, none⟩), .pointer (some ⟨bB, 0, none⟩)] w fun e w' => ∃ v', e = .returned (.tuple #[v', .int .i64 0]) ∧ Done w o (List.replicate 3 (1, (n : Int), 0)) n (fun Y => val 18446744073709551616 xs < val 18446744073709551616 ms → val 18446744073709551616 ys < val 18446744073709551616 ms → Y = (val 18446744073709551616 xs + val 18446744073709551616 ys) % val 18446744073709551616 ms) w' v' := by
  obtain ⟨po, hpo⟩ := trPtr_shape o
  have hS := gSum o ao bo xo yo n mcap l rcap xc yc K xs ys ms w ht hx hy hm hdx hdy hmd (by omega)
  have cT := hT.cell
  have cA := hA.cell
  have cB := hB.cell
  obtain ⟨p0, p1, p2⟩ := cells3 hM
  rw [hpo] at hS cT
  clear hm hx hy hmd hdx hdy hT hM hA hB ht hpo
  generalize (fun Y => val 18446744073709551616 xs < val 18446744073709551616 ms → val 18446744073709551616 ys < val 18446744073709551616 ms → Y = (val 18446744073709551616 xs + val 18446744073709551616 ys) % val 18446744073709551616 ms) = G at *
  go_enter Tryz.func21, Tryz.ntmps21
  go_wp2_with fail
  refine hS.mono ?_
  rintro e w1 ⟨v1, rfl, h1⟩
  clear hS cT cA cB p0 p1 p2
  go_wp2_with fail
  go_ret2
  exact ⟨_, rfl, h1⟩

set_option maxRecDepth 20000 in
set_option maxHeartbeats 4000000 in
/-- Add. -/
theorem gAdd (o : Tr) (ao bo xo yo : Option Addr) (n l K mcap rcap N1 N2 xc yc : Nat) (ms rs xs ys : List Nat) (w : World)
    (ht : TrRoom w o 10) (hm : RowT w o (.slice ao n mcap) ms) (hr : RowT w o (.slice bo l rcap) rs) (hx : RowT w o (.slice xo N1 xc) xs) (hy : RowT w o (.slice yo N2 yc) ys) (hmd : Digs 18446744073709551616 ms) (hrd : Digs 18446744073709551616 rs) (hdx : Digs 18446744073709551616 xs) (hdy : Digs 18446744073709551616 ys) (hK : K < 18446744073709551616) (hnb : n ≤ 1000000) (hN1 : N1 ≤ 1000000000) (hN2 : N2 ≤ 1000000000) :
    Calls Tryz.prog 8 #[trPtr o, .agg #[.slice ao n mcap, .int .u64 (K : Nat), .slice bo l rcap], .slice xo N1 xc, .slice yo N2 yc] w fun e w' => ∃ v' c, e = .returned (.tuple #[v', .int .i64 ((c : Nat) : Int)]) ∧ Asked w o true (okMod ms K rs ∧ (N1 = n ∧ val 18446744073709551616 xs < val 18446744073709551616 ms) ∧ (N2 = n ∧ val 18446744073709551616 ys < val 18446744073709551616 ms)) (fun zs c => zs = digs 18446744073709551616 ((val 18446744073709551616 xs + val 18446744073709551616 ys) % val 18446744073709551616 ms) n ∧ c = 0) (List.replicate 2 (1, (n : Int), 0) ++ List.replicate 3 (1, (n : Int), 0)) w' v' c := by
  have hmf : ∀ (fn : Fn) (first cap : Array Value) (w : World), (Instr.makeFunc fn first cap).run Tryz.prog w = .ok (.func fn first cap) w := fun _ _ _ _ => rfl
  have he : ∀ args w, (callFunc 21 args).run Tryz.prog w = .ok (.enter 21 args) w := fun _ _ => by simp [go_sem]
  obtain ⟨po, hpo⟩ := trPtr_shape o
  obtain ⟨W, hW⟩ : ∃ W, W = (((w.alloc (.cells #[.pointer po] 29)).alloc (.cells #[.slice ao n mcap, .int .u64 (K : Nat), .slice bo l rcap] 26)).alloc (.cells #[.slice xo N1 xc] 23)).alloc (.cells #[.slice yo N2 yc] 23) := ⟨_, rfl⟩
  have k0 : Kept Nought w W := by rw [hW]; exact ((((Kept.refl Nought w).alloc _).alloc _).alloc _).alloc _
  have hT0 : Box W w.heap.size (.pointer po) 29 := by rw [hW]; exact (((Box.new w _ _).alloc _).alloc _).alloc _
  have hM0 : W.heap[w.heap.size + 1]? = some (.cells #[.slice ao n mcap, .int .u64 (K : Nat), .slice bo l rcap] 26 (0, 0)) := by
    rw [hW]
    refine heapAt_alloc (heapAt_alloc ?_)
    have := heap_alloc_new (w.alloc (.cells #[.pointer po] 29)) (.cells #[.slice ao n mcap, .int .u64 (K : Nat), .slice bo l rcap] 26)
    rwa [show (w.alloc (.cells #[.pointer po] 29)).heap.size = w.heap.size + 1 by simp] at this
  have hA0 : Box W (w.heap.size + 1 + 1) (.slice xo N1 xc) 23 := by
    rw [hW]
    refine Box.alloc ?_ _
    have := Box.new ((w.alloc (.cells #[.pointer po] 29)).alloc (.cells #[.slice ao n mcap, .int .u64 (K : Nat), .slice bo l rcap] 26)) (.slice xo N1 xc) 23
    rwa [show ((w.alloc (.cells #[.pointer po] 29)).alloc (.cells #[.slice ao n mcap, .int .u64 (K : Nat), .slice bo l rcap] 26)).heap.size = w.heap.size + 1 + 1 by simp] at this
  have hB0 : Box W (w.heap.size + 1 + 1 + 1) (.slice yo N2 yc) 23 := by
    rw [hW]
    have := Box.new (((w.alloc (.cells #[.pointer po] 29)).alloc (.cells #[.slice ao n mcap, .int .u64 (K : Nat), .slice bo l rcap] 26)).alloc (.cells #[.slice xo N1 xc] 23)) (.slice yo N2 yc) 23
    rwa [show (((w.alloc (.cells #[.pointer po] 29)).alloc (.cells #[.slice ao n mcap, .int .u64 (K : Nat), .slice bo l rcap] 26)).alloc (.cells #[.slice xo N1 xc] 23)).heap.size = w.heap.size + 1 + 1 + 1 by simp] at this
  obtain ⟨Wl, hWl⟩ : ∃ Wl, Wl = W.alloc (.cells #[.slice xo N1 xc, .slice yo N2 yc] 23) := ⟨_, rfl⟩
  have kl : Kept Nought W Wl := by rw [hWl]; exact (Kept.refl Nought W).alloc _
  have hl0 : Wl.heap[W.heap.size]? = some (.cells #[.slice xo N1 xc, .slice yo N2 yc] 23 (0, 0)) := by rw [hWl]; exact heap_alloc_new _ _
  have kk := k0.trans kl
  have hAsk := gAsked o ao bo (some ⟨W.heap.size, 0, none⟩) n l K mcap rcap 2 2 21 #[.pointer (some ⟨w.heap.size, 0, none⟩), .pointer (some ⟨w.heap.size + 1, 0, none⟩), .pointer (some ⟨w.heap.size + 1 + 1, 0, none⟩), .pointer (some ⟨w.heap.size + 1 + 1 + 1, 0, none⟩)]
    (fun i => if i = 0 then xo else yo) (fun i => if i = 0 then N1 else N2) (fun i => if i = 0 then xc else yc) (fun i => if i = 0 then xs else ys) ms rs 8 (List.replicate 3 (1, (n : Int), 0)) true (fun zs c => zs = digs 18446744073709551616 ((val 18446744073709551616 xs + val 18446744073709551616 ys) % val 18446744073709551616 ms) n ∧ c = 0) Wl
    (ht.grew kk) (hm.grew kk) (hr.grew kk) hmd hrd hK (by omega) (by omega)
    (fun i hi => by
      have h01 : i = 0 ∨ i = 1 := by omega
      rcases h01 with rfl | rfl
      · exact hN1
      · exact hN2)
    (fun W' m o' d => two_slots ((d.kept.block _ (lt_of_block hl0) (cells_apart hl0 (ht.grew kk).1 (by decide) (by decide))).trans hl0))
    (fun i hi => by
      have h01 : i = 0 ∨ i = 1 := by omega
      rcases h01 with rfl | rfl
      · exact hx.grew kk
      · exact hy.grew kk)
    (fun i hi => by
      have h01 : i = 0 ∨ i = 1 := by omega
      rcases h01 with rfl | rfl
      · exact hdx
      · exact hdy)
    he
    (fun hn hall W' m o' d hroom => by
      have hti := (ht.grew kk).1
      have e1 : N1 = n := hall 0 (by omega)
      have e2 : N2 = n := hall 1 (by omega)
      subst e1
      subst e2
      refine (gAdd1 o' ao bo xo yo N2 l K mcap rcap xc yc w.heap.size (w.heap.size + 1) (w.heap.size + 1 + 1) (w.heap.size + 1 + 1 + 1) ms xs ys W' (hroom.less (by omega)) ((hm.grew kk).did d) ((hx.grew kk).did d) ((hy.grew kk).did d) hmd hdx hdy hn (by rw [d.ptr, hpo]; exact (hT0.grew kl).did d hti (by decide) (by decide)) ((d.kept.block _ (lt_of_block ((kl.block _ (lt_of_block hM0) (fun f => f)).trans hM0)) (cells_apart ((kl.block _ (lt_of_block hM0) (fun f => f)).trans hM0) hti (by decide) (by decide))).trans ((kl.block _ (lt_of_block hM0) (fun f => f)).trans hM0)) ((hA0.grew kl).did d hti (by decide) (by decide)) ((hB0.grew kl).did d hti (by decide) (by decide))).mono ?_
      rintro e w' ⟨v', rfl, Y, o2, h1, h2, h3⟩
      refine ⟨v', 0, rfl, _, _, o2, own_row' h1 (digs_length _ _ _), (fun _ => ⟨Fresh.own h1 (Nat.le_refl _), U64s.own h1⟩), h3, fun hok hin => ⟨⟨by rw [h2 (hin 0 (by omega)).2 (hin 1 (by omega)).2], rfl⟩, rfl⟩⟩)
  have hPre : (okMod ms K rs ∧ AllIn 2 n (val 18446744073709551616 ms) (fun i => if i = 0 then N1 else N2) (fun i => if i = 0 then xs else ys)) ↔ (okMod ms K rs ∧ (N1 = n ∧ val 18446744073709551616 xs < val 18446744073709551616 ms) ∧ (N2 = n ∧ val 18446744073709551616 ys < val 18446744073709551616 ms)) := by
    refine and_congr_right fun _ => ⟨fun h => ⟨h 0 (by omega), h 1 (by omega)⟩, fun h i hi => ?_⟩
    have h01 : i = 0 ∨ i = 1 := by omega
    rcases h01 with rfl | rfl
    · exact h.1
    · exact h.2
  rw [hPre] at hAsk
  have HB : Hid (∀ w' v' c, Asked Wl o true (okMod ms K rs ∧ (N1 = n ∧ val 18446744073709551616 xs < val 18446744073709551616 ms) ∧ (N2 = n ∧ val 18446744073709551616 ys < val 18446744073709551616 ms)) (fun zs c => zs = digs 18446744073709551616 ((val 18446744073709551616 xs + val 18446744073709551616 ys) % val 18446744073709551616 ms) n ∧ c = 0) (List.replicate 2 (1, (n : Int), 0) ++ List.replicate 3 (1, (n : Int), 0)) w' v' c → Asked w o true (okMod ms K rs ∧ (N1 = n ∧ val 18446744073709551616 xs < val 18446744073709551616 ms) ∧ (N2 = n ∧ val 18446744073709551616 ys < val 18446744073709551616 ms)) (fun zs c => zs = digs 18446744073709551616 ((val 18446744073709551616 xs + val 18446744073709551616 ys) % val 18446744073709551616 ms) n ∧ c = 0) (List.replicate 2 (1, (n : Int), 0) ++ List.replicate 3 (1, (n : Int), 0)) w' v' c) := fun w' v' c h => h.after kk
  have hsz : W.heap.size = w.heap.size + 1 + 1 + 1 + 1 := by rw [hW]; simp
  rw [hsz] at hAsk
  have HW := toHid hW
  have HWl := toHid hWl
  obtain ⟨c3, c4, c5⟩ := cells3 hM0
  have c0 := hT0.cell
  have c1 := hA0.cell
  have c2 := hB0.cell
  rw [hpo] at hAsk ⊢
  clear ht hm hr hx hy hmd hrd hdx hdy hK hnb hpo k0 hT0 hM0 hA0 hB0 hW hWl hl0 kk kl he hsz hPre hN1 hN2
  generalize (okMod ms K rs ∧ (N1 = n ∧ val 18446744073709551616 xs < val 18446744073709551616 ms) ∧ (N2 = n ∧ val 18446744073709551616 ys < val 18446744073709551616 ms)) = PP at *
  generalize (fun zs c => zs = digs 18446744073709551616 ((val 18446744073709551616 xs + val 18446744073709551616 ys) % val 18446744073709551616 ms) n ∧ c = 0) = RR at *
  generalize List.replicate 2 (1, (n : Int), 0) ++ List.replicate 3 (1, (n : Int), 0) = EE at *
  go_enter Tryz.func8, Tryz.ntmps8
  go_wp2_with fail
  rw [← HW.out, ← HWl.out]
  refine hAsk.mono ?_
  rintro e w1 ⟨v1, c, rfl, h1⟩
  have H1 := toHid (HB.out _ _ _ h1)
  clear hAsk h1 c0 c1 c2 c3 c4 c5
  go_wp2_with fail
  go_ret2
  exact ⟨_, c, rfl, H1.out⟩

set_option maxRecDepth 20000 in
set_option maxHeartbeats 2000000 in
/-- What Sub asks for. -/
theorem gSub1 (o : Tr) (ao bo xo yo : Option Addr) (n l K mcap rcap xc yc bT bM bA bB : Nat) (ms xs ys : List Nat) (w : World)
    (ht : TrRoom w o 2) (hm : RowT w o (.slice ao n mcap) ms) (hx : RowT w o (.slice xo n xc) xs) (hy : RowT w o (.slice yo n yc) ys) (hmd : Digs 18446744073709551616 ms) (hdx : Digs 18446744073709551616 xs) (hdy : Digs 18446744073709551616 ys) (hn : n ≤ 130)
    (hT : Box w bT (trPtr o) 29) (hM : w.heap[bM]? = some (.cells #[.slice ao n mcap, .int .u64 (K : Nat), .slice bo l rcap] 26 (0, 0))) (hA : Box w bA (.slice xo n xc) 23) (hB : Box w bB (.slice yo n yc) 23) :
    Calls Tryz.prog 23 #[.pointer (some ⟨bT, 0, none⟩), .pointer (some ⟨bM, 0, none⟩), .pointer (some ⟨bA, 0, none⟩), .pointer (some ⟨bB, 0, none⟩)] w fun e w' => ∃ v', e = .returned (.tuple #[v', .int .i64 0]) ∧ Done w o (List.replicate 2 (1, (n : Int), 0)) n (fun Y => val 18446744073709551616 xs < val 18446744073709551616 ms → val 18446744073709551616 ys < val 18446744073709551616 ms → digs 18446744073709551616 Y n = digs 18446744073709551616 (subM (val 18446744073709551616 xs) (val 18446744073709551616 ys) (val 18446744073709551616 ms)) n) w' v' := by
  obtain ⟨po, hpo⟩ := trPtr_shape o
  have hS := gDiff o ao bo xo yo n n mcap l rcap xc yc K xs ys ms w ht hx hy hm hdx hdy hmd (by omega) (Nat.le_refl _)
  have cT := hT.cell
  have cA := hA.cell
  have cB := hB.cell
  obtain ⟨p0, p1, p2⟩ := cells3 hM
  rw [hpo] at hS cT
  clear hm hx hy hmd hdx hdy hT hM hA hB ht hpo
  generalize (fun Y => val 18446744073709551616 xs < val 18446744073709551616 ms → val 18446744073709551616 ys < val 18446744073709551616 ms → digs 18446744073709551616 Y n = digs 18446744073709551616 (subM (val 18446744073709551616 xs) (val 18446744073709551616 ys) (val 18446744073709551616 ms)) n) = G at *
  go_enter Tryz.func23, Tryz.ntmps23
  go_wp2_with fail
  refine hS.mono ?_
  rintro e w1 ⟨v1, rfl, h1⟩
  clear hS cT cA cB p0 p1 p2
  go_wp2_with fail
  go_ret2
  exact ⟨_, rfl, h1⟩

set_option maxRecDepth 20000 in
set_option maxHeartbeats 4000000 in
/-- Sub. -/
theorem gSub (o : Tr) (ao bo xo yo : Option Addr) (n l K mcap rcap N1 N2 xc yc : Nat) (ms rs xs ys : List Nat) (w : World)
    (ht : TrRoom w o 10) (hm : RowT w o (.slice ao n mcap) ms) (hr : RowT w o (.slice bo l rcap) rs) (hx : RowT w o (.slice xo N1 xc) xs) (hy : RowT w o (.slice yo N2 yc) ys) (hmd : Digs 18446744073709551616 ms) (hrd : Digs 18446744073709551616 rs) (hdx : Digs 18446744073709551616 xs) (hdy : Digs 18446744073709551616 ys) (hK : K < 18446744073709551616) (hnb : n ≤ 1000000) (hN1 : N1 ≤ 1000000000) (hN2 : N2 ≤ 1000000000) :
    Calls Tryz.prog 9 #[trPtr o, .agg #[.slice ao n mcap, .int .u64 (K : Nat), .slice bo l rcap], .slice xo N1 xc, .slice yo N2 yc] w fun e w' => ∃ v' c, e = .returned (.tuple #[v', .int .i64 ((c : Nat) : Int)]) ∧ Asked w o true (okMod ms K rs ∧ (N1 = n ∧ val 18446744073709551616 xs < val 18446744073709551616 ms) ∧ (N2 = n ∧ val 18446744073709551616 ys < val 18446744073709551616 ms)) (fun zs c => zs = digs 18446744073709551616 (subM (val 18446744073709551616 xs) (val 18446744073709551616 ys) (val 18446744073709551616 ms)) n ∧ c = 0) (List.replicate 2 (1, (n : Int), 0) ++ List.replicate 2 (1, (n : Int), 0)) w' v' c := by
  have hmf : ∀ (fn : Fn) (first cap : Array Value) (w : World), (Instr.makeFunc fn first cap).run Tryz.prog w = .ok (.func fn first cap) w := fun _ _ _ _ => rfl
  have he : ∀ args w, (callFunc 23 args).run Tryz.prog w = .ok (.enter 23 args) w := fun _ _ => by simp [go_sem]
  obtain ⟨po, hpo⟩ := trPtr_shape o
  obtain ⟨W, hW⟩ : ∃ W, W = (((w.alloc (.cells #[.pointer po] 29)).alloc (.cells #[.slice ao n mcap, .int .u64 (K : Nat), .slice bo l rcap] 26)).alloc (.cells #[.slice xo N1 xc] 23)).alloc (.cells #[.slice yo N2 yc] 23) := ⟨_, rfl⟩
  have k0 : Kept Nought w W := by rw [hW]; exact ((((Kept.refl Nought w).alloc _).alloc _).alloc _).alloc _
  have hT0 : Box W w.heap.size (.pointer po) 29 := by rw [hW]; exact (((Box.new w _ _).alloc _).alloc _).alloc _
  have hM0 : W.heap[w.heap.size + 1]? = some (.cells #[.slice ao n mcap, .int .u64 (K : Nat), .slice bo l rcap] 26 (0, 0)) := by
    rw [hW]
    refine heapAt_alloc (heapAt_alloc ?_)
    have := heap_alloc_new (w.alloc (.cells #[.pointer po] 29)) (.cells #[.slice ao n mcap, .int .u64 (K : Nat), .slice bo l rcap] 26)
    rwa [show (w.alloc (.cells #[.pointer po] 29)).heap.size = w.heap.size + 1 by simp] at this
  have hA0 : Box W (w.heap.size + 1 + 1) (.slice xo N1 xc) 23 := by
    rw [hW]
    refine Box.alloc ?_ _
    have := Box.new ((w.alloc (.cells #[.pointer po] 29)).alloc (.cells #[.slice ao n mcap, .int .u64 (K : Nat), .slice bo l rcap] 26)) (.slice xo N1 xc) 23
    rwa [show ((w.alloc (.cells #[.pointer po] 29)).alloc (.cells #[.slice ao n mcap, .int .u64 (K : Nat), .slice bo l rcap] 26)).heap.size = w.heap.size + 1 + 1 by simp] at this
  have hB0 : Box W (w.heap.size + 1 + 1 + 1) (.slice yo N2 yc) 23 := by
    rw [hW]
    have := Box.new (((w.alloc (.cells #[.pointer po] 29)).alloc (.cells #[.slice ao n mcap, .int .u64 (K : Nat), .slice bo l rcap] 26)).alloc (.cells #[.slice xo N1 xc] 23)) (.slice yo N2 yc) 23
    rwa [show (((w.alloc (.cells #[.pointer po] 29)).alloc (.cells #[.slice ao n mcap, .int .u64 (K : Nat), .slice bo l rcap] 26)).alloc (.cells #[.slice xo N1 xc] 23)).heap.size = w.heap.size + 1 + 1 + 1 by simp] at this
  obtain ⟨Wl, hWl⟩ : ∃ Wl, Wl = W.alloc (.cells #[.slice xo N1 xc, .slice yo N2 yc] 23) := ⟨_, rfl⟩
  have kl : Kept Nought W Wl := by rw [hWl]; exact (Kept.refl Nought W).alloc _
  have hl0 : Wl.heap[W.heap.size]? = some (.cells #[.slice xo N1 xc, .slice yo N2 yc] 23 (0, 0)) := by rw [hWl]; exact heap_alloc_new _ _
  have kk := k0.trans kl
  have hAsk := gAsked o ao bo (some ⟨W.heap.size, 0, none⟩) n l K mcap rcap 2 2 23 #[.pointer (some ⟨w.heap.size, 0, none⟩), .pointer (some ⟨w.heap.size + 1, 0, none⟩), .pointer (some ⟨w.heap.size + 1 + 1, 0, none⟩), .pointer (some ⟨w.heap.size + 1 + 1 + 1, 0, none⟩)]
    (fun i => if i = 0 then xo else yo) (fun i => if i = 0 then N1 else N2) (fun i => if i = 0 then xc else yc) (fun i => if i = 0 then xs else ys) ms rs 8 (List.replicate 2 (1, (n : Int), 0)) true (fun zs c => zs = digs 18446744073709551616 (subM (val 18446744073709551616 xs) (val 18446744073709551616 ys) (val 18446744073709551616 ms)) n ∧ c = 0) Wl
    (ht.grew kk) (hm.grew kk) (hr.grew kk) hmd hrd hK (by omega) (by omega)
    (fun i hi => by
      have h01 : i = 0 ∨ i = 1 := by omega
      rcases h01 with rfl | rfl
      · exact hN1
      · exact hN2)
    (fun W' m o' d => two_slots ((d.kept.block _ (lt_of_block hl0) (cells_apart hl0 (ht.grew kk).1 (by decide) (by decide))).trans hl0))
    (fun i hi => by
      have h01 : i = 0 ∨ i = 1 := by omega
      rcases h01 with rfl | rfl
      · exact hx.grew kk
      · exact hy.grew kk)
    (fun i hi => by
      have h01 : i = 0 ∨ i = 1 := by omega
      rcases h01 with rfl | rfl
      · exact hdx
      · exact hdy)
    he
    (fun hn hall W' m o' d hroom => by
      have hti := (ht.grew kk).1
      have e1 : N1 = n := hall 0 (by omega)
      have e2 : N2 = n := hall 1 (by omega)
      subst e1
      subst e2
      refine (gSub1 o' ao bo xo yo N2 l K mcap rcap xc yc w.heap.size (w.heap.size + 1) (w.heap.size + 1 + 1) (w.heap.size + 1 + 1 + 1) ms xs ys W' (hroom.less (by omega)) ((hm.grew kk).did d) ((hx.grew kk).did d) ((hy.grew kk).did d) hmd hdx hdy hn (by rw [d.ptr, hpo]; exact (hT0.grew kl).did d hti (by decide) (by decide)) ((d.kept.block _ (lt_of_block ((kl.block _ (lt_of_block hM0) (fun f => f)).trans hM0)) (cells_apart ((kl.block _ (lt_of_block hM0) (fun f => f)).trans hM0) hti (by decide) (by decide))).trans ((kl.block _ (lt_of_block hM0) (fun f => f)).trans hM0)) ((hA0.grew kl).did d hti (by decide) (by decide)) ((hB0.grew kl).did d hti (by decide) (by decide))).mono ?_
      rintro e w' ⟨v', rfl, Y, o2, h1, h2, h3⟩
      refine ⟨v', 0, rfl, _, _, o2, own_row' h1 (digs_length _ _ _), (fun _ => ⟨Fresh.own h1 (Nat.le_refl _), U64s.own h1⟩), h3, fun hok hin => ⟨⟨h2 (hin 0 (by omega)).2 (hin 1 (by omega)).2, rfl⟩, rfl⟩⟩)
  have hPre : (okMod ms K rs ∧ AllIn 2 n (val 18446744073709551616 ms) (fun i => if i = 0 then N1 else N2) (fun i => if i = 0 then xs else ys)) ↔ (okMod ms K rs ∧ (N1 = n ∧ val 18446744073709551616 xs < val 18446744073709551616 ms) ∧ (N2 = n ∧ val 18446744073709551616 ys < val 18446744073709551616 ms)) := by
    refine and_congr_right fun _ => ⟨fun h => ⟨h 0 (by omega), h 1 (by omega)⟩, fun h i hi => ?_⟩
    have h01 : i = 0 ∨ i = 1 := by omega
    rcases h01 with rfl | rfl
    · exact h.1
    · exact h.2
  rw [hPre] at hAsk
  have HB : Hid (∀ w' v' c, Asked Wl o true (okMod ms K rs ∧ (N1 = n ∧ val 18446744073709551616 xs < val 18446744073709551616 ms) ∧ (N2 = n ∧ val 18446744073709551616 ys < val 18446744073709551616 ms)) (fun zs c => zs = digs 18446744073709551616 (subM (val 18446744073709551616 xs) (val 18446744073709551616 ys) (val 18446744073709551616 ms)) n ∧ c = 0) (List.replicate 2 (1, (n : Int), 0) ++ List.replicate 2 (1, (n : Int), 0)) w' v' c → Asked w o true (okMod ms K rs ∧ (N1 = n ∧ val 18446744073709551616 xs < val 18446744073709551616 ms) ∧ (N2 = n ∧ val 18446744073709551616 ys < val 18446744073709551616 ms)) (fun zs c => zs = digs 18446744073709551616 (subM (val 18446744073709551616 xs) (val 18446744073709551616 ys) (val 18446744073709551616 ms)) n ∧ c = 0) (List.replicate 2 (1, (n : Int), 0) ++ List.replicate 2 (1, (n : Int), 0)) w' v' c) := fun w' v' c h => h.after kk
  have hsz : W.heap.size = w.heap.size + 1 + 1 + 1 + 1 := by rw [hW]; simp
  rw [hsz] at hAsk
  have HW := toHid hW
  have HWl := toHid hWl
  obtain ⟨c3, c4, c5⟩ := cells3 hM0
  have c0 := hT0.cell
  have c1 := hA0.cell
  have c2 := hB0.cell
  rw [hpo] at hAsk ⊢
  clear ht hm hr hx hy hmd hrd hdx hdy hK hnb hpo k0 hT0 hM0 hA0 hB0 hW hWl hl0 kk kl he hsz hPre hN1 hN2
  generalize (okMod ms K rs ∧ (N1 = n ∧ val 18446744073709551616 xs < val 18446744073709551616 ms) ∧ (N2 = n ∧ val 18446744073709551616 ys < val 18446744073709551616 ms)) = PP at *
  generalize (fun zs c => zs = digs 18446744073709551616 (subM (val 18446744073709551616 xs) (val 18446744073709551616 ys) (val 18446744073709551616 ms)) n ∧ c = 0) = RR at *
  generalize List.replicate 2 (1, (n : Int), 0) ++ List.replicate 2 (1, (n : Int), 0) = EE at *
  go_enter Tryz.func9, Tryz.ntmps9
  go_wp2_with fail
  rw [← HW.out, ← HWl.out]
  refine hAsk.mono ?_
  rintro e w1 ⟨v1, c, rfl, h1⟩
  have H1 := toHid (HB.out _ _ _ h1)
  clear hAsk h1 c0 c1 c2 c3 c4 c5
  go_wp2_with fail
  go_ret2
  exact ⟨_, c, rfl, H1.out⟩

end Go.Proofs.YtaehphckkmbbnaaGreat
