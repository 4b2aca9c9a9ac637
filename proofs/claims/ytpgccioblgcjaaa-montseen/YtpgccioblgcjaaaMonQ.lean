/- Package mont: Mul, whole. -/
import Derived.Test.YtpgccioblgcjaaaMonP
namespace Go.Proofs.Ytpgccioblgcjaaa
open Go.RowKit

theorem two_slots {W : World} {g N1 N2 xc yc : Nat} {xo yo : Option Addr} {t : TypeId} (h : W.heap[g]? = some (.cells #[.slice xo N1 xc, .slice yo N2 yc] t (0, 0))) : Slots W (some ⟨g, 0, none⟩) 2 (fun i => if i = 0 then xo else yo) (fun i => if i = 0 then N1 else N2) (fun i => if i = 0 then xc else yc) := by
  intro i hi
  refine ⟨g, 0, rfl, ?_⟩
  have h01 : i = 0 ∨ i = 1 := by omega
  rcases h01 with rfl | rfl
  · exact (cell_of_row W g 0 _ _ _ h).trans rfl
  · exact (cell_of_row W g 1 _ _ _ h).trans rfl

theorem one_slot {W : World} {g N1 xc : Nat} {xo : Option Addr} {t : TypeId} (h : W.heap[g]? = some (.cells #[.slice xo N1 xc] t (0, 0))) : Slots W (some ⟨g, 0, none⟩) 1 (fun _ => xo) (fun _ => N1) (fun _ => xc) := by
  intro i hi
  refine ⟨g, 0, rfl, ?_⟩
  obtain rfl : i = 0 := by omega
  exact (cell_of_row W g 0 _ _ _ h).trans rfl

theorem Answered.after {w W : World} {o : Tr} {n E cnt : Nat} {dE : List Ev} {G : Nat → Prop} {w' : World} {v' : Value} (k : Kept Nought w W) (h : Answered W o n E cnt dE G w' v') : Answered w o n E cnt dE G w' v' := by
  obtain ⟨h1, h2, o', d⟩ := h
  exact ⟨h1, h2.after k, o', Did.after k d⟩

set_option maxRecDepth 20000 in
set_option maxHeartbeats 4000000 in
/-- Mul. -/
theorem mMul (o : Tr) (ao bo xo yo : Option Addr) (n l K mcap rcap N1 N2 xc yc E : Nat) (ms rs xs ys : List Nat) (w : World)
    (ht : TrRoom w o 2000) (hm : RowT w o (.slice ao n mcap) ms) (hr : RowT w o (.slice bo l rcap) rs) (hx : RowT w o (.slice xo N1 xc) xs) (hy : RowT w o (.slice yo N2 yc) ys) (hmd : Digs 18446744073709551616 ms) (hrd : Digs 18446744073709551616 rs) (hdx : Digs 18446744073709551616 xs) (hdy : Digs 18446744073709551616 ys) (hK : K < 18446744073709551616) (hnb : n ≤ 300)
    (hE : E = 0 ↔ okMod ms K rs ∧ (N1 = n ∧ val 18446744073709551616 xs < val 18446744073709551616 ms) ∧ (N2 = n ∧ val 18446744073709551616 ys < val 18446744073709551616 ms)) (hE1 : E ≤ 1) :
    Calls Try.prog 17 #[trPtr o, .agg #[.slice ao n mcap, .int .u64 (K : Nat), .slice bo l rcap], .slice xo N1 xc, .slice yo N2 yc] w fun e w' => ∃ v', e = .returned (.tuple #[v', .int .i64 (E : Int)]) ∧ Answered w o n E 2 (timesEvs n) (MulG n (val 18446744073709551616 ms) (val 18446744073709551616 xs) (val 18446744073709551616 ys)) w' v' := by
  have hmf : ∀ (fn : Fn) (first cap : Array Value) (w : World), (Instr.makeFunc fn first cap).run Try.prog w = .ok (.func fn first cap) w := fun _ _ _ _ => rfl
  have he : ∀ args w, (callFunc 49 args).run Try.prog w = .ok (.enter 49 args) w := fun _ _ => by simp [go_sem]
  obtain ⟨po, hpo⟩ := trPtr_shape o
  obtain ⟨_, _, _, e1, hLr, _, _, _, _⟩ := hr.1.open
  cases e1
  obtain ⟨W, hW⟩ : ∃ W, W = (((w.alloc (.cells #[.pointer po] 54)).alloc (.cells #[.slice ao n mcap, .int .u64 (K : Nat), .slice bo l rcap] 28)).alloc (.cells #[.slice xo N1 xc] 23)).alloc (.cells #[.slice yo N2 yc] 23) := ⟨_, rfl⟩
  have k0 : Kept Nought w W := by rw [hW]; exact ((((Kept.refl Nought w).alloc _).alloc _).alloc _).alloc _
  have hT0 : Box W w.heap.size (.pointer po) 54 := by rw [hW]; exact (((Box.new w _ _).alloc _).alloc _).alloc _
  have hM0 : W.heap[w.heap.size + 1]? = some (.cells #[.slice ao n mcap, .int .u64 (K : Nat), .slice bo l rcap] 28 (0, 0)) := by
    rw [hW]
    refine heapAt_alloc (heapAt_alloc ?_)
    have := heap_alloc_new (w.alloc (.cells #[.pointer po] 54)) (.cells #[.slice ao n mcap, .int .u64 (K : Nat), .slice bo l rcap] 28)
    rwa [show (w.alloc (.cells #[.pointer po] 54)).heap.size = w.heap.size + 1 by simp] at this
  have hA0 : Box W (w.heap.size + 1 + 1) (.slice xo N1 xc) 23 := by
    rw [hW]
    refine Box.alloc ?_ _
    have := Box.new ((w.alloc (.cells #[.pointer po] 54)).alloc (.cells #[.slice ao n mcap, .int .u64 (K : Nat), .slice bo l rcap] 28)) (.slice xo N1 xc) 23
    rwa [show ((w.alloc (.cells #[.pointer po] 54)).alloc (.cells #[.slice ao n mcap, .int .u64 (K : Nat), .slice bo l rcap] 28)).heap.size = w.heap.size + 1 + 1 by simp] at this
  have hB0 : Box W (w.heap.size + 1 + 1 + 1) (.slice yo N2 yc) 23 := by
    rw [hW]
    have := Box.new (((w.alloc (.cells #[.pointer po] 54)).alloc (.cells #[.slice ao n mcap, .int .u64 (K : Nat), .slice bo l rcap] 28)).alloc (.cells #[.slice xo N1 xc] 23)) (.slice yo N2 yc) 23
    rwa [show (((w.alloc (.cells #[.pointer po] 54)).alloc (.cells #[.slice ao n mcap, .int .u64 (K : Nat), .slice bo l rcap] 28)).alloc (.cells #[.slice xo N1 xc] 23)).heap.size = w.heap.size + 1 + 1 + 1 by simp] at this
  obtain ⟨Wl, hWl⟩ : ∃ Wl, Wl = W.alloc (.cells #[.slice xo N1 xc, .slice yo N2 yc] 23) := ⟨_, rfl⟩
  have kl : Kept Nought W Wl := by rw [hWl]; exact (Kept.refl Nought W).alloc _
  have hl0 : Wl.heap[W.heap.size]? = some (.cells #[.slice xo N1 xc, .slice yo N2 yc] 23 (0, 0)) := by rw [hWl]; exact heap_alloc_new _ _
  have kk := k0.trans kl
  have hAsk := mAsked o ao bo (some ⟨W.heap.size, 0, none⟩) n l K mcap rcap 2 2 49 #[.pointer (some ⟨w.heap.size, 0, none⟩), .pointer (some ⟨w.heap.size + 1, 0, none⟩), .pointer (some ⟨w.heap.size + 1 + 1, 0, none⟩), .pointer (some ⟨w.heap.size + 1 + 1 + 1, 0, none⟩)]
    (fun i => if i = 0 then xo else yo) (fun i => if i = 0 then N1 else N2) (fun i => if i = 0 then xc else yc) (fun i => if i = 0 then xs else ys) ms rs E 1998 (timesEvs n) (MulG n (val 18446744073709551616 ms) (val 18446744073709551616 xs) (val 18446744073709551616 ys)) Wl (by unfold timesEvs; simp; omega)
    (ht.grew kk) (hm.grew kk) (hr.grew kk) hmd hrd hK (by omega) (by omega)
    (fun W' m o' d => two_slots ((d.kept.block _ (lt_of_block hl0) (cells_apart hl0 (ht.grew kk).1 (by decide) (by decide))).trans hl0))
    (fun i hi => by
      have h01 : i = 0 ∨ i = 1 := by omega
      rcases h01 with rfl | rfl
      · exact hx.grew kk
      · exact hy.grew kk)
    (fun i hi => by
      have h01 : i = 0 ∨ i = 1 := by omega
      rcases h01 with rfl | rfl
      · exact hdx
      · exact hdy)
    he
    (fun hn W' m o' d hroom => by
      have hti := (ht.grew kk).1
      refine (mMul1 o' ao bo xo yo n l K mcap rcap N1 N2 xc yc w.heap.size (w.heap.size + 1) (w.heap.size + 1 + 1) (w.heap.size + 1 + 1 + 1) ms rs xs ys W' (hroom.less (by omega)) ((hm.grew kk).did d) ((hx.grew kk).did d) ((hy.grew kk).did d) hmd hrd hdx hdy hLr.out hK hn (by rw [d.ptr, hpo]; exact (hT0.grew kl).did d hti (by decide) (by decide)) ((d.kept.block _ (lt_of_block ((kl.block _ (lt_of_block hM0) (fun f => f)).trans hM0)) (cells_apart ((kl.block _ (lt_of_block hM0) (fun f => f)).trans hM0) hti (by decide) (by decide))).trans ((kl.block _ (lt_of_block hM0) (fun f => f)).trans hM0)) ((hA0.grew kl).did d hti (by decide) (by decide)) ((hB0.grew kl).did d hti (by decide) (by decide))).mono ?_
      rintro e w' ⟨v', rfl, Y, o2, h1, h2, h3⟩
      exact ⟨v', rfl, Y, o2, h1, fun hok hall => h2 hok (hall 0 (by omega)) (hall 1 (by omega)), h3⟩)
    (by
      rw [hE]
      refine and_congr_right fun _ => ⟨fun h i hi => ?_, fun h => ⟨h 0 (by omega), h 1 (by omega)⟩⟩
      have h01 : i = 0 ∨ i = 1 := by omega
      rcases h01 with rfl | rfl
      · exact h.1
      · exact h.2) hE1
  have HB : Hid (∀ w' v', Answered Wl o n E 2 (timesEvs n) (MulG n (val 18446744073709551616 ms) (val 18446744073709551616 xs) (val 18446744073709551616 ys)) w' v' → Answered w o n E 2 (timesEvs n) (MulG n (val 18446744073709551616 ms) (val 18446744073709551616 xs) (val 18446744073709551616 ys)) w' v') := fun w' v' h => h.after kk
  have hsz : W.heap.size = w.heap.size + 1 + 1 + 1 + 1 := by rw [hW]; simp
  rw [hsz] at hAsk
  have HW := toHid hW
  have HWl := toHid hWl
  have JM := cells3 hM0
  obtain ⟨c3, c4, c5⟩ := JM
  have c0 := hT0.cell
  have c1 := hA0.cell
  have c2 := hB0.cell
  rw [hpo] at hAsk ⊢
  clear ht hm hr hx hy hmd hrd hdx hdy hK hnb hE hE1 hpo k0 hT0 hM0 hA0 hB0 hW hWl hl0 kk kl he hLr hsz
  generalize MulG n (val 18446744073709551616 ms) (val 18446744073709551616 xs) (val 18446744073709551616 ys) = G at *
  go_enter Try.func17, Try.ntmps17
  go_wp2_with fail
  rw [← HW.out, ← HWl.out]
  refine hAsk.mono ?_
  rintro e w1 ⟨v1, rfl, h1⟩
  have H1 := toHid (HB.out _ _ h1)
  clear hAsk h1 c0 c1 c2 c3 c4 c5
  go_wp2_with fail
  go_ret2
  exact ⟨_, rfl, H1.out⟩

end Go.Proofs.Ytpgccioblgcjaaa
