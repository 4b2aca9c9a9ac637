/- Package mont: Enter, Leave, One. -/
import Derived.Test.YtpgccioblgcjaaaMonQ
import Derived.Test.YtpgccioblgcjaaaMonR
namespace Go.Proofs.Ytpgccioblgcjaaa
open Go.RowKit

set_option maxRecDepth 20000 in
set_option maxHeartbeats 4000000 in
/-- Enter. -/
theorem mEnter (o : Tr) (ao bo xo : Option Addr) (n l K mcap rcap N1 xc E : Nat) (ms rs xs : List Nat) (w : World)
    (ht : TrRoom w o 2000) (hm : RowT w o (.slice ao n mcap) ms) (hr : RowT w o (.slice bo l rcap) rs) (hx : RowT w o (.slice xo N1 xc) xs) (hmd : Digs 18446744073709551616 ms) (hrd : Digs 18446744073709551616 rs) (hdx : Digs 18446744073709551616 xs) (hK : K < 18446744073709551616) (hnb : n ≤ 300)
    (hE : E = 0 ↔ okMod ms K rs ∧ (N1 = n ∧ val 18446744073709551616 xs < val 18446744073709551616 ms)) (hE1 : E ≤ 1) :
    Calls Try.prog 20 #[trPtr o, .agg #[.slice ao n mcap, .int .u64 (K : Nat), .slice bo l rcap], .slice xo N1 xc] w fun e w' => ∃ v', e = .returned (.tuple #[v', .int .i64 (E : Int)]) ∧ Answered w o n E 1 (timesEvs n) (EntG n (val 18446744073709551616 ms) (val 18446744073709551616 xs)) w' v' := by
  have hmf : ∀ (fn : Fn) (first cap : Array Value) (w : World), (Instr.makeFunc fn first cap).run Try.prog w = .ok (.func fn first cap) w := fun _ _ _ _ => rfl
  have he : ∀ args w, (callFunc 54 args).run Try.prog w = .ok (.enter 54 args) w := fun _ _ => by simp [go_sem]
  obtain ⟨po, hpo⟩ := trPtr_shape o
  obtain ⟨_, _, _, e1, hLr, _, _, _, _⟩ := hr.1.open
  cases e1
  obtain ⟨W, hW⟩ : ∃ W, W = ((w.alloc (.cells #[.pointer po] 54)).alloc (.cells #[.slice ao n mcap, .int .u64 (K : Nat), .slice bo l rcap] 28)).alloc (.cells #[.slice xo N1 xc] 23) := ⟨_, rfl⟩
  have k0 : Kept Nought w W := by rw [hW]; exact (((Kept.refl Nought w).alloc _).alloc _).alloc _
  have hT0 : Box W w.heap.size (.pointer po) 54 := by rw [hW]; exact ((Box.new w _ _).alloc _).alloc _
  have hM0 : W.heap[w.heap.size + 1]? = some (.cells #[.slice ao n mcap, .int .u64 (K : Nat), .slice bo l rcap] 28 (0, 0)) := by
    rw [hW]
    refine heapAt_alloc ?_
    have := heap_alloc_new (w.alloc (.cells #[.pointer po] 54)) (.cells #[.slice ao n mcap, .int .u64 (K : Nat), .slice bo l rcap] 28)
    rwa [show (w.alloc (.cells #[.pointer po] 54)).heap.size = w.heap.size + 1 by simp] at this
  have hA0 : Box W (w.heap.size + 1 + 1) (.slice xo N1 xc) 23 := by
    rw [hW]
    have := Box.new ((w.alloc (.cells #[.pointer po] 54)).alloc (.cells #[.slice ao n mcap, .int .u64 (K : Nat), .slice bo l rcap] 28)) (.slice xo N1 xc) 23
    rwa [show ((w.alloc (.cells #[.pointer po] 54)).alloc (.cells #[.slice ao n mcap, .int .u64 (K : Nat), .slice bo l rcap] 28)).heap.size = w.heap.size + 1 + 1 by simp] at this
  obtain ⟨Wl, hWl⟩ : ∃ Wl, Wl = W.alloc (.cells #[.slice xo N1 xc] 23) := ⟨_, rfl⟩
  have kl : Kept Nought W Wl := by rw [hWl]; exact (Kept.refl Nought W).alloc _
  have hl0 : Wl.heap[W.heap.size]? = some (.cells #[.slice xo N1 xc] 23 (0, 0)) := by rw [hWl]; exact heap_alloc_new _ _
  have kk := k0.trans kl
  have hAsk := mAsked o ao bo (some ⟨W.heap.size, 0, none⟩) n l K mcap rcap 1 1 54 #[.pointer (some ⟨w.heap.size, 0, none⟩), .pointer (some ⟨w.heap.size + 1, 0, none⟩), .pointer (some ⟨w.heap.size + 1 + 1, 0, none⟩)]
    (fun _ => xo) (fun _ => N1) (fun _ => xc) (fun _ => xs) ms rs E 1999 (timesEvs n) (EntG n (val 18446744073709551616 ms) (val 18446744073709551616 xs)) Wl (by unfold timesEvs; simp; omega)
    (ht.grew kk) (hm.grew kk) (hr.grew kk) hmd hrd hK (by omega) (by omega)
    (fun W' m o' d => one_slot ((d.kept.block _ (lt_of_block hl0) (cells_apart hl0 (ht.grew kk).1 (by decide) (by decide))).trans hl0))
    (fun i hi => hx.grew kk)
    (fun i hi => hdx)
    he
    (fun hn W' m o' d hroom => by
      have hti := (ht.grew kk).1
      refine (mEnter1 o' ao bo xo n l K mcap rcap N1 xc w.heap.size (w.heap.size + 1) (w.heap.size + 1 + 1) ms rs xs W' (hroom.less (by omega)) ((hm.grew kk).did d) ((hx.grew kk).did d) ((hr.grew kk).did d) hmd hrd hdx hLr.out hK hn (by rw [d.ptr, hpo]; exact (hT0.grew kl).did d hti (by decide) (by decide)) ((d.kept.block _ (lt_of_block ((kl.block _ (lt_of_block hM0) (fun f => f)).trans hM0)) (cells_apart ((kl.block _ (lt_of_block hM0) (fun f => f)).trans hM0) hti (by decide) (by decide))).trans ((kl.block _ (lt_of_block hM0) (fun f => f)).trans hM0)) ((hA0.grew kl).did d hti (by decide) (by decide))).mono ?_
      rintro e w' ⟨v', rfl, Y, o2, h1, h2, h3⟩
      exact ⟨v', rfl, Y, o2, h1, fun hok hall => h2 hok (hall 0 (by omega)), h3⟩)
    (by
      rw [hE]
      exact and_congr_right fun _ => ⟨fun h i hi => h, fun h => h 0 (by omega)⟩) hE1
  have HB : Hid (∀ w' v', Answered Wl o n E 1 (timesEvs n) (EntG n (val 18446744073709551616 ms) (val 18446744073709551616 xs)) w' v' → Answered w o n E 1 (timesEvs n) (EntG n (val 18446744073709551616 ms) (val 18446744073709551616 xs)) w' v') := fun w' v' h => h.after kk
  have hsz : W.heap.size = w.heap.size + 1 + 1 + 1 := by rw [hW]; simp
  rw [hsz] at hAsk
  have HW := toHid hW
  have HWl := toHid hWl
  have JM := cells3 hM0
  obtain ⟨c3, c4, c5⟩ := JM
  have c0 := hT0.cell
  have c1 := hA0.cell
  rw [hpo] at hAsk ⊢
  clear ht hm hr hx hmd hrd hdx hK hnb hE hE1 hpo k0 hT0 hM0 hA0 hW hWl hl0 kk kl he hLr hsz
  generalize EntG n (val 18446744073709551616 ms) (val 18446744073709551616 xs) = G at *
  go_enter Try.func20, Try.ntmps20
  go_wp2_with fail
  rw [← HW.out, ← HWl.out]
  refine hAsk.mono ?_
  rintro e w1 ⟨v1, rfl, h1⟩
  have H1 := toHid (HB.out _ _ h1)
  clear hAsk h1 c0 c1 c3 c4 c5
  go_wp2_with fail
  go_ret2
  exact ⟨_, rfl, H1.out⟩

set_option maxRecDepth 20000 in
set_option maxHeartbeats 4000000 in
/-- Leave. -/
theorem mLeave (o : Tr) (ao bo xo : Option Addr) (n l K mcap rcap N1 xc E : Nat) (ms rs xs : List Nat) (w : World)
    (ht : TrRoom w o 2000) (hm : RowT w o (.slice ao n mcap) ms) (hr : RowT w o (.slice bo l rcap) rs) (hx : RowT w o (.slice xo N1 xc) xs) (hmd : Digs 18446744073709551616 ms) (hrd : Digs 18446744073709551616 rs) (hdx : Digs 18446744073709551616 xs) (hK : K < 18446744073709551616) (hnb : n ≤ 300)
    (hE : E = 0 ↔ okMod ms K rs ∧ (N1 = n ∧ val 18446744073709551616 xs < val 18446744073709551616 ms)) (hE1 : E ≤ 1) :
    Calls Try.prog 22 #[trPtr o, .agg #[.slice ao n mcap, .int .u64 (K : Nat), .slice bo l rcap], .slice xo N1 xc] w fun e w' => ∃ v', e = .returned (.tuple #[v', .int .i64 (E : Int)]) ∧ Answered w o n E 1 (List.replicate (n + 2) (1, (n : Int), 0)) (LeaG n (val 18446744073709551616 ms) (val 18446744073709551616 xs)) w' v' := by
  have hmf : ∀ (fn : Fn) (first cap : Array Value) (w : World), (Instr.makeFunc fn first cap).run Try.prog w = .ok (.func fn first cap) w := fun _ _ _ _ => rfl
  have he : ∀ args w, (callFunc 55 args).run Try.prog w = .ok (.enter 55 args) w := fun _ _ => by simp [go_sem]
  obtain ⟨po, hpo⟩ := trPtr_shape o
  obtain ⟨_, _, _, e1, hLr, _, _, _, _⟩ := hr.1.open
  cases e1
  obtain ⟨W, hW⟩ : ∃ W, W = ((w.alloc (.cells #[.pointer po] 54)).alloc (.cells #[.slice ao n mcap, .int .u64 (K : Nat), .slice bo l rcap] 28)).alloc (.cells #[.slice xo N1 xc] 23) := ⟨_, rfl⟩
  have k0 : Kept Nought w W := by rw [hW]; exact (((Kept.refl Nought w).alloc _).alloc _).alloc _
  have hT0 : Box W w.heap.size (.pointer po) 54 := by rw [hW]; exact ((Box.new w _ _).alloc _).alloc _
  have hM0 : W.heap[w.heap.size + 1]? = some (.cells #[.slice ao n mcap, .int .u64 (K : Nat), .slice bo l rcap] 28 (0, 0)) := by
    rw [hW]
    refine heapAt_alloc ?_
    have := heap_alloc_new (w.alloc (.cells #[.pointer po] 54)) (.cells #[.slice ao n mcap, .int .u64 (K : Nat), .slice bo l rcap] 28)
    rwa [show (w.alloc (.cells #[.pointer po] 54)).heap.size = w.heap.size + 1 by simp] at this
  have hA0 : Box W (w.heap.size + 1 + 1) (.slice xo N1 xc) 23 := by
    rw [hW]
    have := Box.new ((w.alloc (.cells #[.pointer po] 54)).alloc (.cells #[.slice ao n mcap, .int .u64 (K : Nat), .slice bo l rcap] 28)) (.slice xo N1 xc) 23
    rwa [show ((w.alloc (.cells #[.pointer po] 54)).alloc (.cells #[.slice ao n mcap, .int .u64 (K : Nat), .slice bo l rcap] 28)).heap.size = w.heap.size + 1 + 1 by simp] at this
  obtain ⟨Wl, hWl⟩ : ∃ Wl, Wl = W.alloc (.cells #[.slice xo N1 xc] 23) := ⟨_, rfl⟩
  have kl : Kept Nought W Wl := by rw [hWl]; exact (Kept.refl Nought W).alloc _
  have hl0 : Wl.heap[W.heap.size]? = some (.cells #[.slice xo N1 xc] 23 (0, 0)) := by rw [hWl]; exact heap_alloc_new _ _
  have kk := k0.trans kl
  have hAsk := mAsked o ao bo (some ⟨W.heap.size, 0, none⟩) n l K mcap rcap 1 1 55 #[.pointer (some ⟨w.heap.size, 0, none⟩), .pointer (some ⟨w.heap.size + 1, 0, none⟩), .pointer (some ⟨w.heap.size + 1 + 1, 0, none⟩)]
    (fun _ => xo) (fun _ => N1) (fun _ => xc) (fun _ => xs) ms rs E 1999 (List.replicate (n + 2) (1, (n : Int), 0)) (LeaG n (val 18446744073709551616 ms) (val 18446744073709551616 xs)) Wl (by simp; omega)
    (ht.grew kk) (hm.grew kk) (hr.grew kk) hmd hrd hK (by omega) (by omega)
    (fun W' m o' d => one_slot ((d.kept.block _ (lt_of_block hl0) (cells_apart hl0 (ht.grew kk).1 (by decide) (by decide))).trans hl0))
    (fun i hi => hx.grew kk)
    (fun i hi => hdx)
    he
    (fun hn W' m o' d hroom => by
      have hti := (ht.grew kk).1
      refine (mLeave1 o' ao bo xo n l K mcap rcap N1 xc w.heap.size (w.heap.size + 1) (w.heap.size + 1 + 1) ms rs xs W' (hroom.less (by omega)) ((hm.grew kk).did d) ((hx.grew kk).did d) hmd hrd hdx hLr.out hK hn (by rw [d.ptr, hpo]; exact (hT0.grew kl).did d hti (by decide) (by decide)) ((d.kept.block _ (lt_of_block ((kl.block _ (lt_of_block hM0) (fun f => f)).trans hM0)) (cells_apart ((kl.block _ (lt_of_block hM0) (fun f => f)).trans hM0) hti (by decide) (by decide))).trans ((kl.block _ (lt_of_block hM0) (fun f => f)).trans hM0)) ((hA0.grew kl).did d hti (by decide) (by decide))).mono ?_
      rintro e w' ⟨v', rfl, Y, o2, h1, h2, h3⟩
      exact ⟨v', rfl, Y, o2, h1, fun hok hall => h2 hok (hall 0 (by omega)), h3⟩)
    (by
      rw [hE]
      exact and_congr_right fun _ => ⟨fun h i hi => h, fun h => h 0 (by omega)⟩) hE1
  have HB : Hid (∀ w' v', Answered Wl o n E 1 (List.replicate (n + 2) (1, (n : Int), 0)) (LeaG n (val 18446744073709551616 ms) (val 18446744073709551616 xs)) w' v' → Answered w o n E 1 (List.replicate (n + 2) (1, (n : Int), 0)) (LeaG n (val 18446744073709551616 ms) (val 18446744073709551616 xs)) w' v') := fun w' v' h => h.after kk
  have hsz : W.heap.size = w.heap.size + 1 + 1 + 1 := by rw [hW]; simp
  rw [hsz] at hAsk
  have HW := toHid hW
  have HWl := toHid hWl
  have JM := cells3 hM0
  obtain ⟨c3, c4, c5⟩ := JM
  have c0 := hT0.cell
  have c1 := hA0.cell
  rw [hpo] at hAsk ⊢
  clear ht hm hr hx hmd hrd hdx hK hnb hE hE1 hpo k0 hT0 hM0 hA0 hW hWl hl0 kk kl he hLr hsz
  generalize LeaG n (val 18446744073709551616 ms) (val 18446744073709551616 xs) = G at *
  go_enter Try.func22, Try.ntmps22
  go_wp2_with fail
  rw [← HW.out, ← HWl.out]
  refine hAsk.mono ?_
  rintro e w1 ⟨v1, rfl, h1⟩
  have H1 := toHid (HB.out _ _ h1)
  clear hAsk h1 c0 c1 c3 c4 c5
  go_wp2_with fail
  go_ret2
  exact ⟨_, rfl, H1.out⟩

set_option maxRecDepth 20000 in
set_option maxHeartbeats 2000000 in
/-- One. -/
theorem mOne (ao bo : Option Addr) (n l K mcap rcap : Nat) (ms rs RL : List Nat) (w : World) (hm : Row .u64 w (.slice ao n mcap) ms) (hr : Row .u64 w (.slice bo l rcap) rs) (hmd : Digs 18446744073709551616 ms) (hrd : Digs 18446744073709551616 rs) (hK : K < 18446744073709551616) (hnb : n ≤ 300)
    (hok1 : okMod ms K rs → RL = digs 18446744073709551616 (2 ^ (64 * n) % val 18446744073709551616 ms) n) (hok0 : ¬ okMod ms K rs → RL = []) :
    Calls Try.prog 24 #[.agg #[.slice ao n mcap, .int .u64 (K : Nat), .slice bo l rcap]] w fun e w' => ∃ v', e = .returned v' ∧ Row .u64 w' v' RL ∧ Kept Nought w w' := by
  obtain ⟨_, _, _, e1, hLm, _, _, _, _⟩ := hm.open
  cases e1
  obtain ⟨_, _, _, e1, hLr, _, _, _, _⟩ := hr.open
  cases e1
  obtain ⟨W, hW⟩ : ∃ W, W = w.alloc (.cells #[.slice ao n mcap, .int .u64 (K : Nat), .slice bo l rcap] 28) := ⟨_, rfl⟩
  have k0 : Kept Nought w W := by rw [hW]; exact (Kept.refl Nought w).alloc _
  have hx0 : W.heap[w.heap.size]? = some (.cells #[.slice ao n mcap, .int .u64 (K : Nat), .slice bo l rcap] 28 (0, 0)) := by rw [hW]; exact heap_alloc_new _ _
  obtain ⟨p0, p1, p2⟩ := cells3 hx0
  have HW := toHid hW
  have HK0 := toHid k0
  by_cases hok : okMod ms K rs
  · obtain ⟨f1, f2, f3, f4, f5, f6, f7⟩ := hok.facts hLm.out hLr.out hmd hrd hK
    obtain ⟨N, hN⟩ : ∃ N, N = n + n := ⟨_, rfl⟩
    have hC := mCheck ao bo n l K mcap rcap ms rs true (by simp [hok]) W (hm.grew k0) (hr.grew k0) hmd hrd hK (by omega)
    have JX : Hid (∀ W', Kept Nought W W' → Calls Try.prog 51 #[.slice bo l rcap, .int .i64 (N : Int)] W' fun e w' => ∃ g, e = .returned (.slice (some ⟨g, 0, none⟩) N N) ∧ Kept Nought W w' ∧ W.heap.size ≤ g ∧ OwnN .u64 26 w' g (.slice (some ⟨g, 0, none⟩) N N) N (digs 18446744073709551616 (val 18446744073709551616 rs) N)) := fun W' k => by
      refine (mFit (.slice bo l rcap) rs N W' (hr.grew (k0.trans k)) hrd (by omega)).mono ?_
      rintro e w' ⟨rfl, ho, k'⟩
      exact ⟨_, rfl, k.trans k', k.size, ho⟩
    have JT : Hid (∀ W' g, Kept Nought W W' → W.heap.size ≤ g → OwnN .u64 26 W' g (.slice (some ⟨g, 0, none⟩) N N) N (digs 18446744073709551616 (val 18446744073709551616 rs) N) → Calls Try.prog 56 #[.pointer none, .agg #[.slice ao n mcap, .int .u64 (K : Nat), .slice bo l rcap], .slice (some ⟨g, 0, none⟩) N N] W' fun e w' => ∃ v', e = .returned v' ∧ Row .u64 w' v' RL ∧ Kept Nought W w') := fun W' g k hg ho => by
      have := mReduced W none none [] g g N N n K mcap l rcap ao bo _ ms W' (Did.of_kept k trivial) (TrRoom.none _ _ (by simp; omega)) hg ho (digs_length _ _ _) (digs_digs (by omega) _ _) hN (by omega) (RowT.none (hm.grew k0)) hmd
      refine this.mono ?_
      rintro e w' ⟨v', rfl, Y, o', h1, h2, h3⟩
      refine ⟨v', rfl, ?_, h3.none.2⟩
      have hp : 18446744073709551616 ^ n ≤ 18446744073709551616 ^ N := Nat.pow_le_pow_right (by omega) (by omega)
      have hRV : val 18446744073709551616 rs < val 18446744073709551616 ms := by rw [f7]; exact Nat.mod_lt _ (by omega)
      rw [val_digs, Nat.mod_eq_of_lt (Nat.lt_of_lt_of_le (Nat.lt_trans hRV f6) hp)] at h2
      obtain ⟨y1, y2⟩ := h2 f1 f2 (Nat.lt_of_lt_of_le hRV (Nat.le_mul_of_pos_right _ (Nat.pow_pos (by omega))))
      rw [hok1 hok]
      have hco : Nat.Coprime (18446744073709551616 ^ n) (val 18446744073709551616 ms) := by rw [B64]; exact (odd_coprime f5).symm
      have hY : Y = 2 ^ (64 * n) % val 18446744073709551616 ms := by
        rw [← B64, ← Nat.mod_eq_of_lt y1]
        apply cancel_mod hco
        rw [y2, f7, Nat.mod_mod, Nat.two_mul, Nat.pow_add]
      rw [← hY]
      exact own_row' h1 (digs_length _ _ _)
    have JC : Hid (∀ W', Kept Nought W W' → W'.cell? ⟨w.heap.size, 0, none⟩ = some (.slice ao n mcap) ∧ W'.cell? ⟨w.heap.size, 1, none⟩ = some (.int .u64 (K : Nat)) ∧ W'.cell? ⟨w.heap.size, 2, none⟩ = some (.slice bo l rcap)) := fun W' k => cells3 ((k.block _ (lt_of_block hx0) (fun f => f)).trans hx0)
    have g2 : IntKind.i64.wrap (2 * (n : Int)) = (N : Int) := by rw [IntKind.wrap_i64]; omega
    clear hm hr hmd hrd hK hok1 hok0 hok hLm hLr hW k0 hx0 f1 f2 f3 f4 f5 f6 f7 hN
    go_enter Try.func24, Try.ntmps24
    go_wp2_with (rw [← HW.out])
    refine hC.mono ?_
    rintro e w1 ⟨rfl, k1⟩
    obtain ⟨q0, q1, q2⟩ := JC.out _ k1
    have kd : Kept Nought W w1.drew := k1.drew
    clear hC p0 p1 p2
    go_wp2_with fail
    go_region_held3 (fun w' => w'.cell? ⟨w.heap.size, 0, none⟩ = some (.slice ao n mcap) ∧ w'.cell? ⟨w.heap.size, 1, none⟩ = some (.int .u64 (K : Int)) ∧ w'.cell? ⟨w.heap.size, 2, none⟩ = some (.slice bo l rcap))
      (((try dsimp only); (repeat' apply And.intro) <;> first | (go_keep; done) | assumption))
      (first
      | (go_at_call 51; refine (JX.out _ kd).mono ?_; rintro e w2 ⟨g', rfl, k2, hg2, r2⟩; obtain ⟨s0, s1, s2⟩ := JC.out _ k2)
      | (go_at_call 56; refine (JT.out _ g' k2 hg2 r2).mono ?_; rintro e w4 ⟨v4, rfl, hr4, k4⟩; obtain ⟨t0, t1, t2⟩ := JC.out _ k4))
    all_goals
      go_wp2_with fail
      go_ret
      exact ⟨_, rfl, hr4, HK0.out.trans k4⟩
  · have hC := mCheck ao bo n l K mcap rcap ms rs false (by simp [hok]) W (hm.grew k0) (hr.grew k0) hmd hrd hK (by omega)
    have HRL := toHid (hok0 hok)
    clear hm hr hmd hrd hK hok1 hok0 hLm hLr hW k0 hx0
    go_enter Try.func24, Try.ntmps24
    go_wp2_with (rw [← HW.out])
    refine hC.mono ?_
    rintro e w1 ⟨rfl, k1⟩
    go_wp2_with fail
    go_ret
    exact ⟨_, rfl, by rw [HRL.out]; exact Row.nil _ _, HK0.out.trans k1⟩

end Go.Proofs.Ytpgccioblgcjaaa
