/- Package ring: Neg, Half. -/
import Derived.Test.YtiljkgoafknefabGreatRinC
namespace Go.Proofs.YtiljkgoafknefabGreat
open Go.RowKit

theorem gNegS (o : Tr) (ao bo xo : Option Addr) (n mcap rl rcap xc : Nat) (K : Nat) (xs ms : List Nat) (w : World) (ht : TrRoom w o 2) (hx : RowT w o (.slice xo n xc) xs) (hm : RowT w o (.slice ao n mcap) ms) (hdx : Digs 18446744073709551616 xs) (hdm : Digs 18446744073709551616 ms) (hn : n ≤ 100000) :
    Calls Tryz.prog 119 #[trPtr o, .agg #[.slice ao n mcap, .int .u64 (K : Nat), .slice bo rl rcap], .slice none 0 0, .slice xo n xc] w fun e w' => ∃ v', e = .returned v' ∧ Done w o (List.replicate 2 (1, (n : Int), 0)) n (fun Y => val 18446744073709551616 xs < val 18446744073709551616 ms → digs 18446744073709551616 Y n = digs 18446744073709551616 (subM 0 (val 18446744073709551616 xs) (val 18446744073709551616 ms)) n) w' v' := by
  refine (gDiff o ao bo none xo n 0 mcap rl rcap 0 xc K [] xs ms w ht ⟨Row.nil _ _, fun h => absurd rfl h⟩ hx hm (fun d hd => by cases hd) hdx hdm hn (Nat.zero_le _)).mono ?_
  rintro e w' ⟨v', rfl, Y, o', h1, h2, h3⟩
  exact ⟨v', rfl, Y, o', h1, fun h => h2 (Nat.lt_of_le_of_lt (Nat.zero_le _) h) h, h3⟩

set_option maxRecDepth 20000 in
set_option maxHeartbeats 2000000 in
/-- What Neg asks for. -/
theorem gNeg1 (o : Tr) (ao bo xo : Option Addr) (n l K mcap rcap xc bT bM bA : Nat) (ms xs : List Nat) (w : World)
    (ht : TrRoom w o 2) (hm : RowT w o (.slice ao n mcap) ms) (hx : RowT w o (.slice xo n xc) xs) (hmd : Digs 18446744073709551616 ms) (hdx : Digs 18446744073709551616 xs) (hn : n ≤ 130)
    (hT : Box w bT (trPtr o) 56) (hM : w.heap[bM]? = some (.cells #[.slice ao n mcap, .int .u64 (K : Nat), .slice bo l rcap] 59 (0, 0))) (hA : Box w bA (.slice xo n xc) 23) :
    Calls Tryz.prog 118 #[.pointer (some ⟨bT, 0, none⟩), .pointer (some ⟨bM, 0, none⟩), .pointer (some ⟨bA, 0, none⟩)] w fun e w' => ∃ v', e = .returned (.tuple #[v', .int .i64 0]) ∧ Done w o (List.replicate 2 (1, (n : Int), 0)) n (fun Y => val 18446744073709551616 xs < val 18446744073709551616 ms → digs 18446744073709551616 Y n = digs 18446744073709551616 (subM 0 (val 18446744073709551616 xs) (val 18446744073709551616 ms)) n) w' v' := by
  obtain ⟨po, hpo⟩ := trPtr_shape o
  have hS := gNegS o ao bo xo n mcap l rcap xc K xs ms w ht hx hm hdx hmd (by omega)
  have cT := hT.cell
  have cA := hA.cell
  obtain ⟨p0, p1, p2⟩ := cells3 hM
  rw [hpo] at hS cT
  clear hm hx hmd hdx hT hM hA ht hpo
  generalize (fun Y => val 18446744073709551616 xs < val 18446744073709551616 ms → digs 18446744073709551616 Y n = digs 18446744073709551616 (subM 0 (val 18446744073709551616 xs) (val 18446744073709551616 ms)) n) = G at *
  go_enter Tryz.func118, Tryz.ntmps118
  go_wp2_with fail
  refine hS.mono ?_
  rintro e w1 ⟨v1, rfl, h1⟩
  clear hS cT cA p0 p1 p2
  go_wp2_with fail
  go_ret2
  exact ⟨_, rfl, h1⟩

set_option maxRecDepth 20000 in
set_option maxHeartbeats 4000000 in
/-- Neg. -/
theorem gNeg (o : Tr) (ao bo xo : Option Addr) (n l K mcap rcap N1 xc : Nat) (ms rs xs : List Nat) (w : World)
    (ht : TrRoom w o 10) (hm : RowT w o (.slice ao n mcap) ms) (hr : RowT w o (.slice bo l rcap) rs) (hx : RowT w o (.slice xo N1 xc) xs) (hmd : Digs 18446744073709551616 ms) (hrd : Digs 18446744073709551616 rs) (hdx : Digs 18446744073709551616 xs) (hK : K < 18446744073709551616) (hnb : n ≤ 1000000) (hN1 : N1 ≤ 1000000000) :
    Calls Tryz.prog 92 #[trPtr o, .agg #[.slice ao n mcap, .int .u64 (K : Nat), .slice bo l rcap], .slice xo N1 xc] w fun e w' => ∃ v' c, e = .returned (.tuple #[v', .int .i64 ((c : Nat) : Int)]) ∧ Asked w o true (okMod ms K rs ∧ (N1 = n ∧ val 18446744073709551616 xs < val 18446744073709551616 ms)) (fun zs c => zs = digs 18446744073709551616 (subM 0 (val 18446744073709551616 xs) (val 18446744073709551616 ms)) n ∧ c = 0) (List.replicate 1 (1, (n : Int), 0) ++ List.replicate 2 (1, (n : Int), 0)) w' v' c := by
  have hmf : ∀ (fn : Fn) (first cap : Array Value) (w : World), (Instr.makeFunc fn first cap).run Tryz.prog w = .ok (.func fn first cap) w := fun _ _ _ _ => rfl
  have he : ∀ args w, (callFunc 118 args).run Tryz.prog w = .ok (.enter 118 args) w := fun _ _ => by simp [go_sem]
  obtain ⟨po, hpo⟩ := trPtr_shape o
  obtain ⟨W, hW⟩ : ∃ W, W = ((w.alloc (.cells #[.pointer po] 56)).alloc (.cells #[.slice ao n mcap, .int .u64 (K : Nat), .slice bo l rcap] 59)).alloc (.cells #[.slice xo N1 xc] 23) := ⟨_, rfl⟩
  have k0 : Kept Nought w W := by rw [hW]; exact (((Kept.refl Nought w).alloc _).alloc _).alloc _
  have hT0 : Box W w.heap.size (.pointer po) 56 := by rw [hW]; exact ((Box.new w _ _).alloc _).alloc _
  have hM0 : W.heap[w.heap.size + 1]? = some (.cells #[.slice ao n mcap, .int .u64 (K : Nat), .slice bo l rcap] 59 (0, 0)) := by
    rw [hW]
    refine heapAt_alloc ?_
    have := heap_alloc_new (w.alloc (.cells #[.pointer po] 56)) (.cells #[.slice ao n mcap, .int .u64 (K : Nat), .slice bo l rcap] 59)
    rwa [show (w.alloc (.cells #[.pointer po] 56)).heap.size = w.heap.size + 1 by simp] at this
  have hA0 : Box W (w.heap.size + 1 + 1) (.slice xo N1 xc) 23 := by
    rw [hW]
    have := Box.new ((w.alloc (.cells #[.pointer po] 56)).alloc (.cells #[.slice ao n mcap, .int .u64 (K : Nat), .slice bo l rcap] 59)) (.slice xo N1 xc) 23
    rwa [show ((w.alloc (.cells #[.pointer po] 56)).alloc (.cells #[.slice ao n mcap, .int .u64 (K : Nat), .slice bo l rcap] 59)).heap.size = w.heap.size + 1 + 1 by simp] at this
  obtain ⟨Wl, hWl⟩ : ∃ Wl, Wl = W.alloc (.cells #[.slice xo N1 xc] 23) := ⟨_, rfl⟩
  have kl : Kept Nought W Wl := by rw [hWl]; exact (Kept.refl Nought W).alloc _
  have hl0 : Wl.heap[W.heap.size]? = some (.cells #[.slice xo N1 xc] 23 (0, 0)) := by rw [hWl]; exact heap_alloc_new _ _
  have kk := k0.trans kl
  have hAsk := gAsked o ao bo (some ⟨W.heap.size, 0, none⟩) n l K mcap rcap 1 1 118 #[.pointer (some ⟨w.heap.size, 0, none⟩), .pointer (some ⟨w.heap.size + 1, 0, none⟩), .pointer (some ⟨w.heap.size + 1 + 1, 0, none⟩)]
    (fun _ => xo) (fun _ => N1) (fun _ => xc) (fun _ => xs) ms rs 9 (List.replicate 2 (1, (n : Int), 0)) true (fun zs c => zs = digs 18446744073709551616 (subM 0 (val 18446744073709551616 xs) (val 18446744073709551616 ms)) n ∧ c = 0) Wl
    (ht.grew kk) (hm.grew kk) (hr.grew kk) hmd hrd hK (by omega) (by omega)
    (fun i hi => hN1)
    (fun W' m o' d => one_slot ((d.kept.block _ (lt_of_block hl0) (cells_apart hl0 (ht.grew kk).1 (by decide) (by decide))).trans hl0))
    (fun i hi => hx.grew kk)
    (fun i hi => hdx)
    he
    (fun hn hall W' m o' d hroom => by
      have hti := (ht.grew kk).1
      have e1 : N1 = n := hall 0 (by omega)
      subst e1
      refine (gNeg1 o' ao bo xo N1 l K mcap rcap xc w.heap.size (w.heap.size + 1) (w.heap.size + 1 + 1) ms xs W' (hroom.less (by omega)) ((hm.grew kk).did d) ((hx.grew kk).did d) hmd hdx hn (by rw [d.ptr, hpo]; exact (hT0.grew kl).did d hti (by decide) (by decide)) ((d.kept.block _ (lt_of_block ((kl.block _ (lt_of_block hM0) (fun f => f)).trans hM0)) (cells_apart ((kl.block _ (lt_of_block hM0) (fun f => f)).trans hM0) hti (by decide) (by decide))).trans ((kl.block _ (lt_of_block hM0) (fun f => f)).trans hM0)) ((hA0.grew kl).did d hti (by decide) (by decide))).mono ?_
      rintro e w' ⟨v', rfl, Y, o2, h1, h2, h3⟩
      refine ⟨v', 0, rfl, _, _, o2, own_row' h1 (digs_length _ _ _), (fun _ => ⟨Fresh.own h1 (Nat.le_refl _), U64s.own h1⟩), h3, fun hok hin => ⟨⟨h2 (hin 0 (by omega)).2, rfl⟩, rfl⟩⟩)
  have hPre : (okMod ms K rs ∧ AllIn 1 n (val 18446744073709551616 ms) (fun _ => N1) (fun _ => xs)) ↔ (okMod ms K rs ∧ (N1 = n ∧ val 18446744073709551616 xs < val 18446744073709551616 ms)) :=
    and_congr_right fun _ => ⟨fun h => h 0 (by omega), fun h i hi => h⟩
  rw [hPre] at hAsk
  have HB : Hid (∀ w' v' c, Asked Wl o true (okMod ms K rs ∧ (N1 = n ∧ val 18446744073709551616 xs < val 18446744073709551616 ms)) (fun zs c => zs = digs 18446744073709551616 (subM 0 (val 18446744073709551616 xs) (val 18446744073709551616 ms)) n ∧ c = 0) (List.replicate 1 (1, (n : Int), 0) ++ List.replicate 2 (1, (n : Int), 0)) w' v' c → Asked w o true (okMod ms K rs ∧ (N1 = n ∧ val 18446744073709551616 xs < val 18446744073709551616 ms)) (fun zs c => zs = digs 18446744073709551616 (subM 0 (val 18446744073709551616 xs) (val 18446744073709551616 ms)) n ∧ c = 0) (List.replicate 1 (1, (n : Int), 0) ++ List.replicate 2 (1, (n : Int), 0)) w' v' c) := fun w' v' c h => h.after kk
  have hsz : W.heap.size = w.heap.size + 1 + 1 + 1 := by rw [hW]; simp
  rw [hsz] at hAsk
  have HW := toHid hW
  have HWl := toHid hWl
  obtain ⟨c3, c4, c5⟩ := cells3 hM0
  have c0 := hT0.cell
  have c1 := hA0.cell
  rw [hpo] at hAsk ⊢
  clear ht hm hr hx hmd hrd hdx hK hnb hpo k0 hT0 hM0 hA0 hW hWl hl0 kk kl he hsz hPre hN1
  generalize (okMod ms K rs ∧ (N1 = n ∧ val 18446744073709551616 xs < val 18446744073709551616 ms)) = PP at *
  generalize (fun zs c => zs = digs 18446744073709551616 (subM 0 (val 18446744073709551616 xs) (val 18446744073709551616 ms)) n ∧ c = 0) = RR at *
  generalize List.replicate 1 (1, (n : Int), 0) ++ List.replicate 2 (1, (n : Int), 0) = EE at *
  go_enter Tryz.func92, Tryz.ntmps92
  go_wp2_with fail
  rw [← HW.out, ← HWl.out]
  refine hAsk.mono ?_
  rintro e w1 ⟨v1, c, rfl, h1⟩
  have H1 := toHid (HB.out _ _ _ h1)
  clear hAsk h1 c0 c1 c3 c4 c5
  go_wp2_with fail
  go_ret2
  exact ⟨_, c, rfl, H1.out⟩

end Go.Proofs.YtiljkgoafknefabGreat
