/- The laws' own sum, difference, product of layer 7, of members. -/
import Derived.Test.YtaehphckkmbbnaaLaw7
namespace Go.Proofs.Ytaehphckkmbbnaa
open Go.RowKit

/-- A member of a modulus V of n words, as a number in memory. -/
def Mem7 (n V : Nat) (w : World) (v : Value) (X : Nat) : Prop := Row .u64 w v (digs 18446744073709551616 X n) ∧ X < V

theorem Mem7.grew {n V : Nat} {w w' : World} {v : Value} {X : Nat} (h : Mem7 n V w v X) (k : Kept Nought w w') : Mem7 n V w' v X := ⟨h.1.grew k, h.2⟩

theorem Mem7.of {w : World} {v : Value} {xs : List Nat} {n V : Nat} (h : Row .u64 w v xs) (hd : Digs 18446744073709551616 xs) (hl : xs.length = n) (hx : val 18446744073709551616 xs < V) : Mem7 n V w v (val 18446744073709551616 xs) := by
  refine ⟨?_, hx⟩
  rw [← hl, digs_val_self hd]
  exact h

/-- Two members that are alike are the same. -/
theorem same7 {n V : Nat} {u v : Value} {X Y : Nat} (w : World) (hu : Mem7 n V w u X) (hv : Mem7 n V w v Y) (h : X = Y) : Calls Try.prog 22 #[u, v] w fun e w' => e = .returned (.bool true) ∧ Kept Nought w w' := by
  subst h
  refine (rSame u v _ _ w hu.1 hv.1).mono ?_
  rintro e w' ⟨rfl, m, rfl⟩
  exact ⟨by rw [decide_eq_true rfl], (Kept.refl _ _).drewN _⟩

set_option maxRecDepth 20000 in
set_option maxHeartbeats 1000000 in
/-- sum of the laws. -/
theorem sum7 (ao bo : Option Addr) (n l K mcap rcap : Nat) (ms rs : List Nat) (v1 v2 : Value) (X Z : Nat) (w : World) (hok : okMod ms K rs) (hm : Row .u64 w (.slice ao n mcap) ms) (hr : Row .u64 w (.slice bo l rcap) rs) (hmd : Digs 18446744073709551616 ms) (hrd : Digs 18446744073709551616 rs) (hK : K < 18446744073709551616) (h1 : Mem7 n (val 18446744073709551616 ms) w v1 X) (h2 : Mem7 n (val 18446744073709551616 ms) w v2 Z) :
    Calls Try.prog 23 #[.agg #[.slice ao n mcap, .int .u64 (K : Nat), .slice bo l rcap], v1, v2] w fun e w' => ∃ v', e = .returned v' ∧ Mem7 n (val 18446744073709551616 ms) w' v' ((X + Z) % val 18446744073709551616 ms) ∧ Kept Nought w w' := by
  obtain ⟨_, _, _, e1, hLm, _, _, _, _⟩ := hm.open
  cases e1
  obtain ⟨_, _, _, e1, hLr, _, _, _, _⟩ := hr.open
  cases e1
  obtain ⟨f1, f2, f3, f4, f5, f6, f7⟩ := hok.facts hLm.out hLr.out hmd hrd hK
  obtain ⟨xo, N1, xc, rfl, hL1, _, _, _, _⟩ := h1.1.open
  obtain ⟨yo, N2, yc, rfl, hL2, _, _, _, _⟩ := h2.1.open
  obtain rfl : N1 = n := by rw [← hL1.out, digs_length]
  obtain rfl : N2 = N1 := by rw [← hL2.out, digs_length]
  have eX : val 18446744073709551616 (digs 18446744073709551616 X N2) = X := by rw [val_digs, Nat.mod_eq_of_lt (Nat.lt_trans h1.2 f6)]
  have eZ : val 18446744073709551616 (digs 18446744073709551616 Z N2) = Z := by rw [val_digs, Nat.mod_eq_of_lt (Nat.lt_trans h2.2 f6)]
  have k0 : Kept Nought w (w.alloc (.cells #[.slice ao N2 mcap, .int .u64 (K : Nat), .slice bo l rcap] 26)) := (Kept.refl Nought w).alloc _
  have hx0 : (w.alloc (.cells #[.slice ao N2 mcap, .int .u64 (K : Nat), .slice bo l rcap] 26)).heap[w.heap.size]? = some (.cells #[.slice ao N2 mcap, .int .u64 (K : Nat), .slice bo l rcap] 26 (0, 0)) := heap_alloc_new _ _
  have hA := add7 ao bo xo yo N2 l K mcap rcap N2 N2 xc yc ms rs _ _ 0 (.inl ⟨rfl, hok, ⟨rfl, by rw [eX]; exact h1.2⟩, rfl, by rw [eZ]; exact h2.2⟩) _ rfl _ (hm.grew k0) (hr.grew k0) (h1.1.grew k0) (h2.1.grew k0) hmd hrd (digs_digs (by omega) _ _) (digs_digs (by omega) _ _) hK (by omega) (by omega) (by omega)
  rw [eX, eZ, if_pos rfl] at hA
  have HL : Hid ((X + Z) % val 18446744073709551616 ms < val 18446744073709551616 ms) := Nat.mod_lt _ (by omega)
  obtain ⟨p0, p1, p2⟩ := cells3 hx0
  have K0 := toHid k0
  clear hm hr hmd hrd hK hok h1 h2 hLm hLr hL1 hL2 eX eZ hx0 k0 f1 f2 f3 f4 f5 f6 f7
  generalize (X + Z) % val 18446744073709551616 ms = RES at *
  generalize val 18446744073709551616 ms = VV at *
  go_enter Try.func23, Try.ntmps23
  go_wp2_with fail
  refine hA.mono ?_
  rintro e w1 ⟨v1, rfl, hr1, k1⟩
  clear hA p0 p1 p2
  go_wp2_with fail
  go_ret
  exact ⟨_, rfl, ⟨hr1, HL.out⟩, K0.out.trans k1⟩

set_option maxRecDepth 20000 in
set_option maxHeartbeats 1000000 in
/-- difference of the laws. -/
theorem dif7 (ao bo : Option Addr) (n l K mcap rcap : Nat) (ms rs : List Nat) (v1 v2 : Value) (X Z : Nat) (w : World) (hok : okMod ms K rs) (hm : Row .u64 w (.slice ao n mcap) ms) (hr : Row .u64 w (.slice bo l rcap) rs) (hmd : Digs 18446744073709551616 ms) (hrd : Digs 18446744073709551616 rs) (hK : K < 18446744073709551616) (h1 : Mem7 n (val 18446744073709551616 ms) w v1 X) (h2 : Mem7 n (val 18446744073709551616 ms) w v2 Z) :
    Calls Try.prog 28 #[.agg #[.slice ao n mcap, .int .u64 (K : Nat), .slice bo l rcap], v1, v2] w fun e w' => ∃ v', e = .returned v' ∧ Mem7 n (val 18446744073709551616 ms) w' v' (subM X Z (val 18446744073709551616 ms)) ∧ Kept Nought w w' := by
  obtain ⟨_, _, _, e1, hLm, _, _, _, _⟩ := hm.open
  cases e1
  obtain ⟨_, _, _, e1, hLr, _, _, _, _⟩ := hr.open
  cases e1
  obtain ⟨f1, f2, f3, f4, f5, f6, f7⟩ := hok.facts hLm.out hLr.out hmd hrd hK
  obtain ⟨xo, N1, xc, rfl, hL1, _, _, _, _⟩ := h1.1.open
  obtain ⟨yo, N2, yc, rfl, hL2, _, _, _, _⟩ := h2.1.open
  obtain rfl : N1 = n := by rw [← hL1.out, digs_length]
  obtain rfl : N2 = N1 := by rw [← hL2.out, digs_length]
  have eX : val 18446744073709551616 (digs 18446744073709551616 X N2) = X := by rw [val_digs, Nat.mod_eq_of_lt (Nat.lt_trans h1.2 f6)]
  have eZ : val 18446744073709551616 (digs 18446744073709551616 Z N2) = Z := by rw [val_digs, Nat.mod_eq_of_lt (Nat.lt_trans h2.2 f6)]
  have k0 : Kept Nought w (w.alloc (.cells #[.slice ao N2 mcap, .int .u64 (K : Nat), .slice bo l rcap] 26)) := (Kept.refl Nought w).alloc _
  have hx0 : (w.alloc (.cells #[.slice ao N2 mcap, .int .u64 (K : Nat), .slice bo l rcap] 26)).heap[w.heap.size]? = some (.cells #[.slice ao N2 mcap, .int .u64 (K : Nat), .slice bo l rcap] 26 (0, 0)) := heap_alloc_new _ _
  have hA := sub7 ao bo xo yo N2 l K mcap rcap N2 N2 xc yc ms rs _ _ 0 (.inl ⟨rfl, hok, ⟨rfl, by rw [eX]; exact h1.2⟩, rfl, by rw [eZ]; exact h2.2⟩) _ rfl _ (hm.grew k0) (hr.grew k0) (h1.1.grew k0) (h2.1.grew k0) hmd hrd (digs_digs (by omega) _ _) (digs_digs (by omega) _ _) hK (by omega) (by omega) (by omega)
  rw [eX, eZ, if_pos rfl] at hA
  have HL : Hid (subM X Z (val 18446744073709551616 ms) < val 18446744073709551616 ms) := subM_lt h1.2 h2.2
  obtain ⟨p0, p1, p2⟩ := cells3 hx0
  have K0 := toHid k0
  clear hm hr hmd hrd hK hok h1 h2 hLm hLr hL1 hL2 eX eZ hx0 k0 f1 f2 f3 f4 f5 f6 f7
  generalize subM X Z (val 18446744073709551616 ms) = RES at *
  generalize val 18446744073709551616 ms = VV at *
  go_enter Try.func28, Try.ntmps28
  go_wp2_with fail
  refine hA.mono ?_
  rintro e w1 ⟨v1, rfl, hr1, k1⟩
  clear hA p0 p1 p2
  go_wp2_with fail
  go_ret
  exact ⟨_, rfl, ⟨hr1, HL.out⟩, K0.out.trans k1⟩

set_option maxRecDepth 20000 in
set_option maxHeartbeats 1000000 in
/-- product of the laws. -/
theorem pro7 (ao bo : Option Addr) (n l K mcap rcap : Nat) (ms rs : List Nat) (v1 v2 : Value) (X Z : Nat) (w : World) (hok : okMod ms K rs) (hm : Row .u64 w (.slice ao n mcap) ms) (hr : Row .u64 w (.slice bo l rcap) rs) (hmd : Digs 18446744073709551616 ms) (hrd : Digs 18446744073709551616 rs) (hK : K < 18446744073709551616) (h1 : Mem7 n (val 18446744073709551616 ms) w v1 X) (h2 : Mem7 n (val 18446744073709551616 ms) w v2 Z) :
    Calls Try.prog 27 #[.agg #[.slice ao n mcap, .int .u64 (K : Nat), .slice bo l rcap], v1, v2] w fun e w' => ∃ v', e = .returned v' ∧ Mem7 n (val 18446744073709551616 ms) w' v' (X * Z % val 18446744073709551616 ms) ∧ Kept Nought w w' := by
  obtain ⟨_, _, _, e1, hLm, _, _, _, _⟩ := hm.open
  cases e1
  obtain ⟨_, _, _, e1, hLr, _, _, _, _⟩ := hr.open
  cases e1
  obtain ⟨f1, f2, f3, f4, f5, f6, f7⟩ := hok.facts hLm.out hLr.out hmd hrd hK
  obtain ⟨xo, N1, xc, rfl, hL1, _, _, _, _⟩ := h1.1.open
  obtain ⟨yo, N2, yc, rfl, hL2, _, _, _, _⟩ := h2.1.open
  obtain rfl : N1 = n := by rw [← hL1.out, digs_length]
  obtain rfl : N2 = N1 := by rw [← hL2.out, digs_length]
  have eX : val 18446744073709551616 (digs 18446744073709551616 X N2) = X := by rw [val_digs, Nat.mod_eq_of_lt (Nat.lt_trans h1.2 f6)]
  have eZ : val 18446744073709551616 (digs 18446744073709551616 Z N2) = Z := by rw [val_digs, Nat.mod_eq_of_lt (Nat.lt_trans h2.2 f6)]
  have k0 : Kept Nought w (w.alloc (.cells #[.slice ao N2 mcap, .int .u64 (K : Nat), .slice bo l rcap] 26)) := (Kept.refl Nought w).alloc _
  have hx0 : (w.alloc (.cells #[.slice ao N2 mcap, .int .u64 (K : Nat), .slice bo l rcap] 26)).heap[w.heap.size]? = some (.cells #[.slice ao N2 mcap, .int .u64 (K : Nat), .slice bo l rcap] 26 (0, 0)) := heap_alloc_new _ _
  have hA := mul7 ao bo xo yo N2 l K mcap rcap N2 N2 xc yc ms rs _ _ 0 (.inl ⟨rfl, hok, ⟨rfl, by rw [eX]; exact h1.2⟩, rfl, by rw [eZ]; exact h2.2⟩) _ rfl _ (hm.grew k0) (hr.grew k0) (h1.1.grew k0) (h2.1.grew k0) hmd hrd (digs_digs (by omega) _ _) (digs_digs (by omega) _ _) hK (by omega) (by omega) (by omega)
  rw [eX, eZ, if_pos rfl] at hA
  have HL : Hid (X * Z % val 18446744073709551616 ms < val 18446744073709551616 ms) := Nat.mod_lt _ (by omega)
  obtain ⟨p0, p1, p2⟩ := cells3 hx0
  have K0 := toHid k0
  clear hm hr hmd hrd hK hok h1 h2 hLm hLr hL1 hL2 eX eZ hx0 k0 f1 f2 f3 f4 f5 f6 f7
  generalize X * Z % val 18446744073709551616 ms = RES at *
  generalize val 18446744073709551616 ms = VV at *
  go_enter Try.func27, Try.ntmps27
  go_wp2_with fail
  refine hA.mono ?_
  rintro e w1 ⟨v1, rfl, hr1, k1⟩
  clear hA p0 p1 p2
  go_wp2_with fail
  go_ret
  exact ⟨_, rfl, ⟨hr1, HL.out⟩, K0.out.trans k1⟩

end Go.Proofs.Ytaehphckkmbbnaa
