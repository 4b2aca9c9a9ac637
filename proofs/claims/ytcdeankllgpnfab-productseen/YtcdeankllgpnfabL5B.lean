/- The calls of package product with no trace; the laws' first test of layer 5. -/
import Derived.Test.YtcdeankllgpnfabL5A
import Derived.Test.YtcdeankllgpnfabLimN
namespace Go.Proofs.Ytcdeankllgpnfab
open Go.RowKit

theorem mul0 (ao bo : Option Addr) (L M cap dap : Nat) (xs ys : List Nat) (w : World) (hu : Row .u64 w (.slice ao L cap) xs) (hv : Row .u64 w (.slice bo M dap) ys) (hdx : Digs 18446744073709551616 xs) (hdy : Digs 18446744073709551616 ys) :
    Calls Try.prog 9 #[.pointer none, .slice ao L cap, .slice bo M dap] w fun e w' => ∃ v', e = .returned v' ∧ Row .u64 w' v' (mulAns (val 18446744073709551616 xs) (val 18446744073709551616 ys) L M) ∧ Kept Nought w w' := by
  refine (pMul none ao bo L M cap dap xs ys w (TrRoom.none w 300 (by omega)) (RowT.none hu) (RowT.none hv) hdx hdy).mono ?_
  rintro e w' ⟨v', rfl, hr, _, o', hd⟩
  exact ⟨v', rfl, hr, hd.none.2⟩

theorem divide0 (ao bo : Option Addr) (L M cap dap : Nat) (xs ys : List Nat) (E : Nat) (hE : E = divE (val 18446744073709551616 ys) L M) (w : World) (hu : Row .u64 w (.slice ao L cap) xs) (hv : Row .u64 w (.slice bo M dap) ys) (hdx : Digs 18446744073709551616 xs) (hdy : Digs 18446744073709551616 ys) :
    Calls Try.prog 13 #[.pointer none, .slice ao L cap, .slice bo M dap] w fun e w' => ∃ v1 v2, e = .returned (.tuple #[v1, v2, .int .i64 (E : Nat)]) ∧ Row .u64 w' v1 (divQ (val 18446744073709551616 xs) (val 18446744073709551616 ys) L M) ∧ Row .u64 w' v2 (divR (val 18446744073709551616 xs) (val 18446744073709551616 ys) L M) ∧ Kept Nought w w' := by
  refine (pDivide none ao bo L M cap dap xs ys E hE w (TrRoom.none w 60000 (by omega)) (RowT.none hu) (RowT.none hv) hdx hdy).mono ?_
  rintro e w' ⟨v1, v2, rfl, hr1, hr2, o', hd⟩
  exact ⟨v1, v2, rfl, hr1, hr2, hd.none.2⟩

theorem mulWord0 (ao bo : Option Addr) (L M cap dap : Nat) (xs ys : List Nat) (x : Nat) (hx : x < 18446744073709551616) (c : Nat) (hc : c = mwTop (val 18446744073709551616 xs) x (val 18446744073709551616 ys) L M) (w : World) (hu : Row .u64 w (.slice ao L cap) xs) (hv : Row .u64 w (.slice bo M dap) ys) (hdx : Digs 18446744073709551616 xs) (hdy : Digs 18446744073709551616 ys) :
    Calls Try.prog 12 #[.pointer none, .slice ao L cap, .int .u64 (x : Nat), .slice bo M dap] w fun e w' => ∃ v', e = .returned (.tuple #[v', .int .u64 (c : Nat)]) ∧ Row .u64 w' v' (mwAns (val 18446744073709551616 xs) x (val 18446744073709551616 ys) L M) ∧ Kept Nought w w' := by
  refine (pMulWord none ao bo L M cap dap xs ys x hx c hc w (TrRoom.none w 300 (by omega)) (RowT.none hu) (RowT.none hv) hdx hdy).mono ?_
  rintro e w' ⟨v', rfl, hr, o', hd⟩
  exact ⟨v', rfl, hr, hd.none.2⟩

theorem same5 (u v : Value) (a : List Nat) (w : World) (hu : Row .u64 w u a) (hv : Row .u64 w v a) :
    Calls Try.prog 15 #[u, v] w fun r w' => r = .returned (.bool true) ∧ ∃ n, w' = w.drewN n := by
  have h := rSame u v a a w hu hv
  rw [decide_eq_true (rfl : a = a)] at h
  exact h

theorem ex5a : mulAns (val 18446744073709551616 [18446744073709551615]) (val 18446744073709551616 [18446744073709551615]) 1 1 = [1, 18446744073709551614] := by decide +kernel

theorem ex5b : divE (val 18446744073709551616 [2]) 2 1 = 0 ∧ divQ (val 18446744073709551616 [7, 0]) (val 18446744073709551616 [2]) 2 1 = [3, 0] ∧ divR (val 18446744073709551616 [7, 0]) (val 18446744073709551616 [2]) 2 1 = [1] := by decide +kernel

theorem row_two (k : IntKind) (w : World) (x y : Nat) (e : TypeId) : Row k (w.alloc (.cells #[.int k (x : Nat), .int k (y : Nat)] e)) (.slice (some ⟨w.heap.size, 0, none⟩) 2 2) [x, y] := Row.of_block (t := e) (heap_alloc_new w _) rfl (by unfold maxLen; omega)

theorem pair_rows (x y : Nat) (w : World) : Row .u64 ((w.alloc (.cells #[.int .u64 (x : Nat)] 24)).alloc (.cells #[.int .u64 (y : Nat)] 24)) (.slice (some ⟨w.heap.size, 0, none⟩) 1 1) [x] ∧ Row .u64 ((w.alloc (.cells #[.int .u64 (x : Nat)] 24)).alloc (.cells #[.int .u64 (y : Nat)] 24)) (.slice (some ⟨w.heap.size + 1, 0, none⟩) 1 1) [y] := by
  refine ⟨(row_new1 .u64 w x _).grew ((Kept.refl _ _).alloc _), ?_⟩
  have := row_new1 .u64 (w.alloc (.cells #[.int .u64 (x : Nat)] 24)) y 24
  simpa using this

theorem trio_rows (x z y : Nat) (w : World) : Row .u64 ((w.alloc (.cells #[.int .u64 (x : Nat), .int .u64 (z : Nat)] 24)).alloc (.cells #[.int .u64 (y : Nat)] 24)) (.slice (some ⟨w.heap.size, 0, none⟩) 2 2) [x, z] ∧ Row .u64 ((w.alloc (.cells #[.int .u64 (x : Nat), .int .u64 (z : Nat)] 24)).alloc (.cells #[.int .u64 (y : Nat)] 24)) (.slice (some ⟨w.heap.size + 1, 0, none⟩) 1 1) [y] := by
  refine ⟨(row_two .u64 w x z _).grew ((Kept.refl _ _).alloc _), ?_⟩
  have := row_new1 .u64 (w.alloc (.cells #[.int .u64 (x : Nat), .int .u64 (z : Nat)] 24)) y 24
  simpa using this

set_option maxRecDepth 20000 in
set_option maxHeartbeats 2000000 in
/-- awake. -/
theorem f5Awake (w : World) : Calls Try.prog 5 #[] w fun r w' => r = .returned (.bool true) ∧ Kept Nought w w' := by
  have hd : ∀ x : Nat, x < 18446744073709551616 → Digs 18446744073709551616 [x] := fun x hx => Digs.one hx
  have r1 := pair_rows 18446744073709551615 18446744073709551615 w
  have k1 : Kept Nought w ((w.alloc (.cells #[.int .u64 18446744073709551615] 24)).alloc (.cells #[.int .u64 18446744073709551615] 24)) := ((Kept.refl Nought w).alloc _).alloc _
  have hA := mul0 _ _ 1 1 _ _ _ _ _ r1.1 r1.2 (hd _ (by omega)) (hd _ (by omega))
  rw [ex5a] at hA
  clear r1
  go_enter Try.func5, Try.ntmps5
  go_wp2_with fail
  refine hA.mono ?_
  rintro e w2 ⟨v2, rfl, hr2, k2⟩
  have hk2 := k1.trans k2
  have r3 := trio_rows 7 0 2 w2
  have k3 : Kept Nought w2 ((w2.alloc (.cells #[.int .u64 7, .int .u64 0] 24)).alloc (.cells #[.int .u64 2] 24)) := ((Kept.refl Nought w2).alloc _).alloc _
  have hD := divide0 _ _ 2 1 _ _ _ _ 0 (by rw [ex5b.1]) _ r3.1 r3.2 ((hd 7 (by omega)).append (hd 0 (by omega))) (hd _ (by omega))
  rw [ex5b.2.1, ex5b.2.2] at hD
  clear hA k1 k2 r3 hd
  go_wp2_with fail
  refine hD.mono ?_
  rintro e w4 ⟨v4, v5, rfl, hr4, hr5, k4⟩
  have hr2' := (hr2.grew k3).grew k4
  have hk4 := (hk2.trans k3).trans k4
  clear hD hr2 hk2 k3 k4
  obtain ⟨ao, n, cap, rfl, hL, _, _, _, hnum⟩ := hr2'.open
  obtain ⟨bo, m, dap, rfl, hM, _, _, _, hnum4⟩ := hr4.open
  obtain ⟨co, p, eap, rfl, hP, _, _, _, hnum5⟩ := hr5.open
  obtain rfl : n = 2 := hL.out.symm
  obtain rfl : m = 2 := hM.out.symm
  obtain rfl : p = 1 := hP.out.symm
  obtain ⟨b, off, rfl, hc0⟩ := hnum 0 (by omega)
  obtain ⟨_, _, e1, hc1⟩ := hnum 1 (by omega)
  cases e1
  obtain ⟨b4, off4, rfl, hc4⟩ := hnum4 0 (by omega)
  obtain ⟨b5, off5, rfl, hc5⟩ := hnum5 0 (by omega)
  have hc0' : w4.cell? ⟨b, off, none⟩ = some (.int .u64 1) := hc0
  have hc1' : w4.cell? ⟨b, off + 1, none⟩ = some (.int .u64 18446744073709551614) := hc1
  have hc4' : w4.cell? ⟨b4, off4, none⟩ = some (.int .u64 3) := hc4
  have hc5' : w4.cell? ⟨b5, off5, none⟩ = some (.int .u64 1) := hc5
  clear hnum hnum4 hnum5 hc0 hc1 hc4 hc5 hr2' hr4 hr5 hL hM hP
  go_wp2
  go_ret
  exact ⟨rfl, hk4⟩

end Go.Proofs.Ytcdeankllgpnfab
