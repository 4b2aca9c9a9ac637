/- Package limbs with no trace: Add, Sub; the laws' first test of layer 4: the chapter's examples. -/
import Derived.Test.YtnjmckfkfkalgabLimN
import Derived.Test.YtnjmckfkfkalgabLimD
namespace Go.Proofs.Ytnjmckfkfkalgab
open Go.RowKit

theorem lAdd0 (u v : Value) (xs ys : List Nat) (w : World) (hu : Row .u64 w u xs) (hv : Row .u64 w v ys) (hdx : Digs 18446744073709551616 xs) (hdy : Digs 18446744073709551616 ys) (hL : xs.length ≤ 100000000) (hM : ys.length ≤ 100000000) :
    Calls Try.prog 8 #[.pointer none, u, v] w fun e w' => ∃ v', e = .returned (.tuple #[v', .int .u64 (oneN (decide (2 ^ (64 * max xs.length ys.length) ≤ val 18446744073709551616 xs + val 18446744073709551616 ys)) : Nat)]) ∧ Row .u64 w' v' (digs 18446744073709551616 (val 18446744073709551616 xs + val 18446744073709551616 ys) (max xs.length ys.length)) ∧ Kept Nought w w' := by
  refine (lAdd none u v xs ys w (TrRoom.none w 1 (by omega)) (RowT.none hu) (RowT.none hv) hdx hdy hL hM).mono ?_
  rintro e w' ⟨v', rfl, ho, o', hd⟩
  exact ⟨v', rfl, own_row ho (digs_length _ _ _), hd.none.2⟩

theorem lSub0 (u v : Value) (xs ys : List Nat) (w : World) (hu : Row .u64 w u xs) (hv : Row .u64 w v ys) (hdx : Digs 18446744073709551616 xs) (hdy : Digs 18446744073709551616 ys) (hL : xs.length ≤ 100000000) (hM : ys.length ≤ 100000000) :
    Calls Try.prog 9 #[.pointer none, u, v] w fun e w' => ∃ v', e = .returned (.tuple #[v', .int .u64 (oneN (decide (val 18446744073709551616 xs < val 18446744073709551616 ys)) : Nat)]) ∧ Row .u64 w' v' (digs 18446744073709551616 (subN (val 18446744073709551616 xs) (val 18446744073709551616 ys) (max xs.length ys.length)) (max xs.length ys.length)) ∧ Kept Nought w w' := by
  refine (lSub none u v xs ys w (TrRoom.none w 1 (by omega)) (RowT.none hu) (RowT.none hv) hdx hdy hL hM).mono ?_
  rintro e w' ⟨v', rfl, ho, o', hd⟩
  exact ⟨v', rfl, own_row ho (digs_length _ _ _), hd.none.2⟩

theorem ex4a : oneN (decide (2 ^ (64 * max [18446744073709551615].length [1].length) ≤ val 18446744073709551616 [18446744073709551615] + val 18446744073709551616 [1])) = 1 ∧ digs 18446744073709551616 (val 18446744073709551616 [18446744073709551615] + val 18446744073709551616 [1]) (max [18446744073709551615].length [1].length) = [0] := by decide +kernel

theorem ex4b : oneN (decide (val 18446744073709551616 [0] < val 18446744073709551616 [1])) = 1 ∧ digs 18446744073709551616 (subN (val 18446744073709551616 [0]) (val 18446744073709551616 [1]) (max [0].length [1].length)) (max [0].length [1].length) = [18446744073709551615] := by decide +kernel

theorem two_rows (x y : Nat) (w : World) : Row .u64 ((w.alloc (.cells #[.int .u64 (x : Nat)] 24)).alloc (.cells #[.int .u64 (y : Nat)] 24)) (.slice (some ⟨w.heap.size, 0, none⟩) 1 1) [x] ∧ Row .u64 ((w.alloc (.cells #[.int .u64 (x : Nat)] 24)).alloc (.cells #[.int .u64 (y : Nat)] 24)) (.slice (some ⟨w.heap.size + 1, 0, none⟩) 1 1) [y] := by
  refine ⟨(row_new1 .u64 w x _).grew ((Kept.refl _ _).alloc _), ?_⟩
  have := row_new1 .u64 (w.alloc (.cells #[.int .u64 (x : Nat)] 24)) y 24
  simpa using this

set_option maxRecDepth 20000 in
set_option maxHeartbeats 2000000 in
/-- awake. -/
theorem lAwake (w : World) : Calls Try.prog 6 #[] w fun r w' => r = .returned (.bool true) ∧ Kept Nought w w' := by
  have hd : ∀ x : Nat, x < 18446744073709551616 → Digs 18446744073709551616 [x] := fun x hx => Digs.one hx
  have r1 := two_rows 18446744073709551615 1 w
  have k1 : Kept Nought w ((w.alloc (.cells #[.int .u64 18446744073709551615] 24)).alloc (.cells #[.int .u64 1] 24)) := ((Kept.refl Nought w).alloc _).alloc _
  have hA := lAdd0 _ _ _ _ _ r1.1 r1.2 (hd _ (by omega)) (hd _ (by omega)) (by simp) (by simp)
  rw [ex4a.1, ex4a.2] at hA
  clear r1
  go_enter Try.func6, Try.ntmps6
  go_wp2_with fail
  refine hA.mono ?_
  rintro e w2 ⟨v2, rfl, hr2, k2⟩
  have hk2 := k1.trans k2
  have r3 := two_rows 0 1 w2
  have k3 : Kept Nought w2 ((w2.alloc (.cells #[.int .u64 0] 24)).alloc (.cells #[.int .u64 1] 24)) := ((Kept.refl Nought w2).alloc _).alloc _
  have hS := lSub0 _ _ _ _ _ r3.1 r3.2 (hd _ (by omega)) (hd _ (by omega)) (by simp) (by simp)
  rw [ex4b.1, ex4b.2] at hS
  clear hA k1 k2 r3 hd
  go_wp2_with fail
  refine hS.mono ?_
  rintro e w4 ⟨v4, rfl, hr4, k4⟩
  have hr2' := (hr2.grew k3).grew k4
  have hk4 := (hk2.trans k3).trans k4
  clear hS hr2 hk2 k3 k4
  obtain ⟨ao, n, cap, rfl, hL, _, _, _, hnum⟩ := hr2'.open
  obtain ⟨bo, m, dap, rfl, hM, _, _, _, hnum4⟩ := hr4.open
  obtain rfl : n = 1 := hL.out.symm
  obtain rfl : m = 1 := hM.out.symm
  obtain ⟨b, off, rfl, hc0⟩ := hnum 0 (by omega)
  obtain ⟨b4, off4, rfl, hc4⟩ := hnum4 0 (by omega)
  have hc0' : w4.cell? ⟨b, off, none⟩ = some (.int .u64 0) := hc0
  have hc4' : w4.cell? ⟨b4, off4, none⟩ = some (.int .u64 18446744073709551615) := hc4
  clear hnum hnum4 hc0 hc4 hr2' hr4 hL hM
  go_wp2
  go_ret
  exact ⟨rfl, hk4⟩

end Go.Proofs.Ytnjmckfkfkalgab
