/- What the laws of layer 17 ask first: Few, awake. -/
import Derived.Test.YtgcbbadakfdcgaaMir5
namespace Go.Proofs.Ytgcbbadakfdcgaa
open Go.RowKit

theorem row1m (W : World) (z : Nat) : Row .u64 (W.alloc (.cells #[.int .u64 (z : Nat)] 26)) (.slice (some ⟨W.heap.size, 0, none⟩) 1 1) [z] :=
  Row.of_own (base := W.heap.size) (e := 26) (World.ownsRow_lit W #[.int .u64 (z : Nat)] 1 (Nat.le_refl _) (by unfold maxLen; omega) rfl)

theorem ex17 : (strE (val 18446744073709551616 [9]) (val 18446744073709551616 [2]) = 0 ∧ strongB (val 18446744073709551616 [9]) (val 18446744073709551616 [2]) = false) ∧ strE (val 18446744073709551616 [2047]) (val 18446744073709551616 [2]) = 0 ∧ strongB (val 18446744073709551616 [2047]) (val 18446744073709551616 [2]) = true := by decide +kernel

set_option maxRecDepth 20000 in
set_option maxHeartbeats 1000000 in
/-- A number and a base, each of one word, made on the spot. -/
theorem one17 (x a : Nat) (hx : x < 18446744073709551616) (ha : a < 18446744073709551616) (E : Nat) (R : Bool) (hE : strE x a = E) (hE0 : E = 0) (hR : strongB x a = R) (W : World) :
    Calls Try.prog 5 #[.slice (some ⟨W.heap.size, 0, none⟩) 1 1, .slice (some ⟨W.heap.size + 1, 0, none⟩) 1 1] ((W.alloc (.cells #[.int .u64 (x : Nat)] 26)).alloc (.cells #[.int .u64 (a : Nat)] 26)) fun e w' => e = .returned (.tuple #[.bool R, .int .i64 0]) ∧ Kept Nought W w' := by
  have e1 : val 18446744073709551616 [x] = x := by simp [val]
  have e2 : val 18446744073709551616 [a] = a := by simp [val]
  have h2 := row1m (W.alloc (.cells #[.int .u64 (x : Nat)] 26)) a
  rw [World.size_alloc] at h2
  have k1 := (Kept.refl Nought W).alloc (.cells #[.int .u64 (x : Nat)] 26)
  have k2 := k1.alloc (.cells #[.int .u64 (a : Nat)] 26)
  have k3 := (Kept.refl Nought (W.alloc (.cells #[.int .u64 (x : Nat)] 26))).alloc (.cells #[.int .u64 (a : Nat)] 26)
  refine (yStrong _ _ 1 1 1 1 [x] [a] E R (by rw [e1, e2]; exact hE.symm) (by rw [e1, e2, ← hR, strongB_iff]; simp [hE0]) _ ((row1m W x).grew k3) h2 (Digs.one hx) (Digs.one ha) (by omega) (by omega)).mono ?_
  rintro e w' ⟨rfl, k⟩
  exact ⟨by rw [hE0]; rfl, k2.trans k⟩

set_option maxRecDepth 20000 in
set_option maxHeartbeats 1000000 in
/-- awake. -/
theorem f17Awake (w : World) : Calls Try.prog 4 #[] w fun r w' => r = .returned (.bool true) ∧ Kept Nought w w' := by
  have h1 := one17 9 2 (by omega) (by omega) 0 false (by decide +kernel) rfl (by decide +kernel) w
  go_enter Try.func4, Try.ntmps4
  go_wp2_with fail
  refine h1.mono ?_
  rintro e w1 ⟨rfl, k1⟩
  have h2 := one17 2047 2 (by omega) (by omega) 0 true (by decide +kernel) rfl (by decide +kernel) w1
  have K1 := toHid k1
  clear h1 k1
  go_wp2_with fail
  refine h2.mono ?_
  rintro e w2 ⟨rfl, k2⟩
  have K2 := toHid (K1.out.trans k2)
  clear h2 k2
  go_wp2_with fail
  go_ret
  exact ⟨rfl, K2.out⟩

end Go.Proofs.Ytgcbbadakfdcgaa
