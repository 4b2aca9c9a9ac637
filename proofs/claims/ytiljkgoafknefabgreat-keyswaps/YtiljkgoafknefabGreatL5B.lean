/- The calls of package product with no trace; the laws' first test of layer 5. -/
import Derived.Test.YtiljkgoafknefabGreatL5A
import Derived.Test.YtiljkgoafknefabGreatPrK
import Derived.Test.YtiljkgoafknefabGreatLimN
namespace Go.Proofs.YtiljkgoafknefabGreat
open Go.RowKit

theorem mul0 (ao bo : Option Addr) (L M cap dap : Nat) (xs ys : List Nat) (w : World) (hu : Row .u64 w (.slice ao L cap) xs) (hv : Row .u64 w (.slice bo M dap) ys) (hdx : Digs 18446744073709551616 xs) (hdy : Digs 18446744073709551616 ys) :
    Calls Tryz.prog 15 #[.pointer none, .slice ao L cap, .slice bo M dap] w fun e w' => ∃ v', e = .returned v' ∧ Row .u64 w' v' (mulAns (val 18446744073709551616 xs) (val 18446744073709551616 ys) L M) ∧ Kept Nought w w' := by
  refine (pMul none ao bo L M cap dap xs ys w (TrRoom.none w 300 (by omega)) (RowT.none hu) (RowT.none hv) hdx hdy).mono ?_
  rintro e w' ⟨v', rfl, hr, _, o', hd⟩
  exact ⟨v', rfl, hr, hd.none.2⟩

theorem mulWord0 (ao bo : Option Addr) (L M cap dap : Nat) (xs ys : List Nat) (x : Nat) (hx : x < 18446744073709551616) (c : Nat) (hc : c = mwTop (val 18446744073709551616 xs) x (val 18446744073709551616 ys) L M) (w : World) (hu : Row .u64 w (.slice ao L cap) xs) (hv : Row .u64 w (.slice bo M dap) ys) (hdx : Digs 18446744073709551616 xs) (hdy : Digs 18446744073709551616 ys) :
    Calls Tryz.prog 44 #[.pointer none, .slice ao L cap, .int .u64 (x : Nat), .slice bo M dap] w fun e w' => ∃ v', e = .returned (.tuple #[v', .int .u64 (c : Nat)]) ∧ Row .u64 w' v' (mwAns (val 18446744073709551616 xs) x (val 18446744073709551616 ys) L M) ∧ Kept Nought w w' := by
  refine (pMulWord none ao bo L M cap dap xs ys x hx c hc w (TrRoom.none w 300 (by omega)) (RowT.none hu) (RowT.none hv) hdx hdy).mono ?_
  rintro e w' ⟨v', rfl, hr, o', hd⟩
  exact ⟨v', rfl, hr, hd.none.2⟩

theorem same5 (u v : Value) (a : List Nat) (w : World) (hu : Row .u64 w u a) (hv : Row .u64 w v a) :
    Calls Tryz.prog 7 #[u, v] w fun r w' => r = .returned (.bool true) ∧ ∃ n, w' = w.drewN n := by
  have h := rSame u v a a w hu hv
  rw [decide_eq_true (rfl : a = a)] at h
  exact h

theorem ex5a : mulAns (val 18446744073709551616 [18446744073709551615]) (val 18446744073709551616 [18446744073709551615]) 1 1 = [1, 18446744073709551614] := by decide +kernel

theorem ex5b : divE (val 18446744073709551616 [2]) 2 1 = 0 ∧ divQ (val 18446744073709551616 [7, 0]) (val 18446744073709551616 [2]) 2 1 = [3, 0] ∧ divR (val 18446744073709551616 [7, 0]) (val 18446744073709551616 [2]) 2 1 = [1] := by decide +kernel

theorem row_two (k : IntKind) (w : World) (x y : Nat) (e : TypeId) : Row k (w.alloc (.cells #[.int k (x : Nat), .int k (y : Nat)] e)) (.slice (some ⟨w.heap.size, 0, none⟩) 2 2) [x, y] := Row.of_block (t := e) (heap_alloc_new w _) rfl (by unfold maxLen; omega)

theorem pair_rows (x y : Nat) (w : World) : Row .u64 ((w.alloc (.cells #[.int .u64 (x : Nat)] 24)).alloc (.cells #[.int .u64 (y : Nat)] 24)) (.slice (some ⟨w.heap.size, 0, none⟩) 1 1) [x] ∧ Row .u64 ((w.alloc (.cells #[.int .u64 (x : Nat)] 24)).alloc (.cells #[.int .u64 (y : Nat)] 24)) (.slice (some ⟨w.heap.size + 1, 0, none⟩) 1 1) [y] := by
  refine ⟨(row_new1 .u64 w x _).grew ((Kept.refl _ _).alloc _), ?_⟩
  have := row_new1 .u64 (w.alloc (.cells #[.int .u64 (x : Nat)] 24)) y 24
  simpa using this

theorem trio_rows (x z y : Nat) (w : World) : Row .u64 ((w.alloc (.cells #[.int .u64 (x : Nat), .int .u64 (z : Nat)] 24)).alloc (.cells #[.int .u64 (y : Nat)] 24)) (.slice (some ⟨w.heap.size, 0, none⟩) 2 2) [x, z] ∧ Row .u64 ((w.alloc (.cells #[.int .u64 (x : Nat), .int .u64 (z : Nat)] 24)).alloc (.cells #[.int .u64 (y : Nat)] 24)) (.slice (some ⟨w.heap.size + 1, 0, none⟩) 1 1) [y] := by
  refine ⟨(row_two .u64 w x z _).grew ((Kept.refl _ _).alloc _), ?_⟩
  have := row_new1 .u64 (w.alloc (.cells #[.int .u64 (x : Nat), .int .u64 (z : Nat)] 24)) y 24
  simpa using this

end Go.Proofs.YtiljkgoafknefabGreat
