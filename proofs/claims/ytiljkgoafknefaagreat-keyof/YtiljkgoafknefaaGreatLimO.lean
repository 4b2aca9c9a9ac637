/- Package limbs with no trace: Add, Sub; the laws' first test of layer 4: the chapter's examples. -/
import Derived.Test.YtiljkgoafknefaaGreatLimN
import Derived.Test.YtiljkgoafknefaaGreatLim2
namespace Go.Proofs.YtiljkgoafknefaaGreat
open Go.RowKit

theorem lSub0 (u v : Value) (xs ys : List Nat) (w : World) (hu : Row .u64 w u xs) (hv : Row .u64 w v ys) (hdx : Digs 18446744073709551616 xs) (hdy : Digs 18446744073709551616 ys) (hL : xs.length ≤ 100000000) (hM : ys.length ≤ 100000000) :
    Calls Tryz.prog 79 #[.pointer none, u, v] w fun e w' => ∃ v', e = .returned (.tuple #[v', .int .u64 (oneN (decide (val 18446744073709551616 xs < val 18446744073709551616 ys)) : Nat)]) ∧ Row .u64 w' v' (digs 18446744073709551616 (subN (val 18446744073709551616 xs) (val 18446744073709551616 ys) (max xs.length ys.length)) (max xs.length ys.length)) ∧ Kept Nought w w' := by
  refine (lSub none u v xs ys w (TrRoom.none w 1 (by omega)) (RowT.none hu) (RowT.none hv) hdx hdy hL hM).mono ?_
  rintro e w' ⟨v', rfl, ho, o', hd⟩
  exact ⟨v', rfl, own_row ho (digs_length _ _ _), hd.none.2⟩

theorem ex4a : oneN (decide (2 ^ (64 * max [18446744073709551615].length [1].length) ≤ val 18446744073709551616 [18446744073709551615] + val 18446744073709551616 [1])) = 1 ∧ digs 18446744073709551616 (val 18446744073709551616 [18446744073709551615] + val 18446744073709551616 [1]) (max [18446744073709551615].length [1].length) = [0] := by decide +kernel

theorem ex4b : oneN (decide (val 18446744073709551616 [0] < val 18446744073709551616 [1])) = 1 ∧ digs 18446744073709551616 (subN (val 18446744073709551616 [0]) (val 18446744073709551616 [1]) (max [0].length [1].length)) (max [0].length [1].length) = [18446744073709551615] := by decide +kernel

theorem two_rows (x y : Nat) (w : World) : Row .u64 ((w.alloc (.cells #[.int .u64 (x : Nat)] 24)).alloc (.cells #[.int .u64 (y : Nat)] 24)) (.slice (some ⟨w.heap.size, 0, none⟩) 1 1) [x] ∧ Row .u64 ((w.alloc (.cells #[.int .u64 (x : Nat)] 24)).alloc (.cells #[.int .u64 (y : Nat)] 24)) (.slice (some ⟨w.heap.size + 1, 0, none⟩) 1 1) [y] := by
  refine ⟨(row_new1 .u64 w x _).grew ((Kept.refl _ _).alloc _), ?_⟩
  have := row_new1 .u64 (w.alloc (.cells #[.int .u64 (x : Nat)] 24)) y 24
  simpa using this

end Go.Proofs.YtiljkgoafknefaaGreat
