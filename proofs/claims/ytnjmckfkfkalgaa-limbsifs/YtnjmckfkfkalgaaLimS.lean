/- Package limbs with no trace: AddIf, SubIf. -/
import Derived.Test.YtnjmckfkfkalgaaLimN
import Derived.Test.YtnjmckfkfkalgaaLimD
namespace Go.Proofs.Ytnjmckfkfkalgaa
open Go.RowKit

theorem lAddIf0 (bit : Nat) (hbit : bit < 18446744073709551616) (u v : Value) (xs ys : List Nat) (w : World) (hu : Row .u64 w u xs) (hv : Row .u64 w v ys) (hdx : Digs 18446744073709551616 xs) (hdy : Digs 18446744073709551616 ys) (hL : xs.length ≤ 100000000) (hM : ys.length ≤ 100000000) :
    Calls Try.prog 31 #[.pointer none, .int .u64 (bit : Nat), u, v] w fun e w' => ∃ v', e = .returned (.tuple #[v', .int .u64 (selN bit (oneN (decide (2 ^ (64 * max xs.length ys.length) ≤ val 18446744073709551616 xs + val 18446744073709551616 ys))) 0 : Nat)]) ∧ Row .u64 w' v' (digs 18446744073709551616 (selN bit (val 18446744073709551616 xs + val 18446744073709551616 ys) (val 18446744073709551616 xs)) (max xs.length ys.length)) ∧ Kept Nought w w' := by
  refine (lAddIf none bit hbit u v xs ys w (TrRoom.none w 1 (by omega)) (RowT.none hu) (RowT.none hv) hdx hdy hL hM).mono ?_
  rintro e w' ⟨v', rfl, ho, o', hd⟩
  exact ⟨v', rfl, own_row ho (digs_length _ _ _), hd.none.2⟩

theorem lSubIf0 (bit : Nat) (hbit : bit < 18446744073709551616) (u v : Value) (xs ys : List Nat) (w : World) (hu : Row .u64 w u xs) (hv : Row .u64 w v ys) (hdx : Digs 18446744073709551616 xs) (hdy : Digs 18446744073709551616 ys) (hL : xs.length ≤ 100000000) (hM : ys.length ≤ 100000000) :
    Calls Try.prog 33 #[.pointer none, .int .u64 (bit : Nat), u, v] w fun e w' => ∃ v', e = .returned (.tuple #[v', .int .u64 (selN bit (oneN (decide (val 18446744073709551616 xs < val 18446744073709551616 ys))) 0 : Nat)]) ∧ Row .u64 w' v' (digs 18446744073709551616 (selN bit (subN (val 18446744073709551616 xs) (val 18446744073709551616 ys) (max xs.length ys.length)) (val 18446744073709551616 xs)) (max xs.length ys.length)) ∧ Kept Nought w w' := by
  refine (lSubIf none bit hbit u v xs ys w (TrRoom.none w 1 (by omega)) (RowT.none hu) (RowT.none hv) hdx hdy hL hM).mono ?_
  rintro e w' ⟨v', rfl, ho, o', hd⟩
  exact ⟨v', rfl, own_row ho (digs_length _ _ _), hd.none.2⟩

end Go.Proofs.Ytnjmckfkfkalgaa
