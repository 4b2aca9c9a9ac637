/- Package limbs with no trace: Left, Right. -/
import Derived.Test.YtnjmckfkfkalgabLimN
import Derived.Test.YtnjmckfkfkalgabLimH
namespace Go.Proofs.Ytnjmckfkfkalgab
open Go.RowKit

theorem lLeft0 (u : Value) (xs : List Nat) (bit : Nat) (hbit : bit < 18446744073709551616) (c : Nat) (hc : c = (2 * val 18446744073709551616 xs + bit % 2) / 18446744073709551616 ^ xs.length) (w : World) (hu : Row .u64 w u xs) (hdx : Digs 18446744073709551616 xs) (hL : xs.length ≤ 100000000) :
    Calls Try.prog 10 #[.pointer none, u, .int .u64 (bit : Nat)] w fun e w' => ∃ v', e = .returned (.tuple #[v', .int .u64 (c : Nat)]) ∧ Row .u64 w' v' (digs 18446744073709551616 (2 * val 18446744073709551616 xs + bit % 2) xs.length) ∧ Kept Nought w w' := by
  subst hc
  refine (lLeft none u xs bit hbit w (TrRoom.none w 1 (by omega)) (RowT.none hu) hdx hL).mono ?_
  rintro e w' ⟨v', rfl, ho, o', hd⟩
  exact ⟨v', rfl, own_row ho (digs_length _ _ _), hd.none.2⟩

theorem lRight0 (u : Value) (xs : List Nat) (bit : Nat) (hbit : bit < 18446744073709551616) (c : Nat) (hc : c = (val 18446744073709551616 xs + bit % 2 * 18446744073709551616 ^ xs.length) % 2) (w : World) (hu : Row .u64 w u xs) (hdx : Digs 18446744073709551616 xs) (hL : xs.length ≤ 100000000) :
    Calls Try.prog 11 #[.pointer none, u, .int .u64 (bit : Nat)] w fun e w' => ∃ v', e = .returned (.tuple #[v', .int .u64 (c : Nat)]) ∧ Row .u64 w' v' (digs 18446744073709551616 ((val 18446744073709551616 xs + bit % 2 * 18446744073709551616 ^ xs.length) / 2) xs.length) ∧ Kept Nought w w' := by
  subst hc
  refine (lRight none u xs bit hbit w (TrRoom.none w 1 (by omega)) (RowT.none hu) hdx hL).mono ?_
  rintro e w' ⟨v', rfl, ho, o', hd⟩
  exact ⟨v', rfl, own_row ho (digs_length _ _ _), hd.none.2⟩

end Go.Proofs.Ytnjmckfkfkalgab
