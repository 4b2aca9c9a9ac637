/- Package limbs with no trace: Select. -/
import Derived.Test.YtnjmckfkfkalgaaLimN
import Derived.Test.YtnjmckfkfkalgaaLimF
namespace Go.Proofs.Ytnjmckfkfkalgaa
open Go.RowKit

theorem lSelect0 (bit : Nat) (hbit : bit < 18446744073709551616) (u v : Value) (xs ys : List Nat) (w : World) (hu : Row .u64 w u xs) (hv : Row .u64 w v ys) (hdx : Digs 18446744073709551616 xs) (hdy : Digs 18446744073709551616 ys) (hL : xs.length ≤ 100000000) (hM : ys.length ≤ 100000000) :
    Calls Try.prog 23 #[.pointer none, .int .u64 (bit : Nat), u, v] w fun e w' => ∃ v', e = .returned v' ∧ Row .u64 w' v' (digs 18446744073709551616 (selN bit (val 18446744073709551616 xs) (val 18446744073709551616 ys)) (max xs.length ys.length)) ∧ Kept Nought w w' := by
  refine (lSelect none bit hbit u v xs ys w (TrRoom.none w 1 (by omega)) (RowT.none hu) (RowT.none hv) hdx hdy hL hM).mono ?_
  rintro e w' ⟨v', rfl, ho, o', hd⟩
  exact ⟨v', rfl, own_row ho (digs_length _ _ _), hd.none.2⟩

end Go.Proofs.Ytnjmckfkfkalgaa
