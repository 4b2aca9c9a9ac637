/- Package limbs with no trace: Less, Equal, Zero. -/
import Derived.Test.YtiljkgoafknefaaGreatLimN
import Derived.Test.YtiljkgoafknefaaGreatLim2
namespace Go.Proofs.YtiljkgoafknefaaGreat
open Go.RowKit

theorem lLess0 (u v : Value) (xs ys : List Nat) (w : World) (hu : Row .u64 w u xs) (hv : Row .u64 w v ys) (hdx : Digs 18446744073709551616 xs) (hdy : Digs 18446744073709551616 ys) (hL : xs.length ≤ 100000000) (hM : ys.length ≤ 100000000) :
    Calls Tryz.prog 99 #[.pointer none, u, v] w fun e w' => e = .returned (.int .u64 (oneN (decide (val 18446744073709551616 xs < val 18446744073709551616 ys)) : Nat)) ∧ Kept Nought w w' := by
  refine (lLess none u v xs ys w (TrRoom.none w 1 (by omega)) (RowT.none hu) (RowT.none hv) hdx hdy hL hM).mono ?_
  rintro e w' ⟨rfl, o', hd⟩
  exact ⟨rfl, hd.none.2⟩

theorem lEqual0 (u v : Value) (xs ys : List Nat) (w : World) (hu : Row .u64 w u xs) (hv : Row .u64 w v ys) (hdx : Digs 18446744073709551616 xs) (hdy : Digs 18446744073709551616 ys) (hL : xs.length ≤ 100000000) (hM : ys.length ≤ 100000000) :
    Calls Tryz.prog 81 #[.pointer none, u, v] w fun e w' => e = .returned (.int .u64 (oneN (decide (val 18446744073709551616 xs = val 18446744073709551616 ys)) : Nat)) ∧ Kept Nought w w' := by
  refine (lEqual none u v xs ys w (TrRoom.none w 1 (by omega)) (RowT.none hu) (RowT.none hv) hdx hdy hL hM).mono ?_
  rintro e w' ⟨rfl, o', hd⟩
  exact ⟨rfl, hd.none.2⟩

theorem lZero0 (u : Value) (xs : List Nat) (w : World) (hu : Row .u64 w u xs) (hdx : Digs 18446744073709551616 xs) (hL : xs.length ≤ 100000000) :
    Calls Tryz.prog 106 #[.pointer none, u] w fun e w' => e = .returned (.int .u64 (oneN (decide (val 18446744073709551616 xs = 0)) : Nat)) ∧ Kept Nought w w' := by
  refine (lZero none u xs w (TrRoom.none w 1 (by omega)) (RowT.none hu) hdx hL).mono ?_
  rintro e w' ⟨rfl, o', hd⟩
  exact ⟨rfl, hd.none.2⟩

end Go.Proofs.YtiljkgoafknefaaGreat
