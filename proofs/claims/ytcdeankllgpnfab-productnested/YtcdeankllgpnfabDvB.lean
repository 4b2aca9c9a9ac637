/- bits.Div64, Rem64, at any words. -/
import Derived.Test.YtcdeankllgpnfabDvA
namespace Go.Proofs.Ytcdeankllgpnfab
open Go.RowKit

theorem bDiv (hi lo y : Nat) (hl : lo < 18446744073709551616) (hy : y < 18446744073709551616) (hlt : hi < y) (w : World) :
    Calls Try.prog 54 #[.int .u64 (hi : Nat), .int .u64 (lo : Nat), .int .u64 (y : Nat)] w fun e w' => e = .returned (.tuple #[.int .u64 ((hi * 18446744073709551616 + lo) / y : Nat), .int .u64 ((hi * 18446744073709551616 + lo) % y : Nat)]) ∧ ∃ m, w' = w.drewN m := by
  rcases Nat.eq_zero_or_pos hi with h | h
  · subst h
    have := bDiv0 lo y hl (by omega) w
    simpa using this
  · exact bDiv1 hi lo y hl hy h hlt w

end Go.Proofs.Ytcdeankllgpnfab
