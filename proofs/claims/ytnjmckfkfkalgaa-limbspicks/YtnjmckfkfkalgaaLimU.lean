/- Package limbs with no trace: Pick. -/
import Derived.Test.YtnjmckfkfkalgaaLimN
import Derived.Test.YtnjmckfkfkalgaaLimP
namespace Go.Proofs.Ytnjmckfkfkalgaa
open Go.RowKit

theorem lPick0 (ao : Option Addr) (m cap : Nat) (A : Nat → Option Addr) (L C : Nat → Nat) (xss : Nat → List Nat) (i : Nat) (hi : i < 18446744073709551616) (w : World) (hs : Slots w ao m A L C) (hr : ∀ p, p < m → Row .u64 w (.slice (A p) (L p) (C p)) (xss p)) (hd : ∀ p, p < m → Digs 18446744073709551616 (xss p)) (hL : ∀ p, p < m → L p ≤ 100000000) (hm : m ≤ 100000000) :
    Calls Try.prog 25 #[.pointer none, .slice ao m cap, .int .u64 (i : Nat)] w fun e w' => ∃ v', e = .returned v' ∧ Row .u64 w' v' (digs 18446744073709551616 (pickN (fun p => val 18446744073709551616 (xss p)) i m) (maxOf L m)) ∧ Kept Nought w w' := by
  refine (lPick none ao m cap A L C xss i hi w (TrRoom.none w m (by omega)) hs (fun _ _ _ f => f) (fun p hp => RowT.none (hr p hp)) hd hL hm).mono ?_
  rintro e w' ⟨v', rfl, ho, o', hd⟩
  exact ⟨v', rfl, own_row ho (digs_length _ _ _), hd.none.2⟩

end Go.Proofs.Ytnjmckfkfkalgaa
