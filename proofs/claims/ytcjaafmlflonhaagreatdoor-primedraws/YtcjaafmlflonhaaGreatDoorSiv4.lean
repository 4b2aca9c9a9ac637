/- Package sieve: Primes, Passes. -/
import Derived.Test.YtcjaafmlflonhaaGreatDoorSiv3
import Derived.Test.YtcjaafmlflonhaaGreatDoorNatE
namespace Go.Proofs.YtcjaafmlflonhaaGreatDoor
open Go.RowKit Go.Shelf

attribute [local go_sem] Oper.semAt_some

/-- A slice of numbers of the call's own, in its box. -/
structure BtwL (w W : World) (gl base : Nat) (ps : List Nat) : Prop where
  row : ∃ v, Boxed W gl 198 v ∧ W.ownsRow base 3 1 v ps.length (ps.map fun z => .int .i64 (z : Nat))
  old : Kept Nought w W

theorem own_but {S : Nat → Prop} {W W' : World} {base n : Nat} {e : TypeId} {v : Value} {xs : List Value} (h : W.ownsRow base e 1 v n xs) (k : Kept S W W') (hs : ∀ b, base ≤ b → ¬ S b) : W'.ownsRow base e 1 v n xs := by
  refine ⟨h.1, ?_⟩
  rcases h.2 with h0 | ⟨g, cap, cur, rfl, hb, hg, h3⟩
  · exact .inl h0
  · exact .inr ⟨g, cap, cur, rfl, hb, (k.block g (lt_of_block hg) (hs g hb)).trans hg, h3⟩

end Go.Proofs.YtcjaafmlflonhaaGreatDoor
