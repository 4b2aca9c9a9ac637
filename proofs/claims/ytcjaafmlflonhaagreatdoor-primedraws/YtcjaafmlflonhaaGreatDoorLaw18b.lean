/- Layer 18: the plain draw at any arguments; what is drawn is one. -/
import Derived.Test.YtcjaafmlflonhaaGreatDoorPri6
import Derived.Test.YtcjaafmlflonhaaGreatDoorLaw18
namespace Go.Proofs.YtcjaafmlflonhaaGreatDoor
open Go.RowKit

theorem drwSays.uniq {n r : Int} {ee : Nat} {bs P P' : List Nat} {K K' E E' : Nat} {R R' : List Nat} (h : drwSays n r ee bs P K E R) (h' : drwSays n r ee bs P' K' E' R') : P' = P ∧ K' = K ∧ E' = E ∧ R' = R := by
  rcases h with ⟨h1, rfl, rfl, rfl, rfl⟩ | ⟨h1, h2⟩
  · rcases h' with ⟨_, rfl, rfl, rfl, rfl⟩ | ⟨g1, _⟩
    · exact ⟨rfl, rfl, rfl, rfl⟩
    · exact absurd h1 g1
  · rcases h' with ⟨g1, _⟩ | ⟨_, g2⟩
    · exact absurd g1 h1
    · have := DrawR.uniq g2 h2
      simp only [Prod.mk.injEq] at this
      exact this

/-- The plain draw, at any arguments. -/
theorem rDrawAny (b B : Nat) (bs : List Nat) (n r : Int) (ee : Nat) (he : ee < 18446744073709551616) (w : World) (h : ScrAt w b B bs) (hB : B ≤ w.heap.size) (hbd : Digs 256 bs) (hbl : bs.length ≤ 1000000) :
    Calls Tryz.prog 8 #[.pointer (some ⟨b, 0, none⟩), .int .i64 n, .int .u64 (ee : Int), .int .i64 r] w fun q w' => ∃ v K E, q = .returned (.tuple #[v, .int .i64 ((K : Nat) : Int), .int .i64 ((E : Nat) : Int)]) ∧ ∃ P R, drwSays n r ee bs P K E R ∧ Row .u64 w' v P ∧ ScrAt w' b B R ∧ Kept (fun x => x = b) w w' := by
  by_cases hbad : drwBad n r ee
  · refine (r18DrawBad b n r ee he w hbad).mono ?_
    rintro q w' ⟨rfl, rfl⟩
    exact ⟨_, 0, 1, rfl, [], bs, .inl ⟨hbad, rfl, rfl, rfl, rfl⟩, Row.nil _ _, h, Kept.refl _ _⟩
  · have hb2 : ¬ (n < 16 ∨ 4096 < n ∨ ee < 3 ∨ ee % 2 = 0 ∨ r < 1 ∨ 100 < r) := hbad
    obtain ⟨n', rfl⟩ : ∃ n' : Nat, n = (n' : Int) := ⟨n.toNat, by omega⟩
    obtain ⟨r', rfl⟩ : ∃ r' : Nat, r = (r' : Int) := ⟨r.toNat, by omega⟩
    refine (r18Draw b B bs n' ee r' (by omega) (by omega) (by omega) (by omega) he (by omega) (by omega) w h hB hbd hbl).mono ?_
    rintro q w' ⟨v, P, K, E, R, rfl, h1, h2, _, h3, _, h4⟩
    exact ⟨v, K, E, rfl, P, R, .inr ⟨hbad, h1⟩, h2, h3, h4⟩

end Go.Proofs.YtcjaafmlflonhaaGreatDoor
